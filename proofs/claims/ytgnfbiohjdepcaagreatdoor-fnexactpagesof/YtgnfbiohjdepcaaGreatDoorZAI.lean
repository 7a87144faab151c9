/- Several texts laid together: PiF, PiH, PiI. -/
import Derived.Test.YtgnfbiohjdepcaaGreatDoorZAH
import Derived.Test.YtgnfbiohjdepcaaGreatDoorZAE
import Derived.Deep.RegionLaw
namespace Go.Proofs.YtgnfbiohjdepcaaGreatDoor
open Go.RowKit
def FD (w : World) : Prop := ∃ t fr, w.heap[2]? = some (.cells #[.int .i64 0, .string ⟨#[]⟩, .int .i64 (-1)] t fr)
theorem FD.lt {w : World} (h : FD w) : 2 < w.heap.size := by
  obtain ⟨t, fr, h⟩ := h
  exact (Array.getElem?_eq_some_iff.1 h).1
theorem FD.below {w w' : World} (h : FD w) (hb : Below w.heap.size w w') : FD w' := by
  have hl := h.lt
  obtain ⟨t, fr, h⟩ := h
  exact ⟨t, fr, (hb.block _ hl).trans h⟩
theorem FD.cells {w : World} (h : FD w) : w.cell? ⟨2, 0, none⟩ = some (.int .i64 0) ∧ w.cell? ⟨2, 1, none⟩ = some (.string ⟨#[]⟩) ∧ w.cell? ⟨2, 2, none⟩ = some (.int .i64 (-1)) := by
  obtain ⟨t, fr, h⟩ := h
  simp [World.cell?, h]
def denEq (a : Int) (s : ByteArray) (c a' : Int) (s' : ByteArray) (c' : Int) : Bool := (a == a') && ((s.toList == s'.toList) && (c == c'))
set_option maxRecDepth 100000 in
set_option maxHeartbeats 4000000 in
@[go_sem ↓] theorem eqDen (a : Int) (s : ByteArray) (c a' : Int) (s' : ByteArray) (c' : Int) (w : World) : (Op.equalIn 10000 147 (.agg #[.int .i64 a, .string s, .int .i64 c]) (.agg #[.int .i64 a', .string s', .int .i64 c'])).run Tryz.prog w = .ok (denEq a s c a' s' c') w := by
  unfold denEq
  cases g0 : (a == a')
  · go_simp
  cases g1 : (s.toList == s'.toList)
  · go_simp
  cases g2 : (c == c')
  · go_simp
  · go_simp
theorem empty_bytes : (⟨#[]⟩ : ByteArray).toList = [] := (noBytes _).2 rfl
theorem den_free (x : Den) : denEq x.dir x.name x.child 0 ⟨#[]⟩ (-1) = x.freeB := by
  unfold denEq Den.freeB
  congr 2
  rw [empty_bytes, Bool.eq_iff_iff, beq_iff_eq, beq_iff_eq]
  exact noBytes x.name
theorem Den.okB_free {x : Den} (h : x.freeB = true) : x.okB = true := by unfold Den.okB; rw [h]; rfl
theorem Den.okB_not {x : Den} (h : x.freeB = false) : x.okB = (decide (1 ≤ x.child ∧ x.child ≤ 15) && (decide (0 ≤ x.dir ∧ x.dir ≤ 15) && nmB x.name)) := by unfold Den.okB; rw [h, Bool.false_or]
theorem packC_name (s : ByteArray) : (packC s == 0) = nmB s := by
  unfold packC
  cases h : nmB s with
  | true =>
    have := (of_decide_eq_true h : 1 ≤ s.size ∧ s.size ≤ 6 ∧ _)
    rw [if_neg (by omega), if_pos rfl]; rfl
  | false =>
    split
    · rfl
    · rw [if_neg (by decide)]; rfl
theorem isShortName_any (s : ByteArray) (w : World) (hs : s.size ≤ maxLen) : Calls Tryz.prog 165 #[.string s] w fun e w' => e = .returned (.bool (nmB s)) ∧ Below w.heap.size w w' := by
  have P := hideIt (packC_name s)
  have LP := hideIt (fun w1 => implPackName_any s w1 hs)
  generalize packV s = pv at *
  generalize packC s = pc at *
  clear hs
  go_enter Tryz.func165, Tryz.ntmps165
  go_wp2_with fail
  refine (LP.out _).mono ?_
  rintro e w1 ⟨rfl, hb1⟩
  go_wp2
  go_ret
  exact ⟨ret_bool P.out, hb1⟩
set_option maxRecDepth 100000 in
set_option maxHeartbeats 4000000 in
theorem isDirent_any (x : Den) (w : World) (hF : FD w) (hs : x.name.size ≤ maxLen) : Calls Tryz.prog 157 #[x.v] w fun e w' => e = .returned (.bool x.okB) ∧ Below w.heap.size w w' := by
  have LN := hideIt (fun w1 => isShortName_any x.name w1 hs)
  have DF := den_free x
  have OF := @Den.okB_free x
  have ON := @Den.okB_not x
  obtain ⟨d, s, c⟩ := x
  simp only at LN DF ON hs
  unfold Den.v
  simp only
  have BW := hideIt ((Below.refl w.heap.size w).alloc (Nat.le_refl _) (.cells #[.int .i64 d, .string s, .int .i64 c] 147))
  have CB : Hid (∀ w', Below (w.alloc (.cells #[.int .i64 d, .string s, .int .i64 c] 147)).heap.size (w.alloc (.cells #[.int .i64 d, .string s, .int .i64 c] 147)) w' → w'.cell? ⟨w.heap.size, 0, none⟩ = some (.int .i64 d) ∧ w'.cell? ⟨w.heap.size, 1, none⟩ = some (.string s) ∧ w'.cell? ⟨w.heap.size, 2, none⟩ = some (.int .i64 c)) := fun w' hb => three_cells ((hb.block _ (by simp)).trans (at_new rfl))
  obtain ⟨x0, x1, x2⟩ := CB.out _ (Below.refl _ _)
  obtain ⟨f0, f1, f2⟩ := FD.cells (hF.below BW.out)
  clear hF hs
  cases h0 : (Den.mk d s c).freeB with
  | true =>
    rw [h0] at DF
    have E := hideIt (OF h0)
    clear OF ON LN CB h0
    go_enter Tryz.func157, Tryz.ntmps157
    go_wp2
    go_ret
    exact ⟨ret_bool E.out.symm, BW.out⟩
  | false =>
    rw [h0] at DF
    have E := hideIt (ON h0)
    clear OF ON h0
    cases h1 : nmB s with
    | false =>
      rw [h1] at E
      have N1 := hideIt h1
      clear h1 CB
      go_enter Tryz.func157, Tryz.ntmps157
      go_wp2_with fail
      refine (LN.out _).mono ?_
      rw [N1.out]
      rintro e w1 ⟨rfl, hb1⟩
      have B1 := hideIt (below_trans BW.out hb1 BW.out.size)
      clear hb1 x0 x1 x2 f0 f1 f2
      go_wp2
      go_ret
      exact ⟨ret_bool (by rw [E.out, Bool.and_false, Bool.and_false]), B1.out⟩
    | true =>
      rw [h1] at E
      have N1 := hideIt h1
      clear h1
      by_cases h2 : 0 ≤ d ∧ d < 16
      case neg =>
        have E2 := hideIt (show (Den.mk d s c).okB = false by rw [E.out, decide_eq_false (show ¬ (0 ≤ d ∧ d ≤ 15) by omega), Bool.false_and, Bool.and_false])
        have H2 := hideIt h2
        clear h2 E
        go_enter Tryz.func157, Tryz.ntmps157
        go_wp2_with fail
        refine (LN.out _).mono ?_
        rw [N1.out]
        rintro e w1 ⟨rfl, hb1⟩
        have B1 := hideIt (below_trans BW.out hb1 BW.out.size)
        clear x0 x1 x2 f0 f1 f2
        obtain ⟨x0, x1, x2⟩ := CB.out _ hb1
        clear hb1 CB
        go_wp2_with fail
        refine (isIndex_no _ _ _ H2.out).mono ?_
        rintro e w' ⟨rfl, hw'⟩
        subst w'
        go_wp2
        go_ret
        exact ⟨ret_bool E2.out.symm, B1.out⟩
      by_cases h3 : 0 ≤ c ∧ c < 16
      case neg =>
        have E2 := hideIt (show (Den.mk d s c).okB = false by rw [E.out, decide_eq_false (show ¬ (1 ≤ c ∧ c ≤ 15) by omega), Bool.false_and])
        have H2 := hideIt h2
        have H3 := hideIt h3
        clear h2 h3 E
        go_enter Tryz.func157, Tryz.ntmps157
        go_wp2_with fail
        refine (LN.out _).mono ?_
        rw [N1.out]
        rintro e w1 ⟨rfl, hb1⟩
        have B1 := hideIt (below_trans BW.out hb1 BW.out.size)
        clear x0 x1 x2 f0 f1 f2
        obtain ⟨x0, x1, x2⟩ := CB.out _ hb1
        clear hb1 CB
        go_wp2_with fail
        refine (isIndex_yes _ _ _ H2.out).mono ?_
        rintro e w' ⟨rfl, hw'⟩
        subst w'
        go_wp2_with fail
        refine (isIndex_no _ _ _ H3.out).mono ?_
        rintro e w' ⟨rfl, hw'⟩
        subst w'
        go_wp2
        go_ret
        exact ⟨ret_bool E2.out.symm, B1.out⟩
      have E2 := hideIt (show (Den.mk d s c).okB = (c != 0) by
        rw [E.out, decide_eq_true (show 0 ≤ d ∧ d ≤ 15 by omega)]
        by_cases h : c = 0
        · rw [h]; rfl
        · rw [decide_eq_true (show 1 ≤ c ∧ c ≤ 15 by omega), eq_comm]; simpa using h)
      have H2 := hideIt h2
      have H3 := hideIt h3
      clear h2 h3 E
      go_enter Tryz.func157, Tryz.ntmps157
      go_wp2_with fail
      refine (LN.out _).mono ?_
      rw [N1.out]
      rintro e w1 ⟨rfl, hb1⟩
      have B1 := hideIt (below_trans BW.out hb1 BW.out.size)
      clear x0 x1 x2 f0 f1 f2
      obtain ⟨x0, x1, x2⟩ := CB.out _ hb1
      clear hb1 CB
      go_wp2_with fail
      refine (isIndex_yes _ _ _ H2.out).mono ?_
      rintro e w' ⟨rfl, hw'⟩
      subst w'
      go_wp2_with fail
      refine (isIndex_yes _ _ _ H3.out).mono ?_
      rintro e w' ⟨rfl, hw'⟩
      subst w'
      go_wp2
      go_ret
      exact ⟨ret_bool E2.out.symm, B1.out⟩
end Go.Proofs.YtgnfbiohjdepcaaGreatDoor

namespace Go.Proofs.YtgnfbiohjdepcaaGreatDoor
open Go.RowKit
structure InI (W w : World) (vL : Value) (zs : List Int) : Prop where
  l : w.ownsRow W.heap.size 3 1 vL zs.length (ints zs)
  b : Below W.heap.size W w
theorem InI.z {W w : World} {vL : Value} {zs : List Int} (h : InI W w vL zs) : W.heap.size ≤ w.heap.size := h.b.size
theorem InI.below {W w w' : World} {vL : Value} {zs : List Int} (h : InI W w vL zs) (hb : Below w.heap.size w w') : InI W w' vL zs :=
  ⟨((own_block h.l).below hb (Nat.le_refl _)).1, below_trans h.b hb h.z⟩
theorem InI.grow {W w w' : World} {vL v' : Value} {zs : List Int} (h : InI W w vL zs) (x : Int) (ho : w'.ownsRow W.heap.size 3 1 v' (zs.length + 1) (ints zs ++ [.int .i64 x])) (hg : w.grownBy w' vL.ownBlock) : InI W w' v' (zs ++ [x]) :=
  ⟨by rw [ints_snoc, List.length_append]; exact ho, h.b.grown hg h.z (fun q hq => (h.l.lt q hq).1)⟩
theorem one_int (x : Int) : ∀ u ∈ [Value.int .i64 x], u.oneCell' = true := by
  intro u hu
  rw [List.mem_singleton.1 hu]
  rfl
def somes (zs : List Int) : List Int := zs.filter fun z => z != 0
def mapped (ws : List Ino) : List Int := ws.flatMap fun x => somes x.map
def mapd (ws : List Ino) (k : Nat) (j : Nat) : List Int := mapped (ws.take k) ++ somes (((ws[k]?).map Ino.map).getD [] |>.take j)
theorem mapd_zero (ws : List Ino) (k : Nat) : mapd ws k 0 = mapped (ws.take k) := by simp [mapd, somes]
theorem mapd_succ {ws : List Ino} {k : Nat} (hk : k < ws.length) {j : Nat} (hj : j < 8) : mapd ws k (j + 1) = if ws[k].map.getD j 0 = 0 then mapd ws k j else mapd ws k j ++ [ws[k].map.getD j 0] := by
  have hl : j < ws[k].map.length := hj
  have e : ws[k].map.getD j 0 = ws[k].map[j] := by rw [List.getD_eq_getElem?_getD, List.getElem?_eq_getElem hl]; rfl
  unfold mapd somes
  rw [List.getElem?_eq_getElem hk]
  simp only [Option.map_some, Option.getD_some]
  rw [List.take_succ_eq_append_getElem hl, List.filter_append, e]
  by_cases h : ws[k].map[j] = 0
  · rw [if_pos h, h]; simp
  · rw [if_neg h]; simp [h]
theorem mapd_full {ws : List Ino} {k : Nat} (hk : k < ws.length) : mapd ws k 8 = mapped (ws.take (k + 1)) := by
  unfold mapd mapped
  rw [List.getElem?_eq_getElem hk, List.take_succ_eq_append_getElem hk, List.flatMap_append]
  simp [Ino.map]
theorem somes_len (zs : List Int) : (somes zs).length ≤ zs.length := List.length_filter_le _ _
theorem mapped_len (ws : List Ino) : (mapped ws).length ≤ 8 * ws.length := by
  induction ws with
  | nil => simp [mapped]
  | cons x ws ih =>
    have h1 := somes_len x.map
    have h2 : x.map.length = 8 := rfl
    unfold mapped at *
    rw [List.flatMap_cons, List.length_append, List.length_cons]
    omega
theorem mapd_len (ws : List Ino) (k j : Nat) (hk : k < ws.length) (hj : j ≤ 8) : (mapd ws k j).length ≤ 8 * ws.length := by
  have h1 := mapped_len (ws.take k)
  have h2 := somes_len (((ws[k]?).map Ino.map).getD [] |>.take j)
  have h3 : (((ws[k]?).map Ino.map).getD [] |>.take j).length ≤ j := by rw [List.length_take]; omega
  unfold mapd
  rw [List.length_append]
  rw [List.length_take] at h1
  omega
set_option maxRecDepth 100000 in
theorem idx8 (x : Ino) (j : Nat) (hj : j < 8) (w : World) : (Instr.index 68 (.agg #[.int .i64 x.m0, .int .i64 x.m1, .int .i64 x.m2, .int .i64 x.m3, .int .i64 x.m4, .int .i64 x.m5, .int .i64 x.m6, .int .i64 x.m7]) (.int .i64 (j : Int))).run Tryz.prog w = .ok (.int .i64 (x.map.getD j 0)) w := by
  rcases (show j = 0 ∨ j = 1 ∨ j = 2 ∨ j = 3 ∨ j = 4 ∨ j = 5 ∨ j = 6 ∨ j = 7 by omega) with rfl | rfl | rfl | rfl | rfl | rfl | rfl | rfl <;> simp [Instr.index, run_underlying Tryz.underlying68, asIntOf, Ino.map, go_sem]
set_option maxRecDepth 100000 in
set_option maxHeartbeats 4000000 in
theorem mappedEntries_any (v : Value) (ws : List Ino) (w : World) (h : RdN w v ws) (hn : ws.length ≤ 4096) :
    Calls Tryz.prog 140 #[v] w fun e w' => ∃ v', e = .returned v' ∧ Row w' 3 1 w.heap.size w'.heap.size v' (mapped ws).length (ints (mapped ws)) ∧ Below w.heap.size w w' := by
  obtain ⟨aW, cW, rfl, _, hcW⟩ := h.shape
  have HW := hideIt hcW
  clear h hcW
  go_enter Tryz.func140, Tryz.ntmps140
  go_wp2
  go_loopw [3, 5, 7, 10] (fun vL _ _ i wr => ∃ k : Nat, k ≤ ws.length ∧ i = .int .i64 k ∧ Hid (InI w wr vL (mapped (ws.take k))) ∧ w.heap.size ≤ wr.heap.size) (fun _ _ _ i _ => ws.length - (intOf i).toNat)
  case atStart => exact ⟨0, by omega, rfl, ⟨World.ownsRow_nil _ _ _ _, Below.refl _ _⟩, Nat.le_refl _⟩
  case round =>
    obtain ⟨k, hk, rfl, I, hz⟩ := hrel
    by_cases hlt : k < ws.length
    · obtain ⟨b, o, rfl, hbl, hcell⟩ := HW.out (by omega)
      obtain ⟨a0, a1, a2, a3, a4, a5, a6, a7, a8, a9, a10⟩ := hcell k hlt
      have d0 := (I.out.b.cell (p := ⟨b, o + k * 11, none⟩) hbl).trans a0
      have d1 := (I.out.b.cell (p := ⟨b, o + k * 11 + 1, none⟩) hbl).trans a1
      have d2 := (I.out.b.cell (p := ⟨b, o + k * 11 + 2, none⟩) hbl).trans a2
      have d3 := (I.out.b.cell (p := ⟨b, o + k * 11 + 3, none⟩) hbl).trans a3
      have d4 := (I.out.b.cell (p := ⟨b, o + k * 11 + 4, none⟩) hbl).trans a4
      have d5 := (I.out.b.cell (p := ⟨b, o + k * 11 + 5, none⟩) hbl).trans a5
      have d6 := (I.out.b.cell (p := ⟨b, o + k * 11 + 6, none⟩) hbl).trans a6
      have d7 := (I.out.b.cell (p := ⟨b, o + k * 11 + 7, none⟩) hbl).trans a7
      have d8 := (I.out.b.cell (p := ⟨b, o + k * 11 + 8, none⟩) hbl).trans a8
      have d9 := (I.out.b.cell (p := ⟨b, o + k * 11 + 9, none⟩) hbl).trans a9
      have d10 := (I.out.b.cell (p := ⟨b, o + k * 11 + 10, none⟩) hbl).trans a10
      have k0 : (0 : Int) ≤ (k : Int) := by omega
      have k1 : (k : Int) < (ws.length : Int) := by omega
      have MZ := hideIt (mapd_zero ws k)
      have MF := hideIt (mapd_full hlt)
      have MS := hideIt (fun j (hj : j < 8) => mapd_succ hlt hj)
      have ML := hideIt (fun j (hj : j ≤ 8) => mapd_len ws k j hlt hj)
      have HM := hideIt (fun j (hj : j < 8) => ws[k].at j hj)
      clear a0 a1 a2 a3 a4 a5 a6 a7 a8 a9 a10 hcell
      generalize ws[k] = x at *
      have START : Hid (InI w (wr.alloc (.cells x.cs.toArray 70)) u3 (mapd ws k 0)) := by
        have := I.out.below ((Below.refl wr.heap.size wr).alloc (Nat.le_refl _) (.cells x.cs.toArray 70))
        unfold Hid
        rw [MZ.out]
        exact this
      unfold Ino.cs at START
      have hz0 := START.out.z
      clear I
      go_wp2
      go_loopw [3, 7, 16] (fun vL _ i wq => ∃ j : Nat, j ≤ 8 ∧ i = .int .i64 j ∧ Hid (InI w wq vL (mapd ws k j)) ∧ w.heap.size ≤ wq.heap.size) (fun _ _ i _ => 8 - (intOf i).toNat)
      case atStart => exact ⟨0, by omega, rfl, START, hz0⟩
      case round =>
        obtain ⟨j, hj, rfl, J, hzj⟩ := hrel
        clear START hz0 d0 d1 d2 d3 d4 d5 d6 d7 d8 d9 d10
        have j0 : (0 : Int) ≤ (j : Int) := by omega
        by_cases hlj : j < 8
        · have j1 : (j : Int) < 8 := by omega
          have ix := idx8 x j hlj
          have MJ := hideIt (MS.out j hlj)
          have hlen := ML.out j (by omega)
          generalize x.map.getD j 0 = z at ix MJ
          by_cases q : z = 0
          · have q' : (z != 0) = false := by rw [q]; rfl
            have G : Hid (InI w wr u3 (mapd ws k (j + 1))) := by unfold Hid; rw [MJ.out, if_pos q]; exact J.out
            clear q J MJ
            go_wp2
            go_roundw
            case rel => exact ⟨j + 1, by omega, by go_num, G, hzj⟩
            case measure => simp [intOf]; omega
          · have q' : (z != 0) = true := by rw [bne_iff_ne]; exact q
            have JB : Hid (InI w (wr.alloc (.cells #[.int .i64 z] 3)) u3 (mapd ws k j)) := J.out.below ((Below.refl _ _).alloc (Nat.le_refl _) _)
            have RB := hideIt (rd_int wr z)
            have hzb := JB.out.z
            have MN : Hid (mapd ws k (j + 1) = mapd ws k j ++ [z]) := by unfold Hid; rw [MJ.out, if_neg q]
            clear q J MJ
            go_wp2_with (at_builtin; refine wpList_append_rd _ rfl (.tmp 21) (.tmp 23) 22 rfl w.heap.size 3 (.int .i64 0) 1 8 Tryz.underlying22 info3 rfl (by decide) _ _ _ rfl JB.out.l _ 1 _ rfl RB.out (one_int _) (by simp [maxLen]; omega) (by omega) (by omega) ?_)
            intro vN wN hownN hgrN
            have G := hideIt (JB.out.grow z hownN hgrN)
            rw [← MN.out] at G
            have hzN := G.out.z
            clear hownN hgrN JB RB
            go_wp2
            go_roundw
            case rel => exact ⟨j + 1, by omega, by go_num, G, hzN⟩
            case measure => simp [intOf]; omega
        · obtain rfl : j = 8 := by omega
          have G : Hid (InI w wr u3 (mapped (ws.take (k + 1)))) := by unfold Hid; rw [← MF.out]; exact J.out
          clear J
          go_wp2
          go_roundw
          case rel => exact ⟨k + 1, by omega, by go_num, G, hzj⟩
          case measure => simp [intOf]; omega
    · obtain rfl : k = ws.length := by omega
      have E := hideIt (show mapped (ws.take ws.length) = mapped ws by rw [List.take_length])
      rw [E.out] at I
      obtain ⟨-, aL, cL, hvL, -⟩ := (own_block I.out.l).rd
      subst hvL
      go_wp2
      go_ret
      exact ⟨_, rfl, own_block I.out.l, I.out.b⟩
end Go.Proofs.YtgnfbiohjdepcaaGreatDoor

namespace Go.Proofs.YtgnfbiohjdepcaaGreatDoor
open Go.RowKit
theorem rd_den (w1 : World) (x : Den) : Rd (w1.alloc (.cells #[.int .i64 x.dir, .string x.name, .int .i64 x.child] 147)) 3 (.slice (some ⟨w1.heap.size, 0, none⟩) 1 1) 1 (dens [x]) := by
  refine ⟨rfl, _, _, rfl, ⟨Nat.le_refl _, fun e => by cases e⟩, fun _ => ⟨w1.heap.size, 0, rfl, by simp, fun j hj => ?_⟩⟩
  obtain ⟨e0, e1, e2⟩ := three_cells (at_new (w := w1) (o := .cells #[.int .i64 x.dir, .string x.name, .int .i64 x.child] 147) rfl)
  rcases (show j = 0 ∨ j = 1 ∨ j = 2 by omega) with rfl | rfl | rfl
  · exact e0
  · exact e1
  · exact e2
theorem dens_ones (l : List Den) : ∀ u ∈ dens l, u.oneCell' = true := by
  intro u hu
  simp only [dens, List.mem_flatMap] at hu
  obtain ⟨m, _, hm⟩ := hu
  simp [Den.cells] at hm
  rcases hm with rfl | rfl | rfl <;> rfl
theorem dens_app (l l' : List Den) : dens (l ++ l') = dens l ++ dens l' := by simp [dens]
structure DnI (W w : World) (vL : Value) (ds : List Den) : Prop where
  l : w.ownsRow W.heap.size 147 3 vL ds.length (dens ds)
  b : Below W.heap.size W w
theorem DnI.z {W w : World} {vL : Value} {ds : List Den} (h : DnI W w vL ds) : W.heap.size ≤ w.heap.size := h.b.size
theorem DnI.below {W w w' : World} {vL : Value} {ds : List Den} (h : DnI W w vL ds) (hb : Below w.heap.size w w') : DnI W w' vL ds :=
  ⟨((own_block h.l).below hb (Nat.le_refl _)).1, below_trans h.b hb h.z⟩
theorem DnI.grow {W w w' : World} {vL v' : Value} {ds : List Den} (h : DnI W w vL ds) (ms : List Den) (ho : w'.ownsRow W.heap.size 147 3 v' (ds.length + ms.length) (dens ds ++ dens ms)) (hg : w.grownBy w' vL.ownBlock) : DnI W w' v' (ds ++ ms) :=
  ⟨by rw [dens_app, List.length_append]; exact ho, h.b.grown hg h.z (fun q hq => (h.l.lt q hq).1)⟩
def takenD (ps : List Den) : List Den := ps.filter fun x => !x.freeB
theorem taken_succ {ps : List Den} {k : Nat} (h : k < ps.length) : takenD (ps.take (k + 1)) = if ps[k].freeB = true then takenD (ps.take k) else takenD (ps.take k) ++ [ps[k]] := by
  unfold takenD
  rw [List.take_succ_eq_append_getElem h, List.filter_append]
  cases hf : ps[k].freeB <;> simp [hf]
theorem taken_len (ps : List Den) : (takenD ps).length ≤ ps.length := List.length_filter_le _ _
set_option maxRecDepth 100000 in
set_option maxHeartbeats 4000000 in
theorem takenDirents_any (v : Value) (ps : List Den) (w : World) (h : RdD w v ps) (hn : ps.length ≤ 4096) (hF : FD w) :
    Calls Tryz.prog 134 #[v] w fun e w' => ∃ v', e = .returned v' ∧ Row w' 147 3 w.heap.size w'.heap.size v' (takenD ps).length (dens (takenD ps)) ∧ Below w.heap.size w w' := by
  obtain ⟨aP, cP, rfl, _, hcP⟩ := h.shape
  have HP := hideIt hcP
  have F := hideIt hF
  clear h hcP hF
  go_enter Tryz.func134, Tryz.ntmps134
  go_wp2
  go_loopw [3, 5, 8] (fun vL _ i wr => ∃ k : Nat, k ≤ ps.length ∧ i = .int .i64 k ∧ Hid (DnI w wr vL (takenD (ps.take k))) ∧ w.heap.size ≤ wr.heap.size) (fun _ _ i _ => ps.length - (intOf i).toNat)
  case atStart => exact ⟨0, by omega, rfl, ⟨World.ownsRow_nil _ _ _ _, Below.refl _ _⟩, Nat.le_refl _⟩
  case round =>
    obtain ⟨k, hk, rfl, I, hz⟩ := hrel
    by_cases hlt : k < ps.length
    · obtain ⟨b, o, rfl, hbl, hcell⟩ := HP.out (by omega)
      obtain ⟨a0, a1, a2⟩ := hcell k hlt
      have d0 := (I.out.b.cell (p := ⟨b, o + k * 3, none⟩) hbl).trans a0
      have d1 := (I.out.b.cell (p := ⟨b, o + k * 3 + 1, none⟩) hbl).trans a1
      have d2 := (I.out.b.cell (p := ⟨b, o + k * 3 + 2, none⟩) hbl).trans a2
      have k0 : (0 : Int) ≤ (k : Int) := by omega
      have k1 : (k : Int) < (ps.length : Int) := by omega
      have TS := hideIt (taken_succ hlt)
      have TL := taken_len (ps.take k)
      rw [List.length_take] at TL
      have DF := den_free ps[k]
      clear a0 a1 a2 hcell
      generalize ps[k] = x at *
      have IB : Hid (DnI w (wr.alloc (.cells #[.int .i64 x.dir, .string x.name, .int .i64 x.child] 147)) u3 (takenD (ps.take k))) := I.out.below ((Below.refl _ _).alloc (Nat.le_refl _) _)
      obtain ⟨f0, f1, f2⟩ := FD.cells (F.out.below IB.out.b)
      have hzb := IB.out.z
      cases hf : x.freeB with
      | true =>
        have G : Hid (DnI w (wr.alloc (.cells #[.int .i64 x.dir, .string x.name, .int .i64 x.child] 147)) u3 (takenD (ps.take (k + 1)))) := by unfold Hid; rw [TS.out, if_pos hf]; exact IB.out
        rw [hf] at DF
        clear IB I TS hf TL
        go_wp2
        go_roundw
        case rel => exact ⟨k + 1, by omega, by go_num, G, hzb⟩
        case measure => simp [intOf]; omega
      | false =>
        have IC : Hid (DnI w ((wr.alloc (.cells #[.int .i64 x.dir, .string x.name, .int .i64 x.child] 147)).alloc (.cells #[.int .i64 x.dir, .string x.name, .int .i64 x.child] 147)) u3 (takenD (ps.take k))) := IB.out.below ((Below.refl _ _).alloc (Nat.le_refl _) _)
        have RC := hideIt (rd_den (wr.alloc (.cells #[.int .i64 x.dir, .string x.name, .int .i64 x.child] 147)) x)
        have hzc := IC.out.z
        have TN : Hid (takenD (ps.take (k + 1)) = takenD (ps.take k) ++ [x]) := by unfold Hid; rw [TS.out, if_neg (by rw [hf]; decide)]
        rw [hf] at DF
        rw [World.size_alloc] at RC
        clear IB I TS hf
        go_wp2_with (at_builtin; refine wpList_append_rd _ rfl (.tmp 15) (.tmp 17) 60 rfl w.heap.size 147 (.agg #[.int .i64 0, .string ⟨#[]⟩, .int .i64 0]) 3 32 Tryz.underlying60 infoDen rfl (by decide) _ _ _ rfl IC.out.l _ 1 _ rfl RC.out (dens_ones _) (by simp [maxLen]; omega) (by omega) (by omega) ?_)
        intro vN wN hownN hgrN
        have G := hideIt (IC.out.grow [x] hownN hgrN)
        rw [← TN.out] at G
        have hzN := G.out.z
        clear hownN hgrN IC RC
        go_wp2
        go_roundw
        case rel => exact ⟨k + 1, by omega, by go_num, G, hzN⟩
        case measure => simp [intOf]; omega
    · obtain rfl : k = ps.length := by omega
      have E := hideIt (show takenD (ps.take ps.length) = takenD ps by rw [List.take_length])
      rw [E.out] at I
      obtain ⟨-, aL, cL, hvL, -⟩ := (own_block I.out.l).rd
      subst hvL
      go_wp2
      go_ret
      exact ⟨_, rfl, own_block I.out.l, I.out.b⟩
end Go.Proofs.YtgnfbiohjdepcaaGreatDoor
