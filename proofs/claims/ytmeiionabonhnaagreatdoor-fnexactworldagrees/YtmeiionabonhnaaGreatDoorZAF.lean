/- Several texts laid together: PiF, PiI, StA, AoA, AnA. -/
import Derived.Test.YtmeiionabonhnaaGreatDoorZAE
import Derived.Test.YtmeiionabonhnaaGreatDoorZAD
import Derived.Deep.RegionLaw
import Derived.Test.YtmeiionabonhnaaGreatDoorZAB
import Derived.Deep.DeepCutAuto
import Derived.Deep.RegionWith
import Derived.Deep.RegionHeld3
import Derived.Lib.Strings
namespace Go.Proofs.YtmeiionabonhnaaGreatDoor
open Go.RowKit
def FD (w : World) : Prop := ∃ t fr, w.heap[1]? = some (.cells #[.int .i64 0, .string ⟨#[]⟩, .int .i64 (-1)] t fr)
theorem FD.lt {w : World} (h : FD w) : 1 < w.heap.size := by
  obtain ⟨t, fr, h⟩ := h
  exact (Array.getElem?_eq_some_iff.1 h).1
theorem FD.below {w w' : World} (h : FD w) (hb : Below w.heap.size w w') : FD w' := by
  have hl := h.lt
  obtain ⟨t, fr, h⟩ := h
  exact ⟨t, fr, (hb.block _ hl).trans h⟩
theorem FD.cells {w : World} (h : FD w) : w.cell? ⟨1, 0, none⟩ = some (.int .i64 0) ∧ w.cell? ⟨1, 1, none⟩ = some (.string ⟨#[]⟩) ∧ w.cell? ⟨1, 2, none⟩ = some (.int .i64 (-1)) := by
  obtain ⟨t, fr, h⟩ := h
  simp [World.cell?, h]
def denEq (a : Int) (s : ByteArray) (c a' : Int) (s' : ByteArray) (c' : Int) : Bool := (a == a') && ((s.toList == s'.toList) && (c == c'))
set_option maxRecDepth 100000 in
set_option maxHeartbeats 4000000 in
@[go_sem ↓] theorem eqDen (a : Int) (s : ByteArray) (c a' : Int) (s' : ByteArray) (c' : Int) (w : World) : (Op.equalIn 10000 140 (.agg #[.int .i64 a, .string s, .int .i64 c]) (.agg #[.int .i64 a', .string s', .int .i64 c'])).run Tryz.prog w = .ok (denEq a s c a' s' c') w := by
  unfold denEq
  cases g0 : (a == a')
  · go_simp
  cases g1 : (s.toList == s'.toList)
  · go_simp
  cases g2 : (c == c')
  · go_simp
  · go_simp
theorem empty_bytes : (⟨#[]⟩ : ByteArray).toList = [] := (noBytes _).2 rfl
theorem den_free (x : Den) : denEq x.dir x.name x.child 0 ⟨#[]⟩ (-1) = x.freeB := by
  unfold denEq Den.freeB
  congr 2
  rw [empty_bytes, Bool.eq_iff_iff, beq_iff_eq, beq_iff_eq]
  exact noBytes x.name
theorem Den.okB_free {x : Den} (h : x.freeB = true) : x.okB = true := by unfold Den.okB; rw [h]; rfl
theorem Den.okB_not {x : Den} (h : x.freeB = false) : x.okB = (decide (1 ≤ x.child ∧ x.child ≤ 15) && (decide (0 ≤ x.dir ∧ x.dir ≤ 15) && nmB x.name)) := by unfold Den.okB; rw [h, Bool.false_or]
theorem packC_name (s : ByteArray) : (packC s == 0) = nmB s := by
  unfold packC
  cases h : nmB s with
  | true =>
    have := (of_decide_eq_true h : 1 ≤ s.size ∧ s.size ≤ 6 ∧ _)
    rw [if_neg (by omega), if_pos rfl]; rfl
  | false =>
    split
    · rfl
    · rw [if_neg (by decide)]; rfl
theorem isShortName_any (s : ByteArray) (w : World) (hs : s.size ≤ maxLen) : Calls Tryz.prog 237 #[.string s] w fun e w' => e = .returned (.bool (nmB s)) ∧ Below w.heap.size w w' := by
  have P := hideIt (packC_name s)
  have LP := hideIt (fun w1 => implPackName_any s w1 hs)
  generalize packV s = pv at *
  generalize packC s = pc at *
  clear hs
  go_enter Tryz.func237, Tryz.ntmps237
  go_wp2_with fail
  refine (LP.out _).mono ?_
  rintro e w1 ⟨rfl, hb1⟩
  go_wp2
  go_ret
  exact ⟨ret_bool P.out, hb1⟩
set_option maxRecDepth 100000 in
set_option maxHeartbeats 4000000 in
theorem isDirent_any (x : Den) (w : World) (hF : FD w) (hs : x.name.size ≤ maxLen) : Calls Tryz.prog 180 #[x.v] w fun e w' => e = .returned (.bool x.okB) ∧ Below w.heap.size w w' := by
  have LN := hideIt (fun w1 => isShortName_any x.name w1 hs)
  have DF := den_free x
  have OF := @Den.okB_free x
  have ON := @Den.okB_not x
  obtain ⟨d, s, c⟩ := x
  simp only at LN DF ON hs
  unfold Den.v
  simp only
  have BW := hideIt ((Below.refl w.heap.size w).alloc (Nat.le_refl _) (.cells #[.int .i64 d, .string s, .int .i64 c] 140))
  have CB : Hid (∀ w', Below (w.alloc (.cells #[.int .i64 d, .string s, .int .i64 c] 140)).heap.size (w.alloc (.cells #[.int .i64 d, .string s, .int .i64 c] 140)) w' → w'.cell? ⟨w.heap.size, 0, none⟩ = some (.int .i64 d) ∧ w'.cell? ⟨w.heap.size, 1, none⟩ = some (.string s) ∧ w'.cell? ⟨w.heap.size, 2, none⟩ = some (.int .i64 c)) := fun w' hb => three_cells ((hb.block _ (by simp)).trans (at_new rfl))
  obtain ⟨x0, x1, x2⟩ := CB.out _ (Below.refl _ _)
  obtain ⟨f0, f1, f2⟩ := FD.cells (hF.below BW.out)
  clear hF hs
  cases h0 : (Den.mk d s c).freeB with
  | true =>
    rw [h0] at DF
    have E := hideIt (OF h0)
    clear OF ON LN CB h0
    go_enter Tryz.func180, Tryz.ntmps180
    go_wp2
    go_ret
    exact ⟨ret_bool E.out.symm, BW.out⟩
  | false =>
    rw [h0] at DF
    have E := hideIt (ON h0)
    clear OF ON h0
    cases h1 : nmB s with
    | false =>
      rw [h1] at E
      have N1 := hideIt h1
      clear h1 CB
      go_enter Tryz.func180, Tryz.ntmps180
      go_wp2_with fail
      refine (LN.out _).mono ?_
      rw [N1.out]
      rintro e w1 ⟨rfl, hb1⟩
      have B1 := hideIt (below_trans BW.out hb1 BW.out.size)
      clear hb1 x0 x1 x2 f0 f1 f2
      go_wp2
      go_ret
      exact ⟨ret_bool (by rw [E.out, Bool.and_false, Bool.and_false]), B1.out⟩
    | true =>
      rw [h1] at E
      have N1 := hideIt h1
      clear h1
      by_cases h2 : 0 ≤ d ∧ d < 16
      case neg =>
        have E2 := hideIt (show (Den.mk d s c).okB = false by rw [E.out, decide_eq_false (show ¬ (0 ≤ d ∧ d ≤ 15) by omega), Bool.false_and, Bool.and_false])
        have H2 := hideIt h2
        clear h2 E
        go_enter Tryz.func180, Tryz.ntmps180
        go_wp2_with fail
        refine (LN.out _).mono ?_
        rw [N1.out]
        rintro e w1 ⟨rfl, hb1⟩
        have B1 := hideIt (below_trans BW.out hb1 BW.out.size)
        clear x0 x1 x2 f0 f1 f2
        obtain ⟨x0, x1, x2⟩ := CB.out _ hb1
        clear hb1 CB
        go_wp2_with fail
        refine (isIndex_no _ _ _ H2.out).mono ?_
        rintro e w' ⟨rfl, hw'⟩
        subst w'
        go_wp2
        go_ret
        exact ⟨ret_bool E2.out.symm, B1.out⟩
      by_cases h3 : 0 ≤ c ∧ c < 16
      case neg =>
        have E2 := hideIt (show (Den.mk d s c).okB = false by rw [E.out, decide_eq_false (show ¬ (1 ≤ c ∧ c ≤ 15) by omega), Bool.false_and])
        have H2 := hideIt h2
        have H3 := hideIt h3
        clear h2 h3 E
        go_enter Tryz.func180, Tryz.ntmps180
        go_wp2_with fail
        refine (LN.out _).mono ?_
        rw [N1.out]
        rintro e w1 ⟨rfl, hb1⟩
        have B1 := hideIt (below_trans BW.out hb1 BW.out.size)
        clear x0 x1 x2 f0 f1 f2
        obtain ⟨x0, x1, x2⟩ := CB.out _ hb1
        clear hb1 CB
        go_wp2_with fail
        refine (isIndex_yes _ _ _ H2.out).mono ?_
        rintro e w' ⟨rfl, hw'⟩
        subst w'
        go_wp2_with fail
        refine (isIndex_no _ _ _ H3.out).mono ?_
        rintro e w' ⟨rfl, hw'⟩
        subst w'
        go_wp2
        go_ret
        exact ⟨ret_bool E2.out.symm, B1.out⟩
      have E2 := hideIt (show (Den.mk d s c).okB = (c != 0) by
        rw [E.out, decide_eq_true (show 0 ≤ d ∧ d ≤ 15 by omega)]
        by_cases h : c = 0
        · rw [h]; rfl
        · rw [decide_eq_true (show 1 ≤ c ∧ c ≤ 15 by omega), eq_comm]; simpa using h)
      have H2 := hideIt h2
      have H3 := hideIt h3
      clear h2 h3 E
      go_enter Tryz.func180, Tryz.ntmps180
      go_wp2_with fail
      refine (LN.out _).mono ?_
      rw [N1.out]
      rintro e w1 ⟨rfl, hb1⟩
      have B1 := hideIt (below_trans BW.out hb1 BW.out.size)
      clear x0 x1 x2 f0 f1 f2
      obtain ⟨x0, x1, x2⟩ := CB.out _ hb1
      clear hb1 CB
      go_wp2_with fail
      refine (isIndex_yes _ _ _ H2.out).mono ?_
      rintro e w' ⟨rfl, hw'⟩
      subst w'
      go_wp2_with fail
      refine (isIndex_yes _ _ _ H3.out).mono ?_
      rintro e w' ⟨rfl, hw'⟩
      subst w'
      go_wp2
      go_ret
      exact ⟨ret_bool E2.out.symm, B1.out⟩
end Go.Proofs.YtmeiionabonhnaaGreatDoor

namespace Go.Proofs.YtmeiionabonhnaaGreatDoor
open Go.RowKit
theorem rd_den (w1 : World) (x : Den) : Rd (w1.alloc (.cells #[.int .i64 x.dir, .string x.name, .int .i64 x.child] 140)) 3 (.slice (some ⟨w1.heap.size, 0, none⟩) 1 1) 1 (dens [x]) := by
  refine ⟨rfl, _, _, rfl, ⟨Nat.le_refl _, fun e => by cases e⟩, fun _ => ⟨w1.heap.size, 0, rfl, by simp, fun j hj => ?_⟩⟩
  obtain ⟨e0, e1, e2⟩ := three_cells (at_new (w := w1) (o := .cells #[.int .i64 x.dir, .string x.name, .int .i64 x.child] 140) rfl)
  rcases (show j = 0 ∨ j = 1 ∨ j = 2 by omega) with rfl | rfl | rfl
  · exact e0
  · exact e1
  · exact e2
theorem dens_ones (l : List Den) : ∀ u ∈ dens l, u.oneCell' = true := by
  intro u hu
  simp only [dens, List.mem_flatMap] at hu
  obtain ⟨m, _, hm⟩ := hu
  simp [Den.cells] at hm
  rcases hm with rfl | rfl | rfl <;> rfl
theorem dens_app (l l' : List Den) : dens (l ++ l') = dens l ++ dens l' := by simp [dens]
structure DnI (W w : World) (vL : Value) (ds : List Den) : Prop where
  l : w.ownsRow W.heap.size 140 3 vL ds.length (dens ds)
  b : Below W.heap.size W w
theorem DnI.z {W w : World} {vL : Value} {ds : List Den} (h : DnI W w vL ds) : W.heap.size ≤ w.heap.size := h.b.size
theorem DnI.below {W w w' : World} {vL : Value} {ds : List Den} (h : DnI W w vL ds) (hb : Below w.heap.size w w') : DnI W w' vL ds :=
  ⟨((own_block h.l).below hb (Nat.le_refl _)).1, below_trans h.b hb h.z⟩
theorem DnI.grow {W w w' : World} {vL v' : Value} {ds : List Den} (h : DnI W w vL ds) (ms : List Den) (ho : w'.ownsRow W.heap.size 140 3 v' (ds.length + ms.length) (dens ds ++ dens ms)) (hg : w.grownBy w' vL.ownBlock) : DnI W w' v' (ds ++ ms) :=
  ⟨by rw [dens_app, List.length_append]; exact ho, h.b.grown hg h.z (fun q hq => (h.l.lt q hq).1)⟩
def takenD (ps : List Den) : List Den := ps.filter fun x => !x.freeB
theorem taken_succ {ps : List Den} {k : Nat} (h : k < ps.length) : takenD (ps.take (k + 1)) = if ps[k].freeB = true then takenD (ps.take k) else takenD (ps.take k) ++ [ps[k]] := by
  unfold takenD
  rw [List.take_succ_eq_append_getElem h, List.filter_append]
  cases hf : ps[k].freeB <;> simp [hf]
theorem taken_len (ps : List Den) : (takenD ps).length ≤ ps.length := List.length_filter_le _ _
set_option maxRecDepth 100000 in
set_option maxHeartbeats 4000000 in
theorem takenDirents_any (v : Value) (ps : List Den) (w : World) (h : RdD w v ps) (hn : ps.length ≤ 4096) (hF : FD w) :
    Calls Tryz.prog 75 #[v] w fun e w' => ∃ v', e = .returned v' ∧ Row w' 140 3 w.heap.size w'.heap.size v' (takenD ps).length (dens (takenD ps)) ∧ Below w.heap.size w w' := by
  obtain ⟨aP, cP, rfl, _, hcP⟩ := h.shape
  have HP := hideIt hcP
  have F := hideIt hF
  clear h hcP hF
  go_enter Tryz.func75, Tryz.ntmps75
  go_wp2
  go_loopw [3, 5, 8] (fun vL _ i wr => ∃ k : Nat, k ≤ ps.length ∧ i = .int .i64 k ∧ Hid (DnI w wr vL (takenD (ps.take k))) ∧ w.heap.size ≤ wr.heap.size) (fun _ _ i _ => ps.length - (intOf i).toNat)
  case atStart => exact ⟨0, by omega, rfl, ⟨World.ownsRow_nil _ _ _ _, Below.refl _ _⟩, Nat.le_refl _⟩
  case round =>
    obtain ⟨k, hk, rfl, I, hz⟩ := hrel
    by_cases hlt : k < ps.length
    · obtain ⟨b, o, rfl, hbl, hcell⟩ := HP.out (by omega)
      obtain ⟨a0, a1, a2⟩ := hcell k hlt
      have d0 := (I.out.b.cell (p := ⟨b, o + k * 3, none⟩) hbl).trans a0
      have d1 := (I.out.b.cell (p := ⟨b, o + k * 3 + 1, none⟩) hbl).trans a1
      have d2 := (I.out.b.cell (p := ⟨b, o + k * 3 + 2, none⟩) hbl).trans a2
      have k0 : (0 : Int) ≤ (k : Int) := by omega
      have k1 : (k : Int) < (ps.length : Int) := by omega
      have TS := hideIt (taken_succ hlt)
      have TL := taken_len (ps.take k)
      rw [List.length_take] at TL
      have DF := den_free ps[k]
      clear a0 a1 a2 hcell
      generalize ps[k] = x at *
      have IB : Hid (DnI w (wr.alloc (.cells #[.int .i64 x.dir, .string x.name, .int .i64 x.child] 140)) u3 (takenD (ps.take k))) := I.out.below ((Below.refl _ _).alloc (Nat.le_refl _) _)
      obtain ⟨f0, f1, f2⟩ := FD.cells (F.out.below IB.out.b)
      have hzb := IB.out.z
      cases hf : x.freeB with
      | true =>
        have G : Hid (DnI w (wr.alloc (.cells #[.int .i64 x.dir, .string x.name, .int .i64 x.child] 140)) u3 (takenD (ps.take (k + 1)))) := by unfold Hid; rw [TS.out, if_pos hf]; exact IB.out
        rw [hf] at DF
        clear IB I TS hf TL
        go_wp2
        go_roundw
        case rel => exact ⟨k + 1, by omega, by go_num, G, hzb⟩
        case measure => simp [intOf]; omega
      | false =>
        have IC : Hid (DnI w ((wr.alloc (.cells #[.int .i64 x.dir, .string x.name, .int .i64 x.child] 140)).alloc (.cells #[.int .i64 x.dir, .string x.name, .int .i64 x.child] 140)) u3 (takenD (ps.take k))) := IB.out.below ((Below.refl _ _).alloc (Nat.le_refl _) _)
        have RC := hideIt (rd_den (wr.alloc (.cells #[.int .i64 x.dir, .string x.name, .int .i64 x.child] 140)) x)
        have hzc := IC.out.z
        have TN : Hid (takenD (ps.take (k + 1)) = takenD (ps.take k) ++ [x]) := by unfold Hid; rw [TS.out, if_neg (by rw [hf]; decide)]
        rw [hf] at DF
        rw [World.size_alloc] at RC
        clear IB I TS hf
        go_wp2_with (at_builtin; refine wpList_append_rd _ rfl (.tmp 15) (.tmp 17) 31 rfl w.heap.size 140 (.agg #[.int .i64 0, .string ⟨#[]⟩, .int .i64 0]) 3 32 Tryz.underlying31 infoDen rfl (by decide) _ _ _ rfl IC.out.l _ 1 _ rfl RC.out (dens_ones _) (by simp [maxLen]; omega) (by omega) (by omega) ?_)
        intro vN wN hownN hgrN
        have G := hideIt (IC.out.grow [x] hownN hgrN)
        rw [← TN.out] at G
        have hzN := G.out.z
        clear hownN hgrN IC RC
        go_wp2
        go_roundw
        case rel => exact ⟨k + 1, by omega, by go_num, G, hzN⟩
        case measure => simp [intOf]; omega
    · obtain rfl : k = ps.length := by omega
      have E := hideIt (show takenD (ps.take ps.length) = takenD ps by rw [List.take_length])
      rw [E.out] at I
      obtain ⟨-, aL, cL, hvL, -⟩ := (own_block I.out.l).rd
      subst hvL
      go_wp2
      go_ret
      exact ⟨_, rfl, own_block I.out.l, I.out.b⟩
end Go.Proofs.YtmeiionabonhnaaGreatDoor

namespace Go.Proofs.YtmeiionabonhnaaGreatDoor
open Go.RowKit
def strs (ss : List ByteArray) : List Value := ss.map Value.string
theorem strs_len (ss : List ByteArray) : (strs ss).length = ss.length := by simp [strs]
theorem strs_at (ss : List ByteArray) (k : Nat) (h : k < ss.length) : (strs ss)[k]? = some (.string ss[k]) := by simp [strs, h]
theorem strs_one (ss : List ByteArray) : ∀ u ∈ strs ss, u.oneCell' = true := by
  intro u hu
  simp only [strs, List.mem_map] at hu
  obtain ⟨s, _, rfl⟩ := hu
  rfl
def RdT (w : World) (v : Value) (ss : List ByteArray) : Prop := Rd w 1 v ss.length (strs ss)
theorem RdT.shape {w : World} {v : Value} {ss : List ByteArray} (h : RdT w v ss) : ∃ ao cap, v = .slice ao ss.length cap ∧ ss.length ≤ cap ∧ (0 < ss.length → ∃ b o, ao = some ⟨b, o, none⟩ ∧ b < w.heap.size ∧ ∀ k (h : k < ss.length), w.cell? ⟨b, o + k, none⟩ = some (.string ss[k])) := by
  obtain ⟨_, ao, cap, rfl, h2, h3⟩ := h
  refine ⟨ao, cap, rfl, h2.1, fun hn => ?_⟩
  obtain ⟨b, o, e, hb, hc⟩ := h3 hn
  exact ⟨b, o, e, hb, fun k hk => (hc k (by omega)).trans (strs_at ss k hk)⟩
theorem info9 : (Tryz.prog.info? 9).map (fun i => (i.zero, i.size, i.bytes)) = some (some (.string ⟨#[]⟩), 1, 16) := by kernel_rfl
theorem rd_str (w1 : World) (x : ByteArray) : Rd (w1.alloc (.cells #[.string x] 9)) 1 (.slice (some ⟨w1.heap.size, 0, none⟩) 1 1) 1 (strs [x]) := by
  refine ⟨rfl, _, _, rfl, ⟨Nat.le_refl _, fun e => by cases e⟩, fun _ => ⟨w1.heap.size, 0, rfl, by simp, fun j hj => ?_⟩⟩
  obtain rfl : j = 0 := by omega
  exact (eight_at (xs := [.string x]) (at_new rfl) 0).1
theorem below_drewS {B : Nat} {a w : World} (h : Below B a w) (n : Nat) : Below B a (w.drewN n) := by
  induction n with
  | zero => exact h
  | succ n ih => exact ⟨ih.os, ih.tape, ih.output, ih.size, ih.block⟩
set_option maxRecDepth 100000 in
set_option maxHeartbeats 2000000 in
theorem eqStringS_same (va vb : Value) (ss : List ByteArray) (w : World) (ha : RdT w va ss) (hb : RdT w vb ss) (hn : ss.length ≤ 2147483648) :
    Calls Tryz.prog 11 #[va, vb] w fun e w' => e = .returned (.bool true) ∧ Below w.heap.size w w' := by
  obtain ⟨ao, cap, rfl, hcap, hc⟩ := ha.shape
  obtain ⟨ao2, cap2, rfl, hcap2, hc2⟩ := hb.shape
  clear ha hb
  go_enter Tryz.func11, Tryz.ntmps11
  go_wp2
  go_loopw [5] (fun i wr => ∃ k : Nat, k ≤ ss.length ∧ i = .int .i64 k ∧ Below w.heap.size w wr) (fun i _ => ss.length - (intOf i).toNat)
  case atStart => exact ⟨0, by omega, rfl, Below.refl _ _⟩
  case round =>
    obtain ⟨k, hk, rfl, hbw⟩ := hrel
    by_cases hlt : k < ss.length
    · obtain ⟨b, o, rfl, hbl, hcell⟩ := hc (by omega)
      obtain ⟨b2, o2, rfl, hbl2, hcell2⟩ := hc2 (by omega)
      have hck : wr.cell? ⟨b, o + k, none⟩ = some (.string ss[k]) := (hbw.cell (p := ⟨b, o + k, none⟩) hbl).trans (hcell k hlt)
      have hck2 : wr.cell? ⟨b2, o2 + k, none⟩ = some (.string ss[k]) := (hbw.cell (p := ⟨b2, o2 + k, none⟩) hbl2).trans (hcell2 k hlt)
      have hlt' : (k : Int) < (ss.length : Int) := by omega
      have hge : (0 : Int) ≤ (k : Int) := by omega
      clear hcell hcell2 hc hc2
      generalize ss[k] = x at hck hck2
      go_wp2
      go_quiet (fail)
      go_wp2
      go_roundw
      case rel => exact ⟨k + 1, by omega, by go_num, below_drewS hbw _⟩
      case measure => simp [intOf]; omega
    · go_wp2
      go_ret
      exact ⟨rfl, hbw⟩
end Go.Proofs.YtmeiionabonhnaaGreatDoor
namespace Go.Proofs.YtmeiionabonhnaaGreatDoor
open Go.RowKit
structure SnI (W w : World) (vL : Value) (ss : List ByteArray) : Prop where
  l : w.ownsRow W.heap.size 9 1 vL ss.length (strs ss)
  b : Below W.heap.size W w
theorem SnI.z {W w : World} {vL : Value} {ss : List ByteArray} (h : SnI W w vL ss) : W.heap.size ≤ w.heap.size := h.b.size
theorem SnI.below {W w w' : World} {vL : Value} {ss : List ByteArray} (h : SnI W w vL ss) (hb : Below w.heap.size w w') : SnI W w' vL ss :=
  ⟨((own_block h.l).below hb (Nat.le_refl _)).1, below_trans h.b hb h.z⟩
theorem strs_app (l l' : List ByteArray) : strs (l ++ l') = strs l ++ strs l' := by simp [strs]
theorem SnI.grow {W w w' : World} {vL v' : Value} {ss : List ByteArray} (h : SnI W w vL ss) (l : List ByteArray) {m : Nat} (hm : m = l.length) (ho : w'.ownsRow W.heap.size 9 1 v' (ss.length + m) (strs ss ++ strs l)) (hg : w.grownBy w' vL.ownBlock) : SnI W w' v' (ss ++ l) :=
  ⟨by rw [strs_app, List.length_append, ← hm]; exact ho, h.b.grown hg h.z (fun q hq => (h.l.lt q hq).1)⟩
theorem SnI.rd {W w : World} {vL : Value} {ss : List ByteArray} (h : SnI W w vL ss) : RdT w vL ss := (own_block h.l).rd
theorem SnI.form {W w : World} {vL : Value} {ss : List ByteArray} (h : SnI W w vL ss) (hn : vL ≠ .slice none 0 0) : ∃ b c, vL = .slice (some ⟨b, 0, none⟩) ss.length c ∧ ss.length ≤ c ∧ W.heap.size ≤ b ∧ b < w.heap.size := by
  rcases (own_block h.l).shape with ⟨e, _⟩ | ⟨b, c, rfl, hc, _⟩
  · exact absurd e hn
  · obtain ⟨_, h1, _, h2, _⟩ := (own_block h.l).at
    exact ⟨b, c, rfl, hc, h1, h2⟩
theorem SnI.some_ {W w : World} {vL : Value} {ss : List ByteArray} (h : SnI W w vL ss) (hn : 0 < ss.length) : vL ≠ .slice none 0 0 := by
  rcases (own_block h.l).shape with ⟨_, e, _⟩ | ⟨b, c, rfl, _⟩
  · omega
  · intro e; cases e
theorem rdt_take {w : World} {ao : Option Addr} {n c : Nat} {l : List ByteArray} {m : Nat} (h : RdT w (.slice ao n c) l) (hm : m ≤ l.length) : Rd w 1 (.slice ao m c) m (strs (l.take m)) := by
  obtain ⟨_, ao', cap, e, h2, h3⟩ := h
  injection e with e1 e2 e3
  subst e1 e2 e3
  have hl : (l.take m).length = m := by rw [List.length_take]; omega
  refine ⟨by rw [strs_len, hl, Nat.mul_one], ao, c, rfl, ⟨by omega, h2.2⟩, fun hp => ?_⟩
  obtain ⟨b, o, rfl, hb, hcl⟩ := h3 (by omega)
  refine ⟨b, o, rfl, hb, fun j hj => ?_⟩
  rw [hcl j (by omega), strs_at _ _ (by omega), strs_at _ _ (by omega), List.getElem_take]
theorem rdt_drop {w : World} {b o n c : Nat} {l : List ByteArray} {m : Nat} (h : RdT w (.slice (some ⟨b, o, none⟩) n c) l) (hm : m ≤ l.length) : Rd w 1 (.slice (some ⟨b, o + m, none⟩) (n - m) (c - m)) (n - m) (strs (l.drop m)) := by
  obtain ⟨ao, cap, e, hc, hcell⟩ := h.shape
  injection e with e1 e2 e3
  subst e1 e2 e3
  refine ⟨by rw [strs_len, Nat.mul_one, List.length_drop], some ⟨b, o + m, none⟩, c - m, rfl, ⟨by omega, fun e => by cases e⟩, fun hp => ?_⟩
  obtain ⟨b', o', e', hb, hcl⟩ := hcell (by omega)
  cases e'
  refine ⟨b, o + m, rfl, hb, fun j hj => ?_⟩
  rw [strs_at _ j (by rw [List.length_drop]; omega), List.getElem_drop]
  have := hcl (m + j) (by omega)
  rw [← Nat.add_assoc] at this
  exact this
theorem rdt_none {w : World} {a : Addr} {c : Nat} {l : List ByteArray} {m : Nat} (hm : m = l.length) : Rd w 1 (.slice (some a) 0 c) 0 (strs (l.drop m)) :=
  ⟨by rw [strs_len, List.length_drop]; omega, some a, c, rfl, ⟨Nat.zero_le _, fun e => by cases e⟩, fun h => absurd h (by omega)⟩
def Ord (ss : List ByteArray) : Prop := ss.Pairwise fun a b => a.toList ≤ b.toList
theorem ord_ins {ss : List ByteArray} {x : ByteArray} {k : Nat} (hk : k ≤ ss.length) (h : Ord ss) (h1 : ∀ i (h : i < ss.length), k ≤ i → x.toList < ss[i].toList) (h2 : ∀ i (h : i < ss.length), i + 1 = k → ss[i].toList ≤ x.toList) : Ord (ss.take k ++ [x] ++ ss.drop k) := by
  have ht : ∀ a ∈ ss.take k, a.toList ≤ x.toList := by
    intro a ha
    obtain ⟨i, hi, rfl⟩ := List.mem_take_iff_getElem.1 ha
    have hi := Nat.lt_min.1 hi
    by_cases e : i + 1 = k
    · exact h2 i hi.2 e
    · have h3 := h2 (k - 1) (by omega) (by omega)
      exact List.le_trans (List.pairwise_iff_getElem.1 h i (k - 1) hi.2 (by omega) (by omega)) h3
  have hd : ∀ a ∈ ss.drop k, x.toList ≤ a.toList := by
    intro a ha
    obtain ⟨i, hi, rfl⟩ := List.getElem_of_mem ha
    rw [List.length_drop] at hi
    rw [List.getElem_drop]
    exact List.le_of_lt (h1 (k + i) (by omega) (by omega))
  unfold Ord at h ⊢
  rw [List.append_assoc, List.pairwise_append]
  have h' := h
  rw [← List.take_append_drop k ss, List.pairwise_append] at h'
  refine ⟨h'.1, List.pairwise_append.2 ⟨List.pairwise_singleton _ _, h'.2.1, fun a ha b hb => ?_⟩, fun a ha b hb => ?_⟩
  · rw [List.mem_singleton.1 ha]; exact hd b hb
  · rcases List.mem_append.1 hb with hb | hb
    · rw [List.mem_singleton.1 hb]; exact ht a ha
    · exact h'.2.2 a ha b hb
theorem perm_ins (ss : List ByteArray) (x : ByteArray) (k : Nat) : (ss.take k ++ [x] ++ ss.drop k).Perm (ss ++ [x]) := by
  rw [List.append_assoc]
  refine List.Perm.trans (List.Perm.append_left _ List.perm_append_comm) ?_
  rw [← List.append_assoc, List.take_append_drop]
def namesD (ps : List Den) (d : Int) : List ByteArray := (ps.filter fun x => decide (¬ x.child < 0 ∧ x.dir = d)).map Den.name
theorem names_succ {ps : List Den} {d : Int} {k : Nat} (h : k < ps.length) : namesD (ps.take (k + 1)) d = if ¬ ps[k].child < 0 ∧ ps[k].dir = d then namesD (ps.take k) d ++ [ps[k].name] else namesD (ps.take k) d := by
  unfold namesD
  rw [List.take_succ_eq_append_getElem h, List.filter_append, List.map_append]
  by_cases c : ¬ ps[k].child < 0 ∧ ps[k].dir = d
  · rw [if_pos c]
    simp only [List.filter_cons, decide_eq_true c, if_true, List.filter_nil, List.map_cons, List.map_nil]
  · rw [if_neg c]
    simp only [List.filter_cons, decide_eq_false c, List.filter_nil]
    simp
theorem names_len (ps : List Den) (d : Int) : (namesD ps d).length ≤ ps.length := by unfold namesD; rw [List.length_map]; exact List.length_filter_le _ _
def sorted (ss : List ByteArray) : List ByteArray := ((ss.map fun s => s.data.toList).mergeSort fun x y => decide (x ≤ y)).map fun l => ⟨l.toArray⟩
theorem sorted_len (ss : List ByteArray) : (sorted ss).length = ss.length := by unfold sorted; rw [List.length_map, List.length_mergeSort, List.length_map]
theorem ord_sorted {ss l : List ByteArray} (h : Ord ss) (hp : ss.Perm l) : ss = sorted l := by
  have tr : ∀ a b c : List UInt8, decide (a ≤ b) = true → decide (b ≤ c) = true → decide (a ≤ c) = true := fun a b c h1 h2 => by simp only [decide_eq_true_eq] at *; exact List.le_trans h1 h2
  have tot : ∀ a b : List UInt8, (decide (a ≤ b) || decide (b ≤ a)) = true := fun a b => by simp only [Bool.or_eq_true, decide_eq_true_eq]; exact List.le_total a b
  have e : ss.map (fun s => s.data.toList) = (l.map fun s => s.data.toList).mergeSort fun x y => decide (x ≤ y) := by
    refine List.Perm.eq_of_pairwise (le := fun a b => decide (a ≤ b) = true) (fun a b _ _ h1 h2 => ?_) ?_ (List.pairwise_mergeSort tr tot _) ((hp.map _).trans (List.mergeSort_perm _ _).symm)
    · simp only [decide_eq_true_eq] at h1 h2
      exact List.le_antisymm h1 h2
    · rw [List.pairwise_map]
      refine List.Pairwise.imp (fun {a b} h => ?_) h
      rw [Lib.toList_data, Lib.toList_data] at h
      exact decide_eq_true h
  unfold sorted
  rw [← e, List.map_map]
  rw [show ((fun l : List UInt8 => (⟨l.toArray⟩ : ByteArray)) ∘ fun s : ByteArray => s.data.toList) = id from funext fun s => by simp]
  simp
end Go.Proofs.YtmeiionabonhnaaGreatDoor

namespace Go.Proofs.YtmeiionabonhnaaGreatDoor
open Go.RowKit
structure Aw where
  code : Int
  val : Int
  names : List ByteArray
def awc (u : Aw × Value) : List Value := [.int .i64 u.1.code, .int .i64 u.1.val, u.2]
def awv (us : List (Aw × Value)) : List Value := us.flatMap awc
theorem awc_len (u : Aw × Value) : (awc u).length = 3 := rfl
theorem awv_len (us : List (Aw × Value)) : (awv us).length = us.length * 3 := flatMap_len _ 3 awc_len us
theorem awv_at0 (us : List (Aw × Value)) (k : Nat) (h : k < us.length) : (awv us)[k * 3]? = some (.int .i64 us[k].1.code) := flatMap_at _ 3 awc_len us k 0 h (by omega)
theorem awv_at1 (us : List (Aw × Value)) (k : Nat) (h : k < us.length) : (awv us)[k * 3 + 1]? = some (.int .i64 us[k].1.val) := flatMap_at _ 3 awc_len us k 1 h (by omega)
theorem awv_at2 (us : List (Aw × Value)) (k : Nat) (h : k < us.length) : (awv us)[k * 3 + 2]? = some us[k].2 := flatMap_at _ 3 awc_len us k 2 h (by omega)
theorem awv_app (us vs : List (Aw × Value)) : awv (us ++ vs) = awv us ++ awv vs := by simp [awv]
def RdAu (w : World) (v : Value) (us : List (Aw × Value)) : Prop := Rd w 3 v us.length (awv us) ∧ ∀ k (h : k < us.length), RdT w us[k].2 us[k].1.names
def RdAs (w : World) (v : Value) (ts : List Aw) : Prop := ∃ us : List (Aw × Value), us.map Prod.fst = ts ∧ RdAu w v us
theorem RdAu.below {w w' : World} {v : Value} {us : List (Aw × Value)} (h : RdAu w v us) (hb : Below w.heap.size w w') : RdAu w' v us := ⟨Rd.below h.1 hb, fun k hk => Rd.below (h.2 k hk) hb⟩
theorem RdAs.below {w w' : World} {v : Value} {ts : List Aw} (h : RdAs w v ts) (hb : Below w.heap.size w w') : RdAs w' v ts := by
  obtain ⟨us, e, r⟩ := h
  exact ⟨us, e, r.below hb⟩
theorem RdAu.shape {w : World} {v : Value} {us : List (Aw × Value)} (h : RdAu w v us) : ∃ ao cap, v = .slice ao us.length cap ∧ us.length ≤ cap ∧ (0 < us.length → ∃ b o, ao = some ⟨b, o, none⟩ ∧ b < w.heap.size ∧
    ∀ k (h : k < us.length), w.cell? ⟨b, o + k * 3, none⟩ = some (.int .i64 us[k].1.code) ∧ w.cell? ⟨b, o + k * 3 + 1, none⟩ = some (.int .i64 us[k].1.val) ∧ w.cell? ⟨b, o + k * 3 + 2, none⟩ = some us[k].2) := by
  obtain ⟨⟨h1, ao, cap, rfl, h2, h3⟩, -⟩ := h
  refine ⟨ao, cap, rfl, h2.1, fun hp => ?_⟩
  obtain ⟨b, o, rfl, hb, hc⟩ := h3 hp
  refine ⟨b, o, rfl, hb, fun k hk => ⟨?_, ?_, ?_⟩⟩
  · exact (hc (k * 3) (by omega)).trans (awv_at0 us k hk)
  · exact (hc (k * 3 + 1) (by omega)).trans (awv_at1 us k hk)
  · exact (hc (k * 3 + 2) (by omega)).trans (awv_at2 us k hk)
structure OwAu (w : World) (lo hi : Nat) (v : Value) (us : List (Aw × Value)) : Prop where
  row : Row w 73 3 lo hi v us.length (awv us)
  pg : ∀ k (h : k < us.length), Row w 9 1 lo hi us[k].2 us[k].1.names.length (strs us[k].1.names)
  ap : ∀ j k (hj : j < us.length) (hk : k < us.length), ¬ j = k → Apt us[j].2 us[k].2
def RowAs (w : World) (lo hi : Nat) (v : Value) (ts : List Aw) : Prop := ∃ us : List (Aw × Value), us.map Prod.fst = ts ∧ OwAu w lo hi v us
theorem OwAu.rd {w : World} {lo hi : Nat} {v : Value} {us : List (Aw × Value)} (h : OwAu w lo hi v us) : RdAu w v us := ⟨h.row.rd, fun k hk => (h.pg k hk).rd⟩
theorem RowAs.rd {w : World} {lo hi : Nat} {v : Value} {ts : List Aw} (h : RowAs w lo hi v ts) : RdAs w v ts := by
  obtain ⟨us, e, r⟩ := h
  exact ⟨us, e, r.rd⟩
theorem OwAu.wide {w : World} {lo hi : Nat} {v : Value} {us : List (Aw × Value)} (h : OwAu w lo hi v us) {lo' hi' : Nat} (a : lo' ≤ lo) (b : hi ≤ hi') : OwAu w lo' hi' v us := ⟨h.row.wide a b, fun k hk => (h.pg k hk).wide a b, h.ap⟩
theorem RowAs.wide {w : World} {lo hi : Nat} {v : Value} {ts : List Aw} (h : RowAs w lo hi v ts) {lo' hi' : Nat} (a : lo' ≤ lo) (b : hi ≤ hi') : RowAs w lo' hi' v ts := by
  obtain ⟨us, e, r⟩ := h
  exact ⟨us, e, r.wide a b⟩
theorem OwAu.outside {w w' : World} {lo hi : Nat} {v : Value} {us : List (Aw × Value)} (h : OwAu w lo hi v us) {lo' hi' : Nat} (ho : Outside lo' hi' w w') (hd : hi ≤ lo' ∨ hi' ≤ lo) (hz : hi ≤ w.heap.size) : OwAu w' lo hi v us := ⟨h.row.outside ho hd hz, fun k hk => (h.pg k hk).outside ho hd hz, h.ap⟩
theorem RowAs.outside {w w' : World} {lo hi : Nat} {v : Value} {ts : List Aw} (h : RowAs w lo hi v ts) {lo' hi' : Nat} (ho : Outside lo' hi' w w') (hd : hi ≤ lo' ∨ hi' ≤ lo) (hz : hi ≤ w.heap.size) : RowAs w' lo hi v ts := by
  obtain ⟨us, e, r⟩ := h
  exact ⟨us, e, r.outside ho hd hz⟩
theorem aw_fst_len {us : List (Aw × Value)} {ts : List Aw} (e : us.map Prod.fst = ts) : us.length = ts.length := by rw [← e, List.length_map]
theorem aw_fst_at {us : List (Aw × Value)} {ts : List Aw} (e : us.map Prod.fst = ts) (k : Nat) (h : k < us.length) : us[k].1 = ts[k]'(by rw [← aw_fst_len e]; exact h) := by
  subst e
  simp
theorem infoAnswer : (Tryz.prog.info? 73).map (fun i => (i.zero, i.size, i.bytes)) = some (some (.agg #[.int .i64 0, .int .i64 0, .slice none 0 0]), 3, 40) := by kernel_rfl
end Go.Proofs.YtmeiionabonhnaaGreatDoor

namespace Go.Proofs.YtmeiionabonhnaaGreatDoor
open Go.RowKit
set_option maxRecDepth 100000 in
set_option maxHeartbeats 4000000 in
theorem eqAnswer_same (c v : Int) (va vb : Value) (ss : List ByteArray) (w : World) (ha : RdT w va ss) (hb : RdT w vb ss) (hn : ss.length ≤ 2147483648) :
    Calls Tryz.prog 105 #[.agg #[.int .i64 c, .int .i64 v, va], .agg #[.int .i64 c, .int .i64 v, vb]] w fun e w' => e = .returned (.bool true) ∧ Below w.heap.size w w' := by
  have LE := hideIt (fun w1 (h : Below w.heap.size w w1) => eqStringS_same va vb ss w1 (Rd.below ha h) (Rd.below hb h) hn)
  obtain ⟨-, aa, ca, rfl, -⟩ := ha
  obtain ⟨-, ab, cb, rfl, -⟩ := hb
  have BW : Hid (Below w.heap.size w ((w.alloc (.cells #[.int .i64 c, .int .i64 v, .slice aa ss.length ca] 73)).alloc (.cells #[.int .i64 c, .int .i64 v, .slice ab ss.length cb] 73))) := ((Below.refl _ _).alloc (Nat.le_refl _) _).alloc (by simp) _
  go_enter Tryz.func105, Tryz.ntmps105
  go_wp2_with fail
  refine (LE.out _ BW.out).mono ?_
  rintro e w1 ⟨rfl, hb1⟩
  have B1 := hideIt (below_trans BW.out hb1 BW.out.size)
  clear hb1
  go_wp2
  go_ret
  exact ⟨rfl, B1.out⟩
end Go.Proofs.YtmeiionabonhnaaGreatDoor
