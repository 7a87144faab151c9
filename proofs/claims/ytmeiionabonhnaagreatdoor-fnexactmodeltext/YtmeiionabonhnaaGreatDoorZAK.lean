/- Several texts laid together: PiG, PiH. -/
import Derived.Test.YtmeiionabonhnaaGreatDoorZAG
import Derived.Test.YtmeiionabonhnaaGreatDoorZAJ
import Derived.Test.YtmeiionabonhnaaGreatDoorZAH
namespace Go.Proofs.YtmeiionabonhnaaGreatDoor
open Go.RowKit
theorem has_at {zs : List Int} {n : Int} {k : Nat} (hk : k < zs.length) (h : n = zs[k]) : hasB zs n = true := by
  unfold hasB
  rw [List.contains_eq_any_beq, List.any_eq_true]
  exact ⟨zs[k], List.getElem_mem _, by rw [h]; simp⟩
set_option maxHeartbeats 2000000 in
theorem indexInt_any (v : Value) (zs : List Int) (n : Int) (w : World) (h : RdI w v zs) (hn : zs.length ≤ 1048576) :
    Calls Tryz.prog 239 #[v, .int .i64 n] w fun e w' => ∃ r : Int, e = .returned (.int .i64 r) ∧ (decide (0 ≤ r) = hasB zs n) ∧ w' = w := by
  obtain ⟨aZ, cZ, rfl, _, hcZ⟩ := h.shape
  have HZ := hideIt hcZ
  clear h hcZ
  go_enter Tryz.func239, Tryz.ntmps239
  go_wp2
  go_loop [5, 8] (fun _ i => ∃ k : Nat, k ≤ zs.length ∧ i = .int .i64 k ∧ Hid (∀ j (h : j < zs.length), j < k → ¬ zs[j] = n)) (fun _ i => zs.length - (intOf i).toNat)
  case atStart => exact ⟨0, by omega, rfl, fun j h a => absurd a (by omega)⟩
  case round =>
    obtain ⟨k, hk, rfl, H⟩ := hrel
    by_cases hlt : k < zs.length
    · obtain ⟨b, o, rfl, hbl, hcell⟩ := HZ.out (by omega)
      have hck := hcell k hlt
      clear hcell
      by_cases q : n = zs[k]
      · have q' : (n == zs[k]) = true := by rw [beq_iff_eq]; exact q
        have E := hideIt (has_at hlt q)
        clear q H
        generalize zs[k] = z at *
        go_wp2
        go_ret
        exact ⟨_, rfl, by rw [E.out]; exact decide_eq_true (by omega), rfl⟩
      · have q' : (n == zs[k]) = false := by rw [beq_eq_false_iff_ne]; exact q
        have H' : Hid (∀ j (h : j < zs.length), j < k + 1 → ¬ zs[j] = n) := fun j h a => by
          by_cases e : j = k
          · subst e; exact fun e => q e.symm
          · exact H.out j h (by omega)
        clear q H
        generalize zs[k] = z at hck q'
        go_wp2
        go_round
        case rel => exact ⟨k + 1, by omega, by go_num, H'⟩
        case measure => simp [intOf]; omega
    · have E := hideIt (has_not (fun j h => H.out j h (by omega)))
      clear H
      go_wp2
      go_ret
      exact ⟨_, rfl, by rw [E.out]; rfl, rfl⟩
theorem containsInt_any (v : Value) (zs : List Int) (n : Int) (w : World) (h : RdI w v zs) (hn : zs.length ≤ 1048576) :
    Calls Tryz.prog 183 #[v, .int .i64 n] w fun e w' => e = .returned (.bool (hasB zs n)) ∧ w' = w := by
  have HZ := hideIt h
  obtain ⟨aZ, cZ, rfl, _, _⟩ := h.shape
  clear h
  go_enter Tryz.func183, Tryz.ntmps183
  go_wp2_with fail
  refine (indexInt_any _ zs n _ HZ.out hn).mono ?_
  rintro e w' ⟨r, rfl, hr, hw'⟩
  subst w'
  have R := hideIt hr
  clear hr
  go_wp2
  go_ret
  exact ⟨ret_bool R.out, rfl⟩
theorem Rd.take {w : World} {size : Nat} {ao : Option Addr} {n c : Nat} {xs : List Value} {m : Nat} (h : Rd w size (.slice ao n c) n xs) (hm : m ≤ n) : Rd w size (.slice ao m c) m (xs.take (m * size)) := by
  obtain ⟨h1, ao', cap, e, h2, h3⟩ := h
  cases e
  have hms : m * size ≤ n * size := Nat.mul_le_mul_right _ hm
  refine ⟨by rw [List.length_take, h1]; omega, ao, c, rfl, ⟨by omega, h2.2⟩, fun hp => ?_⟩
  obtain ⟨b, o, e1, e2, e3⟩ := h3 (by omega)
  exact ⟨b, o, e1, e2, fun j hj => by rw [e3 j (by omega), List.getElem?_take, if_pos hj]⟩
theorem RdI.take {w : World} {ao : Option Addr} {c : Nat} {zs : List Int} {m : Nat} (h : RdI w (.slice ao zs.length c) zs) (hm : m ≤ zs.length) : RdI w (.slice ao m c) (zs.take m) := by
  have := Rd.take h hm
  unfold RdI
  have e : (zs.take m).length = m := by rw [List.length_take]; omega
  have e2 : ints (zs.take m) = (ints zs).take (m * 1) := by rw [Nat.mul_one]; simp [ints, List.map_take]
  rw [e, e2]
  exact this
def onceB (zs : List Int) : Bool := decide (∀ k (h : k < zs.length), hasB (zs.take k) zs[k] = false)
theorem onceB_mk {zs : List Int} (h : ∀ k (h : k < zs.length), hasB (zs.take k) zs[k] = false) : onceB zs = true := decide_eq_true h
theorem onceB_not {zs : List Int} {k : Nat} (hk : k < zs.length) (h : hasB (zs.take k) zs[k] = true) : onceB zs = false := decide_eq_false (fun x => by have := x k hk; rw [h] at this; cases this)
set_option maxHeartbeats 2000000 in
theorem noneTwiceInt_any (v : Value) (zs : List Int) (w : World) (h : RdI w v zs) (hn : zs.length ≤ 1048576) :
    Calls Tryz.prog 121 #[v] w fun e w' => e = .returned (.bool (onceB zs)) ∧ w' = w := by
  have HR := hideIt h
  obtain ⟨aZ, cZ, rfl, hcap, hcZ⟩ := h.shape
  have HZ := hideIt hcZ
  clear h hcZ
  go_enter Tryz.func121, Tryz.ntmps121
  go_wp2
  go_loop [3, 4, 7] (fun _ _ i => ∃ k : Nat, k ≤ zs.length ∧ i = .int .i64 k ∧ Hid (∀ j (h : j < zs.length), j < k → hasB (zs.take j) zs[j] = false)) (fun _ _ i => zs.length - (intOf i).toNat)
  case atStart => exact ⟨0, by omega, rfl, fun j h a => absurd a (by omega)⟩
  case round =>
    obtain ⟨k, hk, rfl, H⟩ := hrel
    by_cases hlt : k < zs.length
    · obtain ⟨b, o, rfl, hbl, hcell⟩ := HZ.out (by omega)
      have hck := hcell k hlt
      have RT := hideIt (RdI.take HR.out hk)
      have LT := hideIt (show (zs.take k).length ≤ 1048576 by rw [List.length_take]; omega)
      clear hcell
      cases q : hasB (zs.take k) zs[k] with
      | false =>
        have H' : Hid (∀ j (h : j < zs.length), j < k + 1 → hasB (zs.take j) zs[j] = false) := fun j h a => by
          by_cases e : j = k
          · subst e; exact q
          · exact H.out j h (by omega)
        have Q := hideIt q
        clear q H
        generalize zs[k] = z at hck Q
        go_wp2_with (go_at_call 183; refine (containsInt_any _ (zs.take k) z _ RT.out LT.out).mono ?_; rw [Q.out]; rintro e w' ⟨rfl, rfl⟩)
        go_round
        case rel => exact ⟨k + 1, by omega, by go_num, H'⟩
        case measure => simp [intOf]; omega
      | true =>
        have E := hideIt (onceB_not hlt q)
        have Q := hideIt q
        clear q H
        generalize zs[k] = z at hck Q
        go_wp2_with (go_at_call 183; refine (containsInt_any _ (zs.take k) z _ RT.out LT.out).mono ?_; rw [Q.out]; rintro e w' ⟨rfl, rfl⟩)
        go_ret
        exact ⟨ret_bool E.out.symm, rfl⟩
    · have E := hideIt (onceB_mk (fun j h => H.out j h (by omega)))
      clear H
      go_wp2
      go_ret
      exact ⟨ret_bool E.out.symm, rfl⟩
end Go.Proofs.YtmeiionabonhnaaGreatDoor

namespace Go.Proofs.YtmeiionabonhnaaGreatDoor
open Go.RowKit
structure InI (W w : World) (vL : Value) (zs : List Int) : Prop where
  l : w.ownsRow W.heap.size 3 1 vL zs.length (ints zs)
  b : Below W.heap.size W w
theorem InI.z {W w : World} {vL : Value} {zs : List Int} (h : InI W w vL zs) : W.heap.size ≤ w.heap.size := h.b.size
theorem InI.below {W w w' : World} {vL : Value} {zs : List Int} (h : InI W w vL zs) (hb : Below w.heap.size w w') : InI W w' vL zs :=
  ⟨((own_block h.l).below hb (Nat.le_refl _)).1, below_trans h.b hb h.z⟩
theorem InI.grow {W w w' : World} {vL v' : Value} {zs : List Int} (h : InI W w vL zs) (x : Int) (ho : w'.ownsRow W.heap.size 3 1 v' (zs.length + 1) (ints zs ++ [.int .i64 x])) (hg : w.grownBy w' vL.ownBlock) : InI W w' v' (zs ++ [x]) :=
  ⟨by rw [ints_snoc, List.length_append]; exact ho, h.b.grown hg h.z (fun q hq => (h.l.lt q hq).1)⟩
theorem one_int (x : Int) : ∀ u ∈ [Value.int .i64 x], u.oneCell' = true := by
  intro u hu
  rw [List.mem_singleton.1 hu]
  rfl
def somes (zs : List Int) : List Int := zs.filter fun z => z != 0
def mapped (ws : List Ino) : List Int := ws.flatMap fun x => somes x.map
def mapd (ws : List Ino) (k : Nat) (j : Nat) : List Int := mapped (ws.take k) ++ somes (((ws[k]?).map Ino.map).getD [] |>.take j)
theorem mapd_zero (ws : List Ino) (k : Nat) : mapd ws k 0 = mapped (ws.take k) := by simp [mapd, somes]
theorem mapd_succ {ws : List Ino} {k : Nat} (hk : k < ws.length) {j : Nat} (hj : j < 8) : mapd ws k (j + 1) = if ws[k].map.getD j 0 = 0 then mapd ws k j else mapd ws k j ++ [ws[k].map.getD j 0] := by
  have hl : j < ws[k].map.length := hj
  have e : ws[k].map.getD j 0 = ws[k].map[j] := by rw [List.getD_eq_getElem?_getD, List.getElem?_eq_getElem hl]; rfl
  unfold mapd somes
  rw [List.getElem?_eq_getElem hk]
  simp only [Option.map_some, Option.getD_some]
  rw [List.take_succ_eq_append_getElem hl, List.filter_append, e]
  by_cases h : ws[k].map[j] = 0
  · rw [if_pos h, h]; simp
  · rw [if_neg h]; simp [h]
theorem mapd_full {ws : List Ino} {k : Nat} (hk : k < ws.length) : mapd ws k 8 = mapped (ws.take (k + 1)) := by
  unfold mapd mapped
  rw [List.getElem?_eq_getElem hk, List.take_succ_eq_append_getElem hk, List.flatMap_append]
  simp [Ino.map]
theorem somes_len (zs : List Int) : (somes zs).length ≤ zs.length := List.length_filter_le _ _
theorem mapped_len (ws : List Ino) : (mapped ws).length ≤ 8 * ws.length := by
  induction ws with
  | nil => simp [mapped]
  | cons x ws ih =>
    have h1 := somes_len x.map
    have h2 : x.map.length = 8 := rfl
    unfold mapped at *
    rw [List.flatMap_cons, List.length_append, List.length_cons]
    omega
theorem mapd_len (ws : List Ino) (k j : Nat) (hk : k < ws.length) (hj : j ≤ 8) : (mapd ws k j).length ≤ 8 * ws.length := by
  have h1 := mapped_len (ws.take k)
  have h2 := somes_len (((ws[k]?).map Ino.map).getD [] |>.take j)
  have h3 : (((ws[k]?).map Ino.map).getD [] |>.take j).length ≤ j := by rw [List.length_take]; omega
  unfold mapd
  rw [List.length_append]
  rw [List.length_take] at h1
  omega
set_option maxRecDepth 100000 in
theorem idx8 (x : Ino) (j : Nat) (hj : j < 8) (w : World) : (Instr.index 148 (.agg #[.int .i64 x.m0, .int .i64 x.m1, .int .i64 x.m2, .int .i64 x.m3, .int .i64 x.m4, .int .i64 x.m5, .int .i64 x.m6, .int .i64 x.m7]) (.int .i64 (j : Int))).run Tryz.prog w = .ok (.int .i64 (x.map.getD j 0)) w := by
  rcases (show j = 0 ∨ j = 1 ∨ j = 2 ∨ j = 3 ∨ j = 4 ∨ j = 5 ∨ j = 6 ∨ j = 7 by omega) with rfl | rfl | rfl | rfl | rfl | rfl | rfl | rfl <;> simp [Instr.index, run_underlying Tryz.underlying148, asIntOf, Ino.map, go_sem]
set_option maxRecDepth 100000 in
set_option maxHeartbeats 4000000 in
theorem mappedEntries_any (v : Value) (ws : List Ino) (w : World) (h : RdN w v ws) (hn : ws.length ≤ 4096) :
    Calls Tryz.prog 122 #[v] w fun e w' => ∃ v', e = .returned v' ∧ Row w' 3 1 w.heap.size w'.heap.size v' (mapped ws).length (ints (mapped ws)) ∧ Below w.heap.size w w' := by
  obtain ⟨aW, cW, rfl, _, hcW⟩ := h.shape
  have HW := hideIt hcW
  clear h hcW
  go_enter Tryz.func122, Tryz.ntmps122
  go_wp2
  go_loopw [3, 5, 7, 10] (fun vL _ _ i wr => ∃ k : Nat, k ≤ ws.length ∧ i = .int .i64 k ∧ Hid (InI w wr vL (mapped (ws.take k))) ∧ w.heap.size ≤ wr.heap.size) (fun _ _ _ i _ => ws.length - (intOf i).toNat)
  case atStart => exact ⟨0, by omega, rfl, ⟨World.ownsRow_nil _ _ _ _, Below.refl _ _⟩, Nat.le_refl _⟩
  case round =>
    obtain ⟨k, hk, rfl, I, hz⟩ := hrel
    by_cases hlt : k < ws.length
    · obtain ⟨b, o, rfl, hbl, hcell⟩ := HW.out (by omega)
      obtain ⟨a0, a1, a2, a3, a4, a5, a6, a7, a8, a9, a10⟩ := hcell k hlt
      have d0 := (I.out.b.cell (p := ⟨b, o + k * 11, none⟩) hbl).trans a0
      have d1 := (I.out.b.cell (p := ⟨b, o + k * 11 + 1, none⟩) hbl).trans a1
      have d2 := (I.out.b.cell (p := ⟨b, o + k * 11 + 2, none⟩) hbl).trans a2
      have d3 := (I.out.b.cell (p := ⟨b, o + k * 11 + 3, none⟩) hbl).trans a3
      have d4 := (I.out.b.cell (p := ⟨b, o + k * 11 + 4, none⟩) hbl).trans a4
      have d5 := (I.out.b.cell (p := ⟨b, o + k * 11 + 5, none⟩) hbl).trans a5
      have d6 := (I.out.b.cell (p := ⟨b, o + k * 11 + 6, none⟩) hbl).trans a6
      have d7 := (I.out.b.cell (p := ⟨b, o + k * 11 + 7, none⟩) hbl).trans a7
      have d8 := (I.out.b.cell (p := ⟨b, o + k * 11 + 8, none⟩) hbl).trans a8
      have d9 := (I.out.b.cell (p := ⟨b, o + k * 11 + 9, none⟩) hbl).trans a9
      have d10 := (I.out.b.cell (p := ⟨b, o + k * 11 + 10, none⟩) hbl).trans a10
      have k0 : (0 : Int) ≤ (k : Int) := by omega
      have k1 : (k : Int) < (ws.length : Int) := by omega
      have MZ := hideIt (mapd_zero ws k)
      have MF := hideIt (mapd_full hlt)
      have MS := hideIt (fun j (hj : j < 8) => mapd_succ hlt hj)
      have ML := hideIt (fun j (hj : j ≤ 8) => mapd_len ws k j hlt hj)
      have HM := hideIt (fun j (hj : j < 8) => ws[k].at j hj)
      clear a0 a1 a2 a3 a4 a5 a6 a7 a8 a9 a10 hcell
      generalize ws[k] = x at *
      have START : Hid (InI w (wr.alloc (.cells x.cs.toArray 150)) u3 (mapd ws k 0)) := by
        have := I.out.below ((Below.refl wr.heap.size wr).alloc (Nat.le_refl _) (.cells x.cs.toArray 150))
        unfold Hid
        rw [MZ.out]
        exact this
      unfold Ino.cs at START
      have hz0 := START.out.z
      clear I
      go_wp2
      go_loopw [3, 7, 16] (fun vL _ i wq => ∃ j : Nat, j ≤ 8 ∧ i = .int .i64 j ∧ Hid (InI w wq vL (mapd ws k j)) ∧ w.heap.size ≤ wq.heap.size) (fun _ _ i _ => 8 - (intOf i).toNat)
      case atStart => exact ⟨0, by omega, rfl, START, hz0⟩
      case round =>
        obtain ⟨j, hj, rfl, J, hzj⟩ := hrel
        clear START hz0 d0 d1 d2 d3 d4 d5 d6 d7 d8 d9 d10
        have j0 : (0 : Int) ≤ (j : Int) := by omega
        by_cases hlj : j < 8
        · have j1 : (j : Int) < 8 := by omega
          have ix := idx8 x j hlj
          have MJ := hideIt (MS.out j hlj)
          have hlen := ML.out j (by omega)
          generalize x.map.getD j 0 = z at ix MJ
          by_cases q : z = 0
          · have q' : (z != 0) = false := by rw [q]; rfl
            have G : Hid (InI w wr u3 (mapd ws k (j + 1))) := by unfold Hid; rw [MJ.out, if_pos q]; exact J.out
            clear q J MJ
            go_wp2
            go_roundw
            case rel => exact ⟨j + 1, by omega, by go_num, G, hzj⟩
            case measure => simp [intOf]; omega
          · have q' : (z != 0) = true := by rw [bne_iff_ne]; exact q
            have JB : Hid (InI w (wr.alloc (.cells #[.int .i64 z] 3)) u3 (mapd ws k j)) := J.out.below ((Below.refl _ _).alloc (Nat.le_refl _) _)
            have RB := hideIt (rd_int wr z)
            have hzb := JB.out.z
            have MN : Hid (mapd ws k (j + 1) = mapd ws k j ++ [z]) := by unfold Hid; rw [MJ.out, if_neg q]
            clear q J MJ
            go_wp2_with (at_builtin; refine wpList_append_rd _ rfl (.tmp 21) (.tmp 23) 43 rfl w.heap.size 3 (.int .i64 0) 1 8 Tryz.underlying43 info3 rfl (by decide) _ _ _ rfl JB.out.l _ 1 _ rfl RB.out (one_int _) (by simp [maxLen]; omega) (by omega) (by omega) ?_)
            intro vN wN hownN hgrN
            have G := hideIt (JB.out.grow z hownN hgrN)
            rw [← MN.out] at G
            have hzN := G.out.z
            clear hownN hgrN JB RB
            go_wp2
            go_roundw
            case rel => exact ⟨j + 1, by omega, by go_num, G, hzN⟩
            case measure => simp [intOf]; omega
        · obtain rfl : j = 8 := by omega
          have G : Hid (InI w wr u3 (mapped (ws.take (k + 1)))) := by unfold Hid; rw [← MF.out]; exact J.out
          clear J
          go_wp2
          go_roundw
          case rel => exact ⟨k + 1, by omega, by go_num, G, hzj⟩
          case measure => simp [intOf]; omega
    · obtain rfl : k = ws.length := by omega
      have E := hideIt (show mapped (ws.take ws.length) = mapped ws by rw [List.take_length])
      rw [E.out] at I
      obtain ⟨-, aL, cL, hvL, -⟩ := (own_block I.out.l).rd
      subst hvL
      go_wp2
      go_ret
      exact ⟨_, rfl, own_block I.out.l, I.out.b⟩
end Go.Proofs.YtmeiionabonhnaaGreatDoor
