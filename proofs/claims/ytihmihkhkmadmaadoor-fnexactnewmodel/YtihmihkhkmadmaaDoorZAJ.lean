/- Several texts laid together: PiG, PiC. -/
import Derived.Test.YtihmihkhkmadmaaDoorPiB
import Derived.Test.YtihmihkhkmadmaaDoorZAF
import Derived.Test.YtihmihkhkmadmaaDoorZAC
import Derived.Laws.CopyRow
import Derived.Laws.CopyOwn
namespace Go.Proofs.YtihmihkhkmadmaaDoor
open Go.RowKit
theorem has_at {zs : List Int} {n : Int} {k : Nat} (hk : k < zs.length) (h : n = zs[k]) : hasB zs n = true := by
  unfold hasB
  rw [List.contains_eq_any_beq, List.any_eq_true]
  exact ⟨zs[k], List.getElem_mem _, by rw [h]; simp⟩
set_option maxHeartbeats 2000000 in
theorem indexInt_any (v : Value) (zs : List Int) (n : Int) (w : World) (h : RdI w v zs) (hn : zs.length ≤ 1048576) :
    Calls Tryd.prog 99 #[v, .int .i64 n] w fun e w' => ∃ r : Int, e = .returned (.int .i64 r) ∧ (decide (0 ≤ r) = hasB zs n) ∧ w' = w := by
  obtain ⟨aZ, cZ, rfl, _, hcZ⟩ := h.shape
  have HZ := hideIt hcZ
  clear h hcZ
  go_enter Tryd.func99, Tryd.ntmps99
  go_wp2
  go_loop [5, 8] (fun _ i => ∃ k : Nat, k ≤ zs.length ∧ i = .int .i64 k ∧ Hid (∀ j (h : j < zs.length), j < k → ¬ zs[j] = n)) (fun _ i => zs.length - (intOf i).toNat)
  case atStart => exact ⟨0, by omega, rfl, fun j h a => absurd a (by omega)⟩
  case round =>
    obtain ⟨k, hk, rfl, H⟩ := hrel
    by_cases hlt : k < zs.length
    · obtain ⟨b, o, rfl, hbl, hcell⟩ := HZ.out (by omega)
      have hck := hcell k hlt
      clear hcell
      by_cases q : n = zs[k]
      · have q' : (n == zs[k]) = true := by rw [beq_iff_eq]; exact q
        have E := hideIt (has_at hlt q)
        clear q H
        generalize zs[k] = z at *
        go_wp2
        go_ret
        exact ⟨_, rfl, by rw [E.out]; exact decide_eq_true (by omega), rfl⟩
      · have q' : (n == zs[k]) = false := by rw [beq_eq_false_iff_ne]; exact q
        have H' : Hid (∀ j (h : j < zs.length), j < k + 1 → ¬ zs[j] = n) := fun j h a => by
          by_cases e : j = k
          · subst e; exact fun e => q e.symm
          · exact H.out j h (by omega)
        clear q H
        generalize zs[k] = z at hck q'
        go_wp2
        go_round
        case rel => exact ⟨k + 1, by omega, by go_num, H'⟩
        case measure => simp [intOf]; omega
    · have E := hideIt (has_not (fun j h => H.out j h (by omega)))
      clear H
      go_wp2
      go_ret
      exact ⟨_, rfl, by rw [E.out]; rfl, rfl⟩
theorem containsInt_any (v : Value) (zs : List Int) (n : Int) (w : World) (h : RdI w v zs) (hn : zs.length ≤ 1048576) :
    Calls Tryd.prog 84 #[v, .int .i64 n] w fun e w' => e = .returned (.bool (hasB zs n)) ∧ w' = w := by
  have HZ := hideIt h
  obtain ⟨aZ, cZ, rfl, _, _⟩ := h.shape
  clear h
  go_enter Tryd.func84, Tryd.ntmps84
  go_wp2_with fail
  refine (indexInt_any _ zs n _ HZ.out hn).mono ?_
  rintro e w' ⟨r, rfl, hr, hw'⟩
  subst w'
  have R := hideIt hr
  clear hr
  go_wp2
  go_ret
  exact ⟨ret_bool R.out, rfl⟩
theorem Rd.take {w : World} {size : Nat} {ao : Option Addr} {n c : Nat} {xs : List Value} {m : Nat} (h : Rd w size (.slice ao n c) n xs) (hm : m ≤ n) : Rd w size (.slice ao m c) m (xs.take (m * size)) := by
  obtain ⟨h1, ao', cap, e, h2, h3⟩ := h
  cases e
  have hms : m * size ≤ n * size := Nat.mul_le_mul_right _ hm
  refine ⟨by rw [List.length_take, h1]; omega, ao, c, rfl, ⟨by omega, h2.2⟩, fun hp => ?_⟩
  obtain ⟨b, o, e1, e2, e3⟩ := h3 (by omega)
  exact ⟨b, o, e1, e2, fun j hj => by rw [e3 j (by omega), List.getElem?_take, if_pos hj]⟩
theorem RdI.take {w : World} {ao : Option Addr} {c : Nat} {zs : List Int} {m : Nat} (h : RdI w (.slice ao zs.length c) zs) (hm : m ≤ zs.length) : RdI w (.slice ao m c) (zs.take m) := by
  have := Rd.take h hm
  unfold RdI
  have e : (zs.take m).length = m := by rw [List.length_take]; omega
  have e2 : ints (zs.take m) = (ints zs).take (m * 1) := by rw [Nat.mul_one]; simp [ints, List.map_take]
  rw [e, e2]
  exact this
def onceB (zs : List Int) : Bool := decide (∀ k (h : k < zs.length), hasB (zs.take k) zs[k] = false)
theorem onceB_mk {zs : List Int} (h : ∀ k (h : k < zs.length), hasB (zs.take k) zs[k] = false) : onceB zs = true := decide_eq_true h
theorem onceB_not {zs : List Int} {k : Nat} (hk : k < zs.length) (h : hasB (zs.take k) zs[k] = true) : onceB zs = false := decide_eq_false (fun x => by have := x k hk; rw [h] at this; cases this)
set_option maxHeartbeats 2000000 in
theorem noneTwiceInt_any (v : Value) (zs : List Int) (w : World) (h : RdI w v zs) (hn : zs.length ≤ 1048576) :
    Calls Tryd.prog 59 #[v] w fun e w' => e = .returned (.bool (onceB zs)) ∧ w' = w := by
  have HR := hideIt h
  obtain ⟨aZ, cZ, rfl, hcap, hcZ⟩ := h.shape
  have HZ := hideIt hcZ
  clear h hcZ
  go_enter Tryd.func59, Tryd.ntmps59
  go_wp2
  go_loop [3, 4, 7] (fun _ _ i => ∃ k : Nat, k ≤ zs.length ∧ i = .int .i64 k ∧ Hid (∀ j (h : j < zs.length), j < k → hasB (zs.take j) zs[j] = false)) (fun _ _ i => zs.length - (intOf i).toNat)
  case atStart => exact ⟨0, by omega, rfl, fun j h a => absurd a (by omega)⟩
  case round =>
    obtain ⟨k, hk, rfl, H⟩ := hrel
    by_cases hlt : k < zs.length
    · obtain ⟨b, o, rfl, hbl, hcell⟩ := HZ.out (by omega)
      have hck := hcell k hlt
      have RT := hideIt (RdI.take HR.out hk)
      have LT := hideIt (show (zs.take k).length ≤ 1048576 by rw [List.length_take]; omega)
      clear hcell
      cases q : hasB (zs.take k) zs[k] with
      | false =>
        have H' : Hid (∀ j (h : j < zs.length), j < k + 1 → hasB (zs.take j) zs[j] = false) := fun j h a => by
          by_cases e : j = k
          · subst e; exact q
          · exact H.out j h (by omega)
        have Q := hideIt q
        clear q H
        generalize zs[k] = z at hck Q
        go_wp2_with (go_at_call 84; refine (containsInt_any _ (zs.take k) z _ RT.out LT.out).mono ?_; rw [Q.out]; rintro e w' ⟨rfl, rfl⟩)
        go_round
        case rel => exact ⟨k + 1, by omega, by go_num, H'⟩
        case measure => simp [intOf]; omega
      | true =>
        have E := hideIt (onceB_not hlt q)
        have Q := hideIt q
        clear q H
        generalize zs[k] = z at hck Q
        go_wp2_with (go_at_call 84; refine (containsInt_any _ (zs.take k) z _ RT.out LT.out).mono ?_; rw [Q.out]; rintro e w' ⟨rfl, rfl⟩)
        go_ret
        exact ⟨ret_bool E.out.symm, rfl⟩
    · have E := hideIt (onceB_mk (fun j h => H.out j h (by omega)))
      clear H
      go_wp2
      go_ret
      exact ⟨ret_bool E.out.symm, rfl⟩
end Go.Proofs.YtihmihkhkmadmaaDoor

namespace Go.Proofs.YtihmihkhkmadmaaDoor
open Go.RowKit
def ufL (at_ : Int) (zs : List Int) (k : Nat) : List Se := (List.range k).map (fun j : Nat => ⟨at_ + (j : Int), zs.getD j 0⟩)
theorem ufL_len (a : Int) (zs : List Int) (k : Nat) : (ufL a zs k).length = k := by simp [ufL]
theorem ufL_succ (a : Int) (zs : List Int) (k : Nat) (h : k < zs.length) : ufL a zs (k + 1) = ufL a zs k ++ [⟨a + (k : Int), zs[k]⟩] := by
  unfold ufL; rw [List.range_succ, List.map_append]
  simp [List.getD_eq_getElem?_getD, List.getElem?_eq_getElem h]
set_option maxRecDepth 100000 in
set_option maxHeartbeats 4000000 in
theorem updatesFrom_any (a : Int) (v : Value) (zs : List Int) (w : World) (h : RdI w v zs) (hn : zs.length ≤ 64) (ha : 0 ≤ a ∧ a ≤ 1000) :
    Calls Tryd.prog 69 #[.int .i64 a, v] w fun e w' => ∃ v', e = .returned v' ∧ Row w' 81 2 w.heap.size w'.heap.size v' (ufL a zs zs.length).length (ses (ufL a zs zs.length)) ∧ Below w.heap.size w w' := by
  obtain ⟨aU, cU, rfl, _, hcU⟩ := h.shape
  have HU := hideIt hcU
  obtain ⟨ha0, ha1⟩ := ha
  clear h hcU
  go_enter Tryd.func69, Tryd.ntmps69
  go_wp2
  go_loopw [5, 6, 7, 10] (fun vL _ _ i wr => ∃ m : Nat, m ≤ zs.length ∧ i = .int .i64 m ∧ Hid (UpI w wr vL (ufL a zs m)) ∧ w.heap.size ≤ wr.heap.size) (fun _ _ _ i _ => zs.length - (intOf i).toNat)
  case atStart => exact ⟨0, by omega, rfl, ⟨World.ownsRow_nil _ _ _ _, Below.refl _ _⟩, Nat.le_refl _⟩
  case round =>
    obtain ⟨m, hm, rfl, I, hz⟩ := hrel
    by_cases hlt : m < zs.length
    · obtain ⟨b, o, rfl, hbl, hcell⟩ := HU.out (by omega)
      have e0 := (I.out.b.cell (p := ⟨b, o + m, none⟩) hbl).trans (hcell m hlt)
      have m0 : (0 : Int) ≤ (m : Int) := by omega
      have m1 : (m : Int) < (zs.length : Int) := by omega
      have NX := hideIt (ufL_succ a zs m hlt)
      have hle : (ufL a zs m).length ≤ 64 := by rw [ufL_len]; omega
      clear hcell
      generalize zs[m] = x at *
      obtain ⟨wb, hwb⟩ : ∃ wb : World, wb = wr.alloc (.cells #[.int .i64 (a + (m : Int)), .int .i64 x] 81) := ⟨_, rfl⟩
      have IB : Hid (UpI w wb u5 (ufL a zs m)) := by rw [hwb]; exact I.out.below ((Below.refl _ _).alloc (Nat.le_refl _) _)
      have RB : Hid (Rd wb 2 (.slice (some ⟨wr.heap.size, 0, none⟩) 1 1) 1 (ses [⟨a + (m : Int), x⟩])) := by rw [hwb]; exact rd_upd wr _ _
      have hzb := IB.out.z
      subst hwb
      go_wp2_with (first
        | (at_builtin; refine wpList_append_rd _ rfl (.tmp 15) (.tmp 21) 77 rfl w.heap.size 81 (.agg #[.int .i64 0, .int .i64 0]) 2 16 Tryd.underlying77 infoUp rfl (by decide) _ _ _ rfl IB.out.l _ 1 _ rfl RB.out (ses_ones _) (by simp [maxLen]; omega) (by omega) (by omega) ?_))
      intro vN wN hownN hgrN
      have G := hideIt (IB.out.grow [⟨a + (m : Int), x⟩] hownN hgrN)
      rw [← NX.out] at G
      have hzN := G.out.z
      clear hownN hgrN IB RB I
      go_wp2
      go_roundw
      case rel => exact ⟨m + 1, by omega, by go_num, G, by omega⟩
      case measure => simp [intOf]; omega
    · obtain rfl : m = zs.length := by omega
      obtain ⟨-, aL, cL, hvL, -⟩ := (own_block I.out.l).rd
      subst hvL
      go_wp2
      go_ret
      exact ⟨_, rfl, own_block I.out.l, I.out.b⟩
end Go.Proofs.YtihmihkhkmadmaaDoor
