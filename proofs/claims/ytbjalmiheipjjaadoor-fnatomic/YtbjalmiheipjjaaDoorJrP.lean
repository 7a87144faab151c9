/- The journal's plans: by the model. -/
import Derived.Test.YtbjalmiheipjjaaDoorJrF
import Derived.Test.YtbjalmiheipjjaaDoorZAB
import Derived.Deep.RegionHeld3
namespace Go.Proofs.YtbjalmiheipjjaaDoor
open Go.RowKit
theorem l04Store_any (a x : Int) (w : World) : Calls Tryd.prog 62 #[.int .i64 a, .int .i64 x] w fun e w' => e = .returned (.agg #[.int .i64 1, .int .i64 a, .int .i64 x]) ∧ Below w.heap.size w w' := by
  go_enter Tryd.func62, Tryd.ntmps62
  go_wp2
  refine bodyPost_ret (v := .agg #[.int .i64 1, .int .i64 a, .int .i64 x]) (by simp [results, Tryd.results62, go_sem]) rfl ⟨rfl, ?_⟩
  repeat (refine Below.alloc ?_ (by simp <;> omega) _)
  exact Below.refl _ _
def upsB (us : List Se) : Bool := decide (∀ k (h : k < us.length), (48 ≤ us[k].at_ ∧ us[k].at_ < 336) ∧ 0 ≤ us[k].val ∧ us[k].val < 1099511627776)
set_option maxRecDepth 100000 in
set_option maxHeartbeats 4000000 in
theorem l04Updates_any (v : Value) (us : List Se) (w : World) (h : RdE w v us) (hn : us.length ≤ 1048576) :
    Calls Tryd.prog 34 #[v] w fun e w' => e = .returned (.bool (upsB us)) ∧ w' = w := by
  obtain ⟨aZ, cZ, rfl, _, hcZ⟩ := h.shape
  have HZ := hideIt hcZ
  clear h hcZ
  go_enter Tryd.func34, Tryd.ntmps34
  go_wp2
  go_loop [3] (fun i => ∃ k : Nat, k ≤ us.length ∧ i = .int .i64 k ∧ Hid (∀ j (h : j < us.length), j < k → (48 ≤ us[j].at_ ∧ us[j].at_ < 336) ∧ 0 ≤ us[j].val ∧ us[j].val < 1099511627776)) (fun i => us.length - (intOf i).toNat)
  case atStart => exact ⟨0, by omega, rfl, fun j h a => absurd a (by omega)⟩
  case round =>
    obtain ⟨k, hk, rfl, H⟩ := hrel
    by_cases hlt : k < us.length
    · obtain ⟨b, o, rfl, hbl, hcell⟩ := HZ.out (by omega)
      obtain ⟨d0, d1⟩ := hcell k hlt
      have k0 : (0 : Int) ≤ (k : Int) := by omega
      have k1 : (k : Int) < (us.length : Int) := by omega
      clear hcell
      have NO : Hid (¬ ((48 ≤ us[k].at_ ∧ us[k].at_ < 336) ∧ 0 ≤ us[k].val ∧ us[k].val < 1099511627776) → upsB us = false) := fun x => decide_eq_false (fun y => x (y k hlt))
      have NX : Hid ((48 ≤ us[k].at_ ∧ us[k].at_ < 336) ∧ 0 ≤ us[k].val ∧ us[k].val < 1099511627776 → ∀ j (h : j < us.length), j < k + 1 → (48 ≤ us[j].at_ ∧ us[j].at_ < 336) ∧ 0 ≤ us[j].val ∧ us[j].val < 1099511627776) := fun hx j h b => by
        by_cases e : j = k
        · subst e; exact hx
        · exact H.out j h (by omega)
      generalize us[k].at_ = x at *
      generalize us[k].val = y at *
      by_cases q : 48 ≤ x ∧ x ≤ 335
      · have Q := hideIt q
        clear q
        by_cases r : wordB y = true
        · have R := hideIt r
          have YB := wordB_true r
          go_wp2_with (first | (go_at_call 60; refine (l01In_yes _ _ _ _ Q.out).mono ?_; rintro e w' ⟨rfl, rfl⟩) | (go_at_call 59; refine (l01Word_any _ _).mono ?_; rw [R.out]; rintro e w' ⟨rfl, rfl⟩))
          go_round
          case rel => exact ⟨k + 1, by omega, by go_num, NX.out (by have := Q.out; omega)⟩
          case measure => simp [intOf]; omega
        · have r' : wordB y = false := by simpa using r
          have R := hideIt r'
          have E := hideIt (NO.out (fun z => r (decide_eq_true z.2)))
          clear r r'
          go_wp2_with (first | (go_at_call 60; refine (l01In_yes _ _ _ _ Q.out).mono ?_; rintro e w' ⟨rfl, rfl⟩) | (go_at_call 59; refine (l01Word_any _ _).mono ?_; rw [R.out]; rintro e w' ⟨rfl, rfl⟩))
          go_ret
          exact ⟨ret_bool E.out.symm, rfl⟩
      · have Q := hideIt q
        have E := hideIt (NO.out (fun z => q (by omega)))
        clear q
        go_wp2_with (go_at_call 60; refine (l01In_no _ _ _ _ Q.out).mono ?_; rintro e w' ⟨rfl, rfl⟩)
        go_ret
        exact ⟨ret_bool E.out.symm, rfl⟩
    · have E := hideIt (show upsB us = true from decide_eq_true (fun j h => H.out j h (by omega)))
      go_wp2
      go_ret
      exact ⟨ret_bool E.out.symm, rfl⟩
end Go.Proofs.YtbjalmiheipjjaaDoor
