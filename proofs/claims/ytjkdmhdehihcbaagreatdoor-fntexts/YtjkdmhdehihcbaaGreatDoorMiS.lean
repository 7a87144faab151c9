/- A step: what it is, and whether it is right: by the model. -/
import Derived.Test.YtjkdmhdehihcbaaGreatDoorZAD
import Derived.Test.YtjkdmhdehihcbaaGreatDoorZAC
namespace Go.Proofs.YtjkdmhdehihcbaaGreatDoor
open Go.RowKit
structure Mi where
  kind : Int
  at_ : Int
  val : Int
def Mi.v (m : Mi) : Value := .agg #[.int .i64 m.kind, .int .i64 m.at_, .int .i64 m.val]
def miB (m : Mi) : Bool := decide ((m.kind = 1 ∧ (0 ≤ m.at_ ∧ m.at_ < 336) ∧ 0 ≤ m.val ∧ m.val < 1099511627776) ∨ (m.kind = 2 ∧ (0 ≤ m.at_ ∧ m.at_ < 336) ∧ m.val = 0) ∨ (m.kind = 4 ∧ (0 ≤ m.at_ ∧ m.at_ < 32) ∧ 0 ≤ m.val ∧ m.val < 1099511627776) ∨ ((m.kind = 3 ∨ m.kind = 5) ∧ m.at_ = 0 ∧ m.val = 0))
theorem miB_iff {m : Mi} : miB m = true ↔ ((m.kind = 1 ∧ (0 ≤ m.at_ ∧ m.at_ < 336) ∧ 0 ≤ m.val ∧ m.val < 1099511627776) ∨ (m.kind = 2 ∧ (0 ≤ m.at_ ∧ m.at_ < 336) ∧ m.val = 0) ∨ (m.kind = 4 ∧ (0 ≤ m.at_ ∧ m.at_ < 32) ∧ 0 ≤ m.val ∧ m.val < 1099511627776) ∨ ((m.kind = 3 ∨ m.kind = 5) ∧ m.at_ = 0 ∧ m.val = 0)) := by unfold miB; exact decide_eq_true_iff
theorem miB_of (k a v : Int) : miB ⟨k, a, v⟩ = true ↔ ((k = 1 ∧ (0 ≤ a ∧ a < 336) ∧ 0 ≤ v ∧ v < 1099511627776) ∨ (k = 2 ∧ (0 ≤ a ∧ a < 336) ∧ v = 0) ∨ (k = 4 ∧ (0 ≤ a ∧ a < 32) ∧ 0 ≤ v ∧ v < 1099511627776) ∨ ((k = 3 ∨ k = 5) ∧ a = 0 ∧ v = 0)) := miB_iff
theorem three_new (w : World) (x y z : Value) (t : TypeId) : (w.alloc (.cells #[x, y, z] t)).cell? ⟨w.heap.size, 0, none⟩ = some x ∧ (w.alloc (.cells #[x, y, z] t)).cell? ⟨w.heap.size, 1, none⟩ = some y ∧ (w.alloc (.cells #[x, y, z] t)).cell? ⟨w.heap.size, 2, none⟩ = some z := three_cells (at_new rfl)
set_option maxRecDepth 100000 in
set_option maxHeartbeats 4000000 in
theorem l04Micro_any (m : Mi) (w : World) : Calls Tryz.prog 41 #[m.v] w fun e w' => e = .returned (.bool (miB m)) ∧ Below w.heap.size w w' := by
  obtain ⟨k, a, v⟩ := m
  have hb0 : Below w.heap.size w (w.alloc (.cells #[.int .i64 k, .int .i64 a, .int .i64 v] 41)) := (Below.refl _ _).alloc (Nat.le_refl _) _
  have E := hideIt (miB_of k a v)
  unfold Mi.v
  simp only
  have WE := hideIt (show wordB v = decide (0 ≤ v ∧ v < 1099511627776) from rfl)
  rcases (show k = 1 ∨ k = 2 ∨ k = 3 ∨ k = 4 ∨ k = 5 ∨ (¬ k = 1 ∧ ¬ k = 2 ∧ ¬ k = 3 ∧ ¬ k = 4 ∧ ¬ k = 5) by omega) with rfl | rfl | rfl | rfl | rfl | ⟨n1, n2, n3, n4, n5⟩
  · by_cases ca : 0 ≤ a ∧ a ≤ 335
    · go_enter Tryz.func41, Tryz.ntmps41
      go_wp2_with (first | (go_at_call 27; refine (l01In_yes _ _ _ _ ca).mono ?_; rintro e w' ⟨rfl, rfl⟩) | (go_at_call 28; refine (l01Word_any _ _).mono ?_; rintro e w' ⟨rfl, rfl⟩))
      go_ret
      refine ⟨ret_bool ?_, hb0⟩
      rw [WE.out, Bool.eq_iff_iff, E.out, decide_eq_true_iff]
      first | omega | (simp only [true_and]; omega) | (simp only [true_and, true_or]; omega) | (simp only [true_and, or_true]; omega)
    · have C := hideIt ca
      clear ca
      go_enter Tryz.func41, Tryz.ntmps41
      go_wp2_with (go_at_call 27; refine (l01In_no _ _ _ _ C.out).mono ?_; rintro e w' ⟨rfl, rfl⟩)
      go_ret
      have := C.out
      refine ⟨ret_bool ?_, hb0⟩
      rw [Bool.eq_iff_iff, E.out]
      simp
      omega
  · by_cases ca : 0 ≤ a ∧ a ≤ 335
    · go_enter Tryz.func41, Tryz.ntmps41
      go_wp2_with (go_at_call 27; refine (l01In_yes _ _ _ _ ca).mono ?_; rintro e w' ⟨rfl, rfl⟩)
      go_ret
      refine ⟨ret_bool ?_, hb0⟩
      rw [Bool.eq_iff_iff, E.out, beq_iff_eq]
      first | omega | (simp only [true_and]; omega) | (simp only [true_and, true_or]; omega) | (simp only [true_and, or_true]; omega)
    · have C := hideIt ca
      clear ca
      go_enter Tryz.func41, Tryz.ntmps41
      go_wp2_with (go_at_call 27; refine (l01In_no _ _ _ _ C.out).mono ?_; rintro e w' ⟨rfl, rfl⟩)
      go_ret
      have := C.out
      refine ⟨ret_bool ?_, hb0⟩
      rw [Bool.eq_iff_iff, E.out]
      simp
      omega
  · by_cases ca : (a == 0) = true
    · go_enter Tryz.func41, Tryz.ntmps41
      go_wp2
      go_ret
      have := beq_iff_eq.1 ca
      refine ⟨ret_bool ?_, hb0⟩
      rw [Bool.eq_iff_iff, E.out, beq_iff_eq]
      first | omega | (simp only [true_and]; omega) | (simp only [true_and, true_or]; omega) | (simp only [true_and, or_true]; omega)
    · have ca' : (a == 0) = false := by simpa using ca
      clear ca
      go_enter Tryz.func41, Tryz.ntmps41
      go_wp2
      go_ret
      have := beq_eq_false_iff_ne.1 ca'
      refine ⟨ret_bool ?_, hb0⟩
      rw [Bool.eq_iff_iff, E.out]
      simp
      omega
  · by_cases ca : 0 ≤ a ∧ a ≤ 31
    · go_enter Tryz.func41, Tryz.ntmps41
      go_wp2_with (first | (go_at_call 27; refine (l01In_yes _ _ _ _ ca).mono ?_; rintro e w' ⟨rfl, rfl⟩) | (go_at_call 28; refine (l01Word_any _ _).mono ?_; rintro e w' ⟨rfl, rfl⟩))
      go_ret
      refine ⟨ret_bool ?_, hb0⟩
      rw [WE.out, Bool.eq_iff_iff, E.out, decide_eq_true_iff]
      first | omega | (simp only [true_and]; omega) | (simp only [true_and, true_or]; omega) | (simp only [true_and, or_true]; omega)
    · have C := hideIt ca
      clear ca
      go_enter Tryz.func41, Tryz.ntmps41
      go_wp2_with (go_at_call 27; refine (l01In_no _ _ _ _ C.out).mono ?_; rintro e w' ⟨rfl, rfl⟩)
      go_ret
      have := C.out
      refine ⟨ret_bool ?_, hb0⟩
      rw [Bool.eq_iff_iff, E.out]
      simp
      omega
  · by_cases ca : (a == 0) = true
    · go_enter Tryz.func41, Tryz.ntmps41
      go_wp2
      go_ret
      have := beq_iff_eq.1 ca
      refine ⟨ret_bool ?_, hb0⟩
      rw [Bool.eq_iff_iff, E.out, beq_iff_eq]
      first | omega | (simp only [true_and]; omega) | (simp only [true_and, true_or]; omega) | (simp only [true_and, or_true]; omega)
    · have ca' : (a == 0) = false := by simpa using ca
      clear ca
      go_enter Tryz.func41, Tryz.ntmps41
      go_wp2
      go_ret
      have := beq_eq_false_iff_ne.1 ca'
      refine ⟨ret_bool ?_, hb0⟩
      rw [Bool.eq_iff_iff, E.out]
      simp
      omega
  · have q1 : (k == 1) = false := by simpa using n1
    have q2 : (k == 2) = false := by simpa using n2
    have q3 : (k == 3) = false := by simpa using n3
    have q4 : (k == 4) = false := by simpa using n4
    have q5 : (k == 5) = false := by simpa using n5
    have N := hideIt (And.intro n1 (And.intro n2 (And.intro n3 (And.intro n4 n5))))
    clear n1 n2 n3 n4 n5
    go_enter Tryz.func41, Tryz.ntmps41
    go_wp2
    go_ret
    have := N.out
    refine ⟨ret_bool ?_, hb0⟩
    rw [Bool.eq_iff_iff, E.out]
    simp
    omega
end Go.Proofs.YtjkdmhdehihcbaaGreatDoor
