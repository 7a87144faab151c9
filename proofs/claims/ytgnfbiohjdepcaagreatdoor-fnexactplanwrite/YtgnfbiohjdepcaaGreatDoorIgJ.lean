/- Files written and cut: the words say the changed image. -/
import Derived.Test.YtgnfbiohjdepcaaGreatDoorZBA
namespace Go.Proofs.YtgnfbiohjdepcaaGreatDoor
open Go.RowKit
theorem first_some {p : Nat → Bool} {n : Nat} (h : 0 ≤ firstIx p n) : ∃ k : Nat, k < n ∧ firstIx p n = (k : Int) ∧ p k = true := by
  unfold firstIx at h ⊢
  cases e : (List.range n).find? p with
  | none => rw [e] at h; exact absurd h (by show ¬ (0 : Int) ≤ -1; omega)
  | some k => exact ⟨k, List.mem_range.1 (List.mem_of_find?_eq_some e), rfl, List.find?_some e⟩
end Go.Proofs.YtgnfbiohjdepcaaGreatDoor
