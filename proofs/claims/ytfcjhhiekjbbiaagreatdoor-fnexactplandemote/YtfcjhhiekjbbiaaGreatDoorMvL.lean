/- How long the plans of moves are. -/
import Derived.Test.YtfcjhhiekjbbiaaGreatDoorMvD
namespace Go.Proofs.YtfcjhhiekjbbiaaGreatDoor
open Go.RowKit

theorem deR2_len (ws : List Int) (ps : List St) (es : List Int) (qs : List Se) (i p : Int) : (deR2 ws ps es qs i p).1.length ≤ 33554432 := by
  unfold deR2
  split
  · unfold deF
    split
    · simp
    · split
      · simp
      · have := swL_len i p (4 * fsI (dvN ws ps es qs) + 2)
        simp only [List.length_append, deS, List.length_cons, List.length_nil]
        omega
  · simp
theorem prR2_len (ws : List Int) (ps : List St) (es : List Int) (qs : List Se) (i p : Int) : (prR2 ws ps es qs i p).1.length ≤ 33554432 := by
  unfold prR2
  split
  · unfold prF
    split
    · simp
    · split
      · simp
      · have := swL_len i p (4 * fpI (dvN ws ps es qs) + 1)
        have := flushL_len [312 + fpI (dvN ws ps es qs)]
        simp only [List.length_append, prS, List.length_cons, List.length_nil] at this ⊢
        omega
  · simp
end Go.Proofs.YtfcjhhiekjbbiaaGreatDoor
