/- Marks in a row of updates. -/
import Derived.Test.YtcilodgoognmnaaGreatDoorZAF
namespace Go.Proofs.YtcilodgoognmnaaGreatDoor
open Go.RowKit

theorem rdE_marks {w : World} {lo hi : Nat} {v : Value} {k : Int} {n : Nat} (h : Row w 130 2 lo hi v n (ses (marksE k n))) : RdE w v (marksE k n) := by
  have e : (marksE k n).length = n := by simp [marksE]
  unfold RdE
  rw [e]
  exact h.rd


end Go.Proofs.YtcilodgoognmnaaGreatDoor
