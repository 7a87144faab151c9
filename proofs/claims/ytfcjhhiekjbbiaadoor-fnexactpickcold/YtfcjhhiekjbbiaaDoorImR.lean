/- Images that are not too great. -/
import Derived.Test.YtfcjhhiekjbbiaaDoorImJ
namespace Go.Proofs.YtfcjhhiekjbbiaaDoor
open Go.RowKit

theorem room_small {n : Nat} {ps : List Den} (h : ¬ roomI n ps < 0) : n ≤ 1048576 ∧ ps.length ≤ 1048576 := by
  unfold roomI at h
  split at h
  · omega
  · rename_i c
    refine ⟨by omega, ?_⟩
    rcases Nat.lt_or_ge 1048576 ps.length with q | q
    · exfalso
      have := roomD_neg ps (1048576 - (n : Int)) (by omega) 0 (by unfold roomD; rw [if_pos (by omega)]; omega) ps.length
      rw [Nat.zero_add] at this
      omega
    · exact q

end Go.Proofs.YtfcjhhiekjbbiaaDoor
