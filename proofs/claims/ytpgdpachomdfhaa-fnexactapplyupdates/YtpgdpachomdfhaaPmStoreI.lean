/- A store more: by the program. -/
import Derived.Test.YtpgdpachomdfhaaPmStore
namespace Go.Proofs.Ytpgdpachomdfhaa
open Go.RowKit

theorem storeWs_len (ws : List Int) (ps : List St) (at_ x : Int) : (storeWs ws ps at_ x).length ≤ ws.length := by unfold storeWs; split <;> simp
theorem storePs_len (ws : List Int) (ps : List St) (at_ x : Int) : (storePs ws ps at_ x).length ≤ ps.length + 1 := by
  unfold storePs
  split
  · simp
  · split <;> simp

end Go.Proofs.Ytpgdpachomdfhaa
