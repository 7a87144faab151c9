/- The law of Recover, the program's contract put in. -/
import Derived.Test.YtlkmnpanddchdaaGreatDoorCrI
import Derived.Test.YtlkmnpanddchdaaGreatDoorLawRecover
namespace Go.Proofs.YtlkmnpanddchdaaGreatDoor
open Go.RowKit
theorem recover_whole (v:Value) (ws:List Int) (ps:List St) (es:List Int) (qs:List Se) (w:World) (h:RdDev w v ws ps es qs) (hB:ws.length ≤ maxLen ∧ ps.length ≤ maxLen ∧ es.length ≤ maxLen ∧ qs.length ≤ maxLen) (hS:SB w) (hT:TS w) (hE:ED w) (hF:FD w) :
  Calls Tryz.prog 4 #[v] w fun e w' => e = .returned (.bool true) ∧ Below w.heap.size w w' :=
 recover_law v ws ps es qs w h hB (fun b v1 w1 hb hr => zpt v1 ws ps es qs w1 hr b.1 b.2.1 b.2.2.1 b.2.2.2 (hS.below hb) (hT.below hb) (hE.below hb) (hF.below hb))
end Go.Proofs.YtlkmnpanddchdaaGreatDoor
