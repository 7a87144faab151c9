/- The law of CrashTwice, the program's contract put in. -/
import Derived.Test.YtahiphgmhndgaaaGreatDoorCrJ
import Derived.Test.YtahiphgmhndgaaaGreatDoorLawCrashTwice
namespace Go.Proofs.YtahiphgmhndgaaaGreatDoor
open Go.RowKit
theorem znu (v:Value) (ws:List Int) (ps:List St) (es:List Int) (qs:List Se) (hs:List Int) (td:List Mi) (cd vl:Int) (nm:List ByteArray) (fr:Bool) (vZ:Value) (zs:List Int) (vA:Value) (gs:List Int) (st:Int) (w:World) (h:RdF w v ws ps es qs hs td cd vl nm fr) (hZ:RdI w vZ zs) (hA:RdI w vA gs) (hB:ws.length≤maxLen∧ps.length≤maxLen∧es.length≤maxLen∧qs.length≤maxLen∧hs.length≤maxLen∧td.length≤maxLen∧nm.length≤maxLen) (hz:∀ k (hk:k < nm.length),nm[k].size≤maxLen) (hS:SB w) (hT:TS w) (hE:ED w) (hF:FD w) (hN:NW w) :
  Calls Tryz.prog 4 #[v,vZ,.int .i64 st,vA] w fun e w'=>e=.returned (.bool true)∧Below w.heap.size w w' :=
 zqp v ws ps es qs hs td cd vl nm fr vZ zs vA gs st w h hZ hA hB hz (fun b bz v1 uZ uA w1 hb hr hzr har=>zkw v1 ws ps es qs hs td cd vl nm fr uZ zs st uA gs w1 hr hzr har b.1 b.2.1 b.2.2.1 b.2.2.2.1 b.2.2.2.2.1 b.2.2.2.2.2.1 b.2.2.2.2.2.2 bz.1 bz.2 (hS.below hb) (hT.below hb) (hE.below hb) (hF.below hb) (hN.below hb))
end Go.Proofs.YtahiphgmhndgaaaGreatDoor
