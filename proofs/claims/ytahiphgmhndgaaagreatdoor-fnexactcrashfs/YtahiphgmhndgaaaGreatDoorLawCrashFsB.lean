/- The law of CrashFs, the program's contract put in. -/
import Derived.Test.YtahiphgmhndgaaaGreatDoorCrG
import Derived.Test.YtahiphgmhndgaaaGreatDoorLawCrashFs
namespace Go.Proofs.YtahiphgmhndgaaaGreatDoor
open Go.RowKit
theorem crashFs_whole (v:Value) (ws:List Int) (ps:List St) (es:List Int) (qs:List Se) (hs:List Int) (td:List Mi) (cd vl:Int) (nm:List ByteArray) (fr:Bool) (vZ:Value) (zs:List Int) (w:World) (h:RdF w v ws ps es qs hs td cd vl nm fr) (hZ:RdI w vZ zs) (hB:ws.length≤maxLen∧ps.length≤maxLen∧es.length≤maxLen∧qs.length≤maxLen∧hs.length≤maxLen∧td.length≤maxLen∧nm.length≤maxLen) (hz:∀ k (hk:k < nm.length),nm[k].size≤maxLen) (hS:SB w) (hT:TS w) (hE:ED w) (hF:FD w) (hN:NW w) :
  Calls Tryz.prog 3 #[v,vZ] w fun e w'=>e=.returned (.bool true)∧Below w.heap.size w w' :=
 crashFs_law v ws ps es qs hs td cd vl nm fr vZ zs w h hZ hB hz (fun b bz v1 uZ w1 hb hr hzr=>yaho v1 ws ps es qs hs td cd vl nm fr uZ zs w1 hr hzr b.1 b.2.1 b.2.2.1 b.2.2.2.1 b.2.2.2.2.1 b.2.2.2.2.2.1 b.2.2.2.2.2.2 bz (hS.below hb) (hT.below hb) (hE.below hb) (hF.below hb) (hN.below hb))
end Go.Proofs.YtahiphgmhndgaaaGreatDoor
