/- Heat that is drawn. -/
import Derived.Test.YtahiphgmhndgaaaGreatDoorZAP
import Derived.Test.YtahiphgmhndgaaaGreatDoorZAA
import Derived.BigRegion
import Derived.BigQuiet
import Derived.Deep.QuietTactic
namespace Go.Proofs.YtahiphgmhndgaaaGreatDoor
open Go.RowKit
theorem yaro {hs:List Int} (h:hs.length=128) (k:∀ k (h:k < hs.length),0≤hs[k]∧hs[k]≤64):zjt hs=true:=decide_eq_true ⟨h,k⟩
theorem yakt:zjt (zgn 128)=true:=yaro (zka 128) (fun k h=>by
 have e:(zgn 128)[k]=1:=List.eq_of_mem_replicate (List.getElem_mem h);rw[e]
 omega)
end Go.Proofs.YtahiphgmhndgaaaGreatDoor
