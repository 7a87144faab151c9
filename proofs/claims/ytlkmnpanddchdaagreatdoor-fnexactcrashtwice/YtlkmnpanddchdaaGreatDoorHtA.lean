/- Heat that is drawn. -/
import Derived.Test.YtlkmnpanddchdaaGreatDoorZAO
import Derived.Test.YtlkmnpanddchdaaGreatDoorZAA
import Derived.BigRegion
import Derived.BigQuiet
import Derived.Deep.QuietTactic
namespace Go.Proofs.YtlkmnpanddchdaaGreatDoor
open Go.RowKit
theorem yatt {hs:List Int} (h:hs.length = 128) (k:∀ k (h:k < hs.length),0 ≤ hs[k] ∧ hs[k] ≤ 64):zju hs = true:=decide_eq_true ⟨h,k⟩
theorem yakm:zju (zgq 128) = true:=yatt (zkz 128) (fun k h => by
 have e:(zgq 128)[k] = 1:=List.eq_of_mem_replicate (List.getElem_mem h)
 rw [e]
 omega)
end Go.Proofs.YtlkmnpanddchdaaGreatDoor
