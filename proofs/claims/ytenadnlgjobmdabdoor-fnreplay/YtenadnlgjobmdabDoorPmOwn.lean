/- A memory copied: by the model. -/
import Derived.Test.YtenadnlgjobmdabDoorSmall
import Derived.Deep.RegionLaw
namespace Go.Proofs.YtenadnlgjobmdabDoor
open Go.RowKit

end Go.Proofs.YtenadnlgjobmdabDoor
