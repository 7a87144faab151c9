/- One step, done; devices owned: by the model. -/
import Derived.Test.YtenadnlgjobmdabDoorMicD
namespace Go.Proofs.YtenadnlgjobmdabDoor
open Go.RowKit

end Go.Proofs.YtenadnlgjobmdabDoor
