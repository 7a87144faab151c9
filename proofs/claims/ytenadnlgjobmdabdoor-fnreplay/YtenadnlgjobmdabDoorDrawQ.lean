/- A memory, drawn from bytes. -/
import Derived.Test.YtenadnlgjobmdabDoorDrawP
namespace Go.Proofs.YtenadnlgjobmdabDoor
open Go.RowKit

end Go.Proofs.YtenadnlgjobmdabDoor
