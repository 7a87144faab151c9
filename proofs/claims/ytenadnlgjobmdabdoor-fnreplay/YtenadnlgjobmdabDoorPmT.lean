/- The helpers of the laws over memories: held against one another, marked, looked at, counted. -/
import Derived.Test.YtenadnlgjobmdabDoorPm
namespace Go.Proofs.YtenadnlgjobmdabDoor
open Go.RowKit

end Go.Proofs.YtenadnlgjobmdabDoor
