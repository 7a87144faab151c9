/- The helpers of the laws over devices: held against one another, marked, looked at, counted. -/
import Derived.Test.YtenadnlgjobmdabDoorBlk
namespace Go.Proofs.YtenadnlgjobmdabDoor
open Go.RowKit

end Go.Proofs.YtenadnlgjobmdabDoor
