/- The helpers of the laws over devices: held against one another, marked, looked at, counted. -/
import Derived.Test.YtenadnlgjobmdaaDoorBlk
namespace Go.Proofs.YtenadnlgjobmdaaDoor
open Go.RowKit

end Go.Proofs.YtenadnlgjobmdaaDoor
