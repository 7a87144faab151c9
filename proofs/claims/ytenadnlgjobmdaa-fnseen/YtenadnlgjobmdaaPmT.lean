/- The helpers of the laws over memories: held against one another, marked, looked at, counted. -/
import Derived.Test.YtenadnlgjobmdaaPm
namespace Go.Proofs.Ytenadnlgjobmdaa
open Go.RowKit

end Go.Proofs.Ytenadnlgjobmdaa
