/- The helpers of the laws over slices of updates. -/
import Derived.Test.YtenadnlgjobmdabDoorSecT
namespace Go.Proofs.YtenadnlgjobmdabDoor
open Go.RowKit

theorem infoUp : (Tryd.prog.info? 44).map (fun i => (i.zero, i.size, i.bytes)) = some (some (.agg #[.int .i64 0, .int .i64 0]), 2, 16) := by kernel_rfl

end Go.Proofs.YtenadnlgjobmdabDoor
