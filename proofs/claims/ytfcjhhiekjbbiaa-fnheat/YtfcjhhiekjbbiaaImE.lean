/- Entries: as the laws hand them on, and their updates by the model. -/
import Derived.Test.YtfcjhhiekjbbiaaImD
namespace Go.Proofs.Ytfcjhhiekjbbiaa
open Go.RowKit

/-- An entry. -/
structure Den where
  dir : Int
  name : ByteArray
  child : Int
/-- An entry as a value. -/
def Den.v (x : Den) : Value := .agg #[.int .i64 x.dir, .string x.name, .int .i64 x.child]

end Go.Proofs.Ytfcjhhiekjbbiaa
