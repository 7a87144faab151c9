/- The helpers of the laws over slices of stores. -/
import Derived.Test.YtfcjhhiekjbbiaaIntS
namespace Go.Proofs.Ytfcjhhiekjbbiaa
open Go.RowKit

/-- A store that is not sure: where, what, and whether it is flushed. -/
structure St where
  at_ : Int
  val : Int
  fl : Bool
deriving DecidableEq

def St.cells (s : St) : List Value := [.int .i64 s.at_, .int .i64 s.val, .bool s.fl]
end Go.Proofs.Ytfcjhhiekjbbiaa
