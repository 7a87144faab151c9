/- The helpers of the laws over slices of writes. -/
import Derived.Test.YtfcjhhiekjbbiaaIntS
namespace Go.Proofs.Ytfcjhhiekjbbiaa
open Go.RowKit

/-- A write that is not sure: where, and what. -/
structure Se where
  at_ : Int
  val : Int
deriving DecidableEq

def Se.cells (s : Se) : List Value := [.int .i64 s.at_, .int .i64 s.val]
end Go.Proofs.Ytfcjhhiekjbbiaa
