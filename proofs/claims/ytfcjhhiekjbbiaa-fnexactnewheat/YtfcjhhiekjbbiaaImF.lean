/- The helpers of the laws over slices of entries. -/
import Derived.Test.YtfcjhhiekjbbiaaStoreS
import Derived.Test.YtfcjhhiekjbbiaaImE
namespace Go.Proofs.Ytfcjhhiekjbbiaa
open Go.RowKit

def Den.cells (s : Den) : List Value := [.int .i64 s.dir, .string s.name, .int .i64 s.child]
def dens (ps : List Den) : List Value := ps.flatMap Den.cells

/-- A slice of steps that can be read. -/
def RdD (w : World) (v : Value) (ps : List Den) : Prop := Rd w 3 v ps.length (dens ps)
end Go.Proofs.Ytfcjhhiekjbbiaa
