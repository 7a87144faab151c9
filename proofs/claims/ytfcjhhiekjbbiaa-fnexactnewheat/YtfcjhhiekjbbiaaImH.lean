/- The helpers of the laws over slices of inodes. -/
import Derived.Test.YtfcjhhiekjbbiaaImB
import Derived.Test.YtfcjhhiekjbbiaaSecS
import Derived.Test.YtfcjhhiekjbbiaaMem
import Derived.Deep.RegionWith
import Derived.Deep.RegionHeld3
import Derived.Laws.OwnMore
import Derived.Laws.IdiomStrings
import Derived.Laws.BytesArg
import Derived.Deep.OwnRows
import Derived.WalkKit
namespace Go.Proofs.Ytfcjhhiekjbbiaa
open Go.RowKit

/-- The cells of inodes. -/
def inos (ps : List Ino) : List Value := ps.flatMap Ino.cs
/-- A slice of inodes that can be read. -/
def RdN (w : World) (v : Value) (ps : List Ino) : Prop := Rd w 11 v ps.length (inos ps)
end Go.Proofs.Ytfcjhhiekjbbiaa
