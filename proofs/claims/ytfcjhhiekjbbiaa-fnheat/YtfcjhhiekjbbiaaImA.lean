/- Inodes and entries as the laws hand them on: mathematics and the helpers over one of them. -/
import Derived.Test.YtfcjhhiekjbbiaaIntS
import Derived.Test.YtfcjhhiekjbbiaaWd
import Derived.BigQuiet
import Derived.Deep.QuietTactic
namespace Go.Proofs.Ytfcjhhiekjbbiaa
open Go.RowKit

/-- An inode. -/
structure Ino where
  kind : Int
  size : Int
  links : Int
  m0 : Int
  m1 : Int
  m2 : Int
  m3 : Int
  m4 : Int
  m5 : Int
  m6 : Int
  m7 : Int
/-- The map of an inode, as a list. -/
def Ino.map (x : Ino) : List Int := [x.m0, x.m1, x.m2, x.m3, x.m4, x.m5, x.m6, x.m7]
/-- An inode as a value. -/
def Ino.v (x : Ino) : Value := .agg #[.int .i64 x.kind, .int .i64 x.size, .int .i64 x.links, .int .i64 x.m0, .int .i64 x.m1, .int .i64 x.m2, .int .i64 x.m3, .int .i64 x.m4, .int .i64 x.m5, .int .i64 x.m6, .int .i64 x.m7]
/-- An inode's cells. -/
def Ino.cs (x : Ino) : List Value := [.int .i64 x.kind, .int .i64 x.size, .int .i64 x.links, .int .i64 x.m0, .int .i64 x.m1, .int .i64 x.m2, .int .i64 x.m3, .int .i64 x.m4, .int .i64 x.m5, .int .i64 x.m6, .int .i64 x.m7]

end Go.Proofs.Ytfcjhhiekjbbiaa
