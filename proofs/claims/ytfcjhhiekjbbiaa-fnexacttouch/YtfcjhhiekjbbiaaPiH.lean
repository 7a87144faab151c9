/- The entries that are mapped; the entries that are taken: by the program. -/
import Derived.Test.YtfcjhhiekjbbiaaImD
import Derived.Test.YtfcjhhiekjbbiaaWd
import Derived.Test.YtfcjhhiekjbbiaaIntS
import Derived.Test.YtfcjhhiekjbbiaaImJ
import Derived.Test.YtfcjhhiekjbbiaaImB
import Derived.Test.YtfcjhhiekjbbiaaSecS
import Derived.Test.YtfcjhhiekjbbiaaImF
import Derived.Test.YtfcjhhiekjbbiaaImE
import Derived.Deep.RegionLaw
import Derived.Laws.CopyRow
import Derived.Laws.CopyOwn
import Derived.Deep.RegionHeld3
import Derived.Laws.OwnMore
import Derived.Deep.RegionWith
namespace Go.Proofs.Ytfcjhhiekjbbiaa
open Go.RowKit

/-- A row of numbers that grows. -/
structure InI (W w : World) (vL : Value) (zs : List Int) : Prop where
  l : w.ownsRow W.heap.size 3 1 vL zs.length (ints zs)
  b : Below W.heap.size W w
theorem InI.z {W w : World} {vL : Value} {zs : List Int} (h : InI W w vL zs) : W.heap.size ≤ w.heap.size := h.b.size
theorem InI.below {W w w' : World} {vL : Value} {zs : List Int} (h : InI W w vL zs) (hb : Below w.heap.size w w') : InI W w' vL zs :=
  ⟨((own_block h.l).below hb (Nat.le_refl _)).1, below_trans h.b hb h.z⟩
end Go.Proofs.Ytfcjhhiekjbbiaa
