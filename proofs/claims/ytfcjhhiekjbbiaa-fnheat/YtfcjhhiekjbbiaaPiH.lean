/- The entries that are mapped; the entries that are taken: by the program. -/
import Derived.Test.YtfcjhhiekjbbiaaPiG
import Derived.Test.YtfcjhhiekjbbiaaImD
import Derived.Test.YtfcjhhiekjbbiaaWd
import Derived.Test.YtfcjhhiekjbbiaaIntS
import Derived.Test.YtfcjhhiekjbbiaaImB
import Derived.Test.YtfcjhhiekjbbiaaSecS
import Derived.Test.YtfcjhhiekjbbiaaImF
import Derived.Test.YtfcjhhiekjbbiaaImE
import Derived.Deep.RegionLaw
import Derived.Laws.CopyRow
import Derived.Laws.CopyOwn
import Derived.Deep.RegionHeld3
import Derived.Laws.OwnMore
import Derived.Deep.RegionWith
namespace Go.Proofs.Ytfcjhhiekjbbiaa
open Go.RowKit

/-- A row of numbers that grows. -/
structure InI (W w : World) (vL : Value) (zs : List Int) : Prop where
  l : w.ownsRow W.heap.size 3 1 vL zs.length (ints zs)
  b : Below W.heap.size W w
theorem InI.z {W w : World} {vL : Value} {zs : List Int} (h : InI W w vL zs) : W.heap.size ≤ w.heap.size := h.b.size
theorem InI.below {W w w' : World} {vL : Value} {zs : List Int} (h : InI W w vL zs) (hb : Below w.heap.size w w') : InI W w' vL zs :=
  ⟨((own_block h.l).below hb (Nat.le_refl _)).1, below_trans h.b hb h.z⟩
theorem InI.grow {W w w' : World} {vL v' : Value} {zs : List Int} (h : InI W w vL zs) (x : Int) (ho : w'.ownsRow W.heap.size 3 1 v' (zs.length + 1) (ints zs ++ [.int .i64 x])) (hg : w.grownBy w' vL.ownBlock) : InI W w' v' (zs ++ [x]) :=
  ⟨by rw [ints_snoc, List.length_append]; exact ho, h.b.grown hg h.z (fun q hq => (h.l.lt q hq).1)⟩
theorem one_int (x : Int) : ∀ u ∈ [Value.int .i64 x], u.oneCell' = true := by
  intro u hu
  rw [List.mem_singleton.1 hu]
  rfl
end Go.Proofs.Ytfcjhhiekjbbiaa
