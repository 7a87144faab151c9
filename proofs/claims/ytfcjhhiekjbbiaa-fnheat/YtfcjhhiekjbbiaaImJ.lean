/- Images: as the laws hand them on, alike, and their room. -/
import Derived.Test.YtfcjhhiekjbbiaaImH
import Derived.Test.YtfcjhhiekjbbiaaImF
import Derived.Deep.RegionWith
namespace Go.Proofs.Ytfcjhhiekjbbiaa
open Go.RowKit

/-- An image that can be read: its words, and its stores. -/
def RdIm (w : World) (v : Value) (ws : List Ino) (ps : List Den) : Prop := ∃ vW vP, v = .agg #[vW, vP] ∧ RdN w vW ws ∧ RdD w vP ps
theorem RdIm.below {w w' : World} {v : Value} {ws : List Ino} {ps : List Den} (h : RdIm w v ws ps) (hb : Below w.heap.size w w') : RdIm w' v ws ps := by
  obtain ⟨vW, vP, rfl, h1, h2⟩ := h
  exact ⟨vW, vP, rfl, Rd.below h1 hb, Rd.below h2 hb⟩
end Go.Proofs.Ytfcjhhiekjbbiaa
