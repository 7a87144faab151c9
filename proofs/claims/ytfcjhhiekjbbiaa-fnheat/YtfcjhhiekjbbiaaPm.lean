/- The helpers of the laws over memories. -/
import Derived.Test.YtfcjhhiekjbbiaaStoreS
import Derived.Deep.RegionWith
namespace Go.Proofs.Ytfcjhhiekjbbiaa
open Go.RowKit

/-- A memory that can be read: its words, and its stores. -/
def RdPm (w : World) (v : Value) (ws : List Int) (ps : List St) : Prop := ∃ vW vP, v = .agg #[vW, vP] ∧ RdI w vW ws ∧ RdS w vP ps
theorem RdPm.below {w w' : World} {v : Value} {ws : List Int} {ps : List St} (h : RdPm w v ws ps) (hb : Below w.heap.size w w') : RdPm w' v ws ps := by
  obtain ⟨vW, vP, rfl, h1, h2⟩ := h
  exact ⟨vW, vP, rfl, Rd.below h1 hb, Rd.below h2 hb⟩
end Go.Proofs.Ytfcjhhiekjbbiaa
