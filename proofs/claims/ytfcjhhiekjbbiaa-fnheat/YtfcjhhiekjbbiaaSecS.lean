/- The helpers of the laws over slices of writes. -/
import Derived.Test.YtfcjhhiekjbbiaaIntS
namespace Go.Proofs.Ytfcjhhiekjbbiaa
open Go.RowKit

/-- A write that is not sure: where, and what. -/
structure Se where
  at_ : Int
  val : Int
deriving DecidableEq

def Se.cells (s : Se) : List Value := [.int .i64 s.at_, .int .i64 s.val]
def ses (ps : List Se) : List Value := ps.flatMap Se.cells

theorem Se.cells_len (s : Se) : s.cells.length = 2 := rfl
theorem ses_at0 (ps : List Se) (k : Nat) (h : k < ps.length) : (ses ps)[k * 2]? = some (.int .i64 ps[k].at_) := flatMap_at _ 2 Se.cells_len ps k 0 h (by omega)
theorem ses_at1 (ps : List Se) (k : Nat) (h : k < ps.length) : (ses ps)[k * 2 + 1]? = some (.int .i64 ps[k].val) := flatMap_at _ 2 Se.cells_len ps k 1 h (by omega)

/-- A slice of writes that can be read. -/
def RdE (w : World) (v : Value) (ps : List Se) : Prop := Rd w 2 v ps.length (ses ps)
theorem RdE.shape {w : World} {v : Value} {ps : List Se} (h : RdE w v ps) : ∃ ao cap, v = .slice ao ps.length cap ∧ ps.length ≤ cap ∧ (0 < ps.length → ∃ b o, ao = some ⟨b, o, none⟩ ∧ b < w.heap.size ∧
    ∀ k (h : k < ps.length), w.cell? ⟨b, o + k * 2, none⟩ = some (.int .i64 ps[k].at_) ∧ w.cell? ⟨b, o + k * 2 + 1, none⟩ = some (.int .i64 ps[k].val)) := by
  obtain ⟨_, ao, cap, rfl, h2, h3⟩ := h
  refine ⟨ao, cap, rfl, h2.1, fun hn => ?_⟩
  obtain ⟨b, o, rfl, hb, hc⟩ := h3 hn
  exact ⟨b, o, rfl, hb, fun k hk => ⟨(hc (k * 2) (by omega)).trans (ses_at0 ps k hk), (hc (k * 2 + 1) (by omega)).trans (ses_at1 ps k hk)⟩⟩

end Go.Proofs.Ytfcjhhiekjbbiaa
