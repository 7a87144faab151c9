/- The helpers of the laws over memories. -/
import Derived.Test.YtenadnlgjobmdabDoorStoreT
namespace Go.Proofs.YtenadnlgjobmdabDoor
open Go.RowKit

/-- A memory that can be read: its words, and its stores. -/
def RdPm (w : World) (v : Value) (ws : List Int) (ps : List St) : Prop := ∃ vW vP, v = .agg #[vW, vP] ∧ RdI w vW ws ∧ RdS w vP ps
/-- A memory of a call's own. -/
def RowPm (w : World) (lo hi : Nat) (v : Value) (ws : List Int) (ps : List St) : Prop := ∃ vW vP, v = .agg #[vW, vP] ∧ Row w 3 1 lo hi vW ws.length (ints ws) ∧ Row w 75 3 lo hi vP ps.length (sts ps)

theorem RowPm.rd {w : World} {lo hi : Nat} {v : Value} {ws : List Int} {ps : List St} (h : RowPm w lo hi v ws ps) : RdPm w v ws ps := by
  obtain ⟨vW, vP, rfl, h1, h2⟩ := h
  exact ⟨vW, vP, rfl, h1.rd, h2.rd⟩
theorem RdPm.below {w w' : World} {v : Value} {ws : List Int} {ps : List St} (h : RdPm w v ws ps) (hb : Below w.heap.size w w') : RdPm w' v ws ps := by
  obtain ⟨vW, vP, rfl, h1, h2⟩ := h
  exact ⟨vW, vP, rfl, Rd.below h1 hb, Rd.below h2 hb⟩
theorem RowPm.below {w w' : World} {lo hi : Nat} {v : Value} {ws : List Int} {ps : List St} (h : RowPm w lo hi v ws ps) {B : Nat} (hb : Below B w w') (hB : hi ≤ B) : RowPm w' lo hi v ws ps := by
  obtain ⟨vW, vP, rfl, h1, h2⟩ := h
  exact ⟨vW, vP, rfl, h1.below hb hB, h2.below hb hB⟩
theorem RowPm.outside {w w' : World} {lo hi : Nat} {v : Value} {ws : List Int} {ps : List St} (h : RowPm w lo hi v ws ps) {lo' hi' : Nat} (ho : Outside lo' hi' w w') (hd : hi ≤ lo' ∨ hi' ≤ lo) (hz : hi ≤ w.heap.size) : RowPm w' lo hi v ws ps := by
  obtain ⟨vW, vP, rfl, h1, h2⟩ := h
  exact ⟨vW, vP, rfl, h1.outside ho hd hz, h2.outside ho hd hz⟩
theorem RowPm.wide {w : World} {lo hi : Nat} {v : Value} {ws : List Int} {ps : List St} (h : RowPm w lo hi v ws ps) {lo' hi' : Nat} (h1 : lo' ≤ lo) (h2 : hi ≤ hi') : RowPm w lo' hi' v ws ps := by
  obtain ⟨vW, vP, rfl, a, b⟩ := h
  exact ⟨vW, vP, rfl, a.wide h1 h2, b.wide h1 h2⟩

end Go.Proofs.YtenadnlgjobmdabDoor
