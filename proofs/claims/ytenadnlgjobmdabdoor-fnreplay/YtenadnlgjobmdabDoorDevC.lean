/- Behind a region that draws its order and makes devices: the cut's relation. -/
import Derived.Test.YtenadnlgjobmdabDoorMicO
namespace Go.Proofs.YtenadnlgjobmdabDoor
open Go.RowKit

theorem below_allocD {a w : World} (h : Below a.heap.size a w) (o : Obj) : Below a.heap.size a (w.alloc o) := h.alloc h.size o
/-- The cells of two boxes stay, whatever is made behind them. -/
theorem seven {w0 w' : World} {bA bM : Nat} {x0 x1 x2 x3 y0 y1 y2 : Value} {t t' : TypeId} {fr : Nat × Nat} (hA : w0.heap[bA]? = some (.cells #[x0, x1, x2, x3] t (0, 0))) (hM : w0.heap[bM]? = some (.cells #[y0, y1, y2] t' fr)) (hb : Below w0.heap.size w0 w') :
    w'.cell? ⟨bA, 0, none⟩ = some x0 ∧ w'.cell? ⟨bA, 1, none⟩ = some x1 ∧ w'.cell? ⟨bA, 2, none⟩ = some x2 ∧ w'.cell? ⟨bA, 3, none⟩ = some x3 ∧ w'.cell? ⟨bM, 0, none⟩ = some y0 ∧ w'.cell? ⟨bM, 1, none⟩ = some y1 ∧ w'.cell? ⟨bM, 2, none⟩ = some y2 := by
  have a := (hb.block bA (Array.getElem?_eq_some_iff.1 hA).1).trans hA
  have m := (hb.block bM (Array.getElem?_eq_some_iff.1 hM).1).trans hM
  obtain ⟨a0, a1, a2, a3, _⟩ := four_cells a
  obtain ⟨m0, m1, m2⟩ := three_cells m
  exact ⟨a0, a1, a2, a3, m0, m1, m2⟩
/-- The devices that a region has made: their box, and the blocks that they lie in. -/
structure CutD (w0 wx : World) (v0 v1 v2 v3 : Value) (W : List Int) (P : List St) (E : List Int) (Q : List Se) (bx lo hi : Nat) : Prop where
  lo0 : w0.heap.size ≤ lo
  hi1 : hi ≤ wx.heap.size
  bx0 : w0.heap.size ≤ bx
  bx1 : bx < wx.heap.size
  apart : bx < lo ∨ hi ≤ bx
  box : wx.heap[bx]? = some (.cells #[v0, v1, v2, v3] 36 (0, 0))
  row : RowDev wx lo hi (.agg #[v0, v1, v2, v3]) W P E Q
  below : Below w0.heap.size w0 wx
theorem CutD.drew {w0 wx : World} {v0 v1 v2 v3 : Value} {W : List Int} {P : List St} {E : List Int} {Q : List Se} {bx lo hi : Nat} (h : CutD w0 wx v0 v1 v2 v3 W P E Q bx lo hi) : CutD w0 wx.drew v0 v1 v2 v3 W P E Q bx lo hi :=
  ⟨h.lo0, h.hi1, h.bx0, h.bx1, h.apart, h.box, h.row.below ((Below.refl _ _).drew) h.hi1, h.below.drew⟩
theorem CutD.new {w0 wf : World} {v0 v1 v2 v3 : Value} {W : List Int} {P : List St} {E : List Int} {Q : List Se} {lo hi : Nat} (hr : RowDev wf lo hi (.agg #[v0, v1, v2, v3]) W P E Q) (hlo : w0.heap.size ≤ lo) (hhi : hi ≤ wf.heap.size) (hb : Below w0.heap.size w0 wf) : CutD w0 (wf.alloc (.cells #[v0, v1, v2, v3] 36)) v0 v1 v2 v3 W P E Q wf.heap.size lo hi :=
  ⟨hlo, by simp; omega, hb.size, by simp, .inr hhi, at_new rfl, hr.alloc hhi _, below_allocD hb _⟩
theorem CutD.old {w0 wf : World} {v0 v1 v2 v3 : Value} {W : List Int} {P : List St} {E : List Int} {Q : List Se} {bx lo hi : Nat} (hlt : bx < lo) (hr : RowDev wf lo hi (.agg #[v0, v1, v2, v3]) W P E Q) (hlo : w0.heap.size ≤ lo) (hhi : hi ≤ wf.heap.size) (hb : Below w0.heap.size w0 wf) (hx : w0.heap.size ≤ bx) (hv : wf.heap[bx]? = some (.cells #[.slice none 0 0, .slice none 0 0, .slice none 0 0, .slice none 0 0] 36 (0, 0))) : CutD w0 (putR wf bx v0 v1 v2 v3) v0 v1 v2 v3 W P E Q bx lo hi :=
  ⟨hlo, by rw [putR_size]; exact hhi, hx, by rw [putR_size]; exact (Array.getElem?_eq_some_iff.1 hv).1, .inl hlt, by simp [putR, World.setCell, Array.getElem?_modify, hv], hr.outside (putR_out wf bx v0 v1 v2 v3) (by omega) hhi, hb.trans ((putR_out wf bx v0 v1 v2 v3).below hx hb.size)⟩
end Go.Proofs.YtenadnlgjobmdabDoor
