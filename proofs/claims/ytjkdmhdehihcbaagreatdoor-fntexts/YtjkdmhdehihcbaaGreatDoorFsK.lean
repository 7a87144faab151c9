/- An operation, drawn. -/
import Derived.Test.YtjkdmhdehihcbaaGreatDoorZBV
import Derived.Test.YtjkdmhdehihcbaaGreatDoorDtE
namespace Go.Proofs.YtjkdmhdehihcbaaGreatDoor
open Go.RowKit
theorem Outside.newer {lo hi l2 h2 : Nat} {w x y : World} (h : Outside lo hi w x) (k : Outside l2 h2 x y) (hl : w.heap.size ≤ l2) : Outside lo hi w y :=
  ⟨k.os.trans h.os, k.tape.trans h.tape, k.output.trans h.output, Nat.le_trans h.size k.size, fun i hi' ho => (k.block i (Nat.lt_of_lt_of_le hi' h.size) (.inl (by omega))).trans (h.block i hi' ho)⟩
theorem five_all {w : World} {b : Nat} {t : TypeId} {x0 x1 x2 x3 x4 : Value} (h : w.heap[b]? = some (.cells #[x0, x1, x2, x3, x4] t (0, 0))) : w.cell? ⟨b, 0, none⟩ = some x0 ∧ w.cell? ⟨b, 1, none⟩ = some x1 ∧ w.cell? ⟨b, 2, none⟩ = some x2 ∧ w.cell? ⟨b, 3, none⟩ = some x3 ∧ w.cell? ⟨b, 4, none⟩ = some x4 ∧ w.frozen? ⟨b, 0, none⟩ = false ∧ w.frozen? ⟨b, 1, none⟩ = false ∧ w.frozen? ⟨b, 2, none⟩ = false ∧ w.frozen? ⟨b, 3, none⟩ = false ∧ w.frozen? ⟨b, 4, none⟩ = false := by simp [World.cell?, World.frozen?, h]
theorem five_set0 {w : World} {b : Nat} {t : TypeId} {x0 x1 x2 x3 x4 : Value} (h : w.heap[b]? = some (.cells #[x0, x1, x2, x3, x4] t (0, 0))) (u : Value) : (w.setCell ⟨b, 0, none⟩ u).heap[b]? = some (.cells #[u, x1, x2, x3, x4] t (0, 0)) := by simp [World.setCell, Array.getElem?_modify, h]
theorem five_set1 {w : World} {b : Nat} {t : TypeId} {x0 x1 x2 x3 x4 : Value} (h : w.heap[b]? = some (.cells #[x0, x1, x2, x3, x4] t (0, 0))) (u : Value) : (w.setCell ⟨b, 1, none⟩ u).heap[b]? = some (.cells #[x0, u, x2, x3, x4] t (0, 0)) := by simp [World.setCell, Array.getElem?_modify, h]
theorem five_set2 {w : World} {b : Nat} {t : TypeId} {x0 x1 x2 x3 x4 : Value} (h : w.heap[b]? = some (.cells #[x0, x1, x2, x3, x4] t (0, 0))) (u : Value) : (w.setCell ⟨b, 2, none⟩ u).heap[b]? = some (.cells #[x0, x1, u, x3, x4] t (0, 0)) := by simp [World.setCell, Array.getElem?_modify, h]
theorem five_set3 {w : World} {b : Nat} {t : TypeId} {x0 x1 x2 x3 x4 : Value} (h : w.heap[b]? = some (.cells #[x0, x1, x2, x3, x4] t (0, 0))) (u : Value) : (w.setCell ⟨b, 3, none⟩ u).heap[b]? = some (.cells #[x0, x1, x2, u, x4] t (0, 0)) := by simp [World.setCell, Array.getElem?_modify, h]
theorem five_set4 {w : World} {b : Nat} {t : TypeId} {x0 x1 x2 x3 x4 : Value} (h : w.heap[b]? = some (.cells #[x0, x1, x2, x3, x4] t (0, 0))) (u : Value) : (w.setCell ⟨b, 4, none⟩ u).heap[b]? = some (.cells #[x0, x1, x2, x3, u] t (0, 0)) := by simp [World.setCell, Array.getElem?_modify, h]
def put5 (w : World) (b : Nat) (x0 x1 x2 x3 x4 : Value) : World := ((((w.setCell ⟨b, 0, none⟩ x0).setCell ⟨b, 1, none⟩ x1).setCell ⟨b, 2, none⟩ x2).setCell ⟨b, 3, none⟩ x3).setCell ⟨b, 4, none⟩ x4
theorem put5_out (w : World) (b : Nat) (x0 x1 x2 x3 x4 : Value) : Outside b (b + 1) w (put5 w b x0 x1 x2 x3 x4) := by
  unfold put5
  repeat (refine Outside.setCell ?_ (by simp only; omega) (by simp only; omega) _)
  exact Outside.refl _ _ _
structure OpI (w0 w W : World) (b k : Nat) (vC : Value) (bs : List Int) (ob : Nat) (x0 x1 x2 x3 x4 : Value) : Prop where
  src : Src w0 W b vC bs k
  out : Outside b (b + 1) w W
  box : W.heap[ob]? = some (.cells #[x0, x1, x2, x3, x4] 24 (0, 0))
  res : W.heap[w.heap.size]? = some (.cells #[.int .i64 0, .string ⟨#[]⟩, .string ⟨#[]⟩, .int .i64 0, .int .i64 0] 24 (0, 0))
  far : w.heap.size < ob
  near : b < w.heap.size
  base : w0.heap.size ≤ w.heap.size
theorem OpI.drew {w0 w W W' : World} {b k k' : Nat} {vC : Value} {bs : List Int} {ob : Nat} {x0 x1 x2 x3 x4 : Value} (h : OpI w0 w W b k vC bs ob x0 x1 x2 x3 x4) (S : Src w0 W' b vC bs k') (O : Outside b (b + 1) W W') : OpI w0 w W' b k' vC bs ob x0 x1 x2 x3 x4 :=
  ⟨S, h.out.trans O, (O.block ob (Array.getElem?_eq_some_iff.1 h.box).1 (by have := h.far; have := h.near; omega)).trans h.box, (O.block _ (Array.getElem?_eq_some_iff.1 h.res).1 (by have := h.near; omega)).trans h.res, h.far, h.near, h.base⟩
theorem OpI.fin {w0 w W : World} {b k : Nat} {vC : Value} {bs : List Int} {ob : Nat} {x0 x1 x2 x3 x4 : Value} (h : OpI w0 w W b k vC bs ob x0 x1 x2 x3 x4) (y0 y1 y2 y3 y4 : Value) : Src w0 (put5 W w.heap.size y0 y1 y2 y3 y4) b vC bs k ∧ Outside b (b + 1) w (put5 W w.heap.size y0 y1 y2 y3 y4) :=
  ⟨h.src.outside (put5_out _ _ _ _ _ _ _) (.inl h.near) h.base, h.out.newer (put5_out _ _ _ _ _ _ _) (Nat.le_refl _)⟩
theorem OpI.set0 {w0 w W : World} {b k : Nat} {vC : Value} {bs : List Int} {ob : Nat} {x0 x1 x2 x3 x4 : Value} (h : OpI w0 w W b k vC bs ob x0 x1 x2 x3 x4) (u : Value) : OpI w0 w (W.setCell ⟨ob, 0, none⟩ u) b k vC bs ob u x1 x2 x3 x4 := by
  have O : Outside ob (ob + 1) W (W.setCell ⟨ob, 0, none⟩ u) := Outside.setCell (Outside.refl _ _ _) (a := ⟨ob, 0, none⟩) (Nat.le_refl _) (Nat.lt_succ_self _) _
  have f := h.far
  have n := h.near
  have z := h.base
  exact ⟨h.src.outside O (by omega) (by omega), h.out.newer O (by omega), five_set0 h.box u, (O.block _ (Array.getElem?_eq_some_iff.1 h.res).1 (by omega)).trans h.res, f, n, z⟩
theorem OpI.set1 {w0 w W : World} {b k : Nat} {vC : Value} {bs : List Int} {ob : Nat} {x0 x1 x2 x3 x4 : Value} (h : OpI w0 w W b k vC bs ob x0 x1 x2 x3 x4) (u : Value) : OpI w0 w (W.setCell ⟨ob, 1, none⟩ u) b k vC bs ob x0 u x2 x3 x4 := by
  have O : Outside ob (ob + 1) W (W.setCell ⟨ob, 1, none⟩ u) := Outside.setCell (Outside.refl _ _ _) (a := ⟨ob, 1, none⟩) (Nat.le_refl _) (Nat.lt_succ_self _) _
  have f := h.far
  have n := h.near
  have z := h.base
  exact ⟨h.src.outside O (by omega) (by omega), h.out.newer O (by omega), five_set1 h.box u, (O.block _ (Array.getElem?_eq_some_iff.1 h.res).1 (by omega)).trans h.res, f, n, z⟩
theorem OpI.set2 {w0 w W : World} {b k : Nat} {vC : Value} {bs : List Int} {ob : Nat} {x0 x1 x2 x3 x4 : Value} (h : OpI w0 w W b k vC bs ob x0 x1 x2 x3 x4) (u : Value) : OpI w0 w (W.setCell ⟨ob, 2, none⟩ u) b k vC bs ob x0 x1 u x3 x4 := by
  have O : Outside ob (ob + 1) W (W.setCell ⟨ob, 2, none⟩ u) := Outside.setCell (Outside.refl _ _ _) (a := ⟨ob, 2, none⟩) (Nat.le_refl _) (Nat.lt_succ_self _) _
  have f := h.far
  have n := h.near
  have z := h.base
  exact ⟨h.src.outside O (by omega) (by omega), h.out.newer O (by omega), five_set2 h.box u, (O.block _ (Array.getElem?_eq_some_iff.1 h.res).1 (by omega)).trans h.res, f, n, z⟩
theorem OpI.set3 {w0 w W : World} {b k : Nat} {vC : Value} {bs : List Int} {ob : Nat} {x0 x1 x2 x3 x4 : Value} (h : OpI w0 w W b k vC bs ob x0 x1 x2 x3 x4) (u : Value) : OpI w0 w (W.setCell ⟨ob, 3, none⟩ u) b k vC bs ob x0 x1 x2 u x4 := by
  have O : Outside ob (ob + 1) W (W.setCell ⟨ob, 3, none⟩ u) := Outside.setCell (Outside.refl _ _ _) (a := ⟨ob, 3, none⟩) (Nat.le_refl _) (Nat.lt_succ_self _) _
  have f := h.far
  have n := h.near
  have z := h.base
  exact ⟨h.src.outside O (by omega) (by omega), h.out.newer O (by omega), five_set3 h.box u, (O.block _ (Array.getElem?_eq_some_iff.1 h.res).1 (by omega)).trans h.res, f, n, z⟩
theorem OpI.set4 {w0 w W : World} {b k : Nat} {vC : Value} {bs : List Int} {ob : Nat} {x0 x1 x2 x3 x4 : Value} (h : OpI w0 w W b k vC bs ob x0 x1 x2 x3 x4) (u : Value) : OpI w0 w (W.setCell ⟨ob, 4, none⟩ u) b k vC bs ob x0 x1 x2 x3 u := by
  have O : Outside ob (ob + 1) W (W.setCell ⟨ob, 4, none⟩ u) := Outside.setCell (Outside.refl _ _ _) (a := ⟨ob, 4, none⟩) (Nat.le_refl _) (Nat.lt_succ_self _) _
  have f := h.far
  have n := h.near
  have z := h.base
  exact ⟨h.src.outside O (by omega) (by omega), h.out.newer O (by omega), five_set4 h.box u, (O.block _ (Array.getElem?_eq_some_iff.1 h.res).1 (by omega)).trans h.res, f, n, z⟩
theorem op_ok {k : Int} {p t : ByteArray} {g x : Int} (h1 : p.size ≤ 100) (h2 : t.size ≤ 100) (hk : 1 ≤ k ∧ k ≤ 10) (ht : k = 4 ∨ k = 5 ∨ t.size = 0) (hx : k = 6 ∨ x = 0) (hg : g = 0 ∨ (6 ≤ k ∧ k ≤ 8)) : opB k p t g x = true := decide_eq_true ⟨hk, by omega, by omega, ht, hx, hg.symm⟩
end Go.Proofs.YtjkdmhdehihcbaaGreatDoor
