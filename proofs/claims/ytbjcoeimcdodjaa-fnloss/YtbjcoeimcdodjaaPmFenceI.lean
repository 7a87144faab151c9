/- What is flushed made sure: by the program, and by the model. -/
import Derived.Test.YtbjcoeimcdodjaaPmFence
import Derived.Test.YtbjcoeimcdodjaaPmFlush
namespace Go.Proofs.Ytbjcoeimcdodjaa
open Go.RowKit
theorem RdS.head {w : World} {q : Value} {ps : List St} {m : Nat} (h : RdS w q (ps.drop m)) (hm : m < ps.length) : ∃ b o cap, q = .slice (some ⟨b, o, none⟩) (ps.length - m) cap ∧ ps.length - m ≤ cap ∧ b < w.heap.size ∧ w.cell? ⟨b, o, none⟩ = some (.int .i64 ps[m].at_) ∧ w.cell? ⟨b, o + 1, none⟩ = some (.int .i64 ps[m].val) ∧ w.cell? ⟨b, o + 2, none⟩ = some (.bool ps[m].fl) := by
  have hdl : (ps.drop m).length = ps.length - m := by simp
  obtain ⟨aq, cq, eq, hcq, hcells⟩ := h.shape
  obtain ⟨b, o, rfl, hbl, hcell⟩ := hcells (by omega)
  obtain ⟨e0, e1, e2⟩ := hcell 0 (by omega)
  simp only [Nat.zero_mul, Nat.add_zero, List.getElem_drop] at e0 e1 e2
  exact ⟨b, o, cq, by rw [← hdl]; exact eq, by omega, hbl, e0, e1, e2⟩
theorem RdS.next {w : World} {ps : List St} {m : Nat} {b o cap : Nat} (h : RdS w (.slice (some ⟨b, o, none⟩) (ps.length - m) cap) (ps.drop m)) (hm : m < ps.length) {ao : Option Addr} (h1 : ¬ cap = 1 → ao = some ⟨b, o + 3, none⟩) (h2 : ao ≠ none) {n c : Nat} (hn : n = ps.length - m - 1) (hc : c = cap - 1) : RdS w (.slice ao n c) (ps.drop (m + 1)) := by
  obtain ⟨_, ao', cap', e, ⟨hle, _⟩, hcell⟩ := h
  have hdl : (ps.drop m).length = ps.length - m := by simp
  simp only [Value.slice.injEq] at e
  obtain ⟨rfl, e1, rfl⟩ := e
  have hdl' : (ps.drop (m + 1)).length = n := by simp; omega
  refine ⟨sts_len _, ao, c, by rw [hdl'], ⟨by rw [hdl']; omega, fun e => absurd e h2⟩, fun hpos => ?_⟩
  rw [hdl'] at hpos
  obtain ⟨b', o', e2, hb, hcl⟩ := hcell (by omega)
  cases e2
  refine ⟨b, o + 3, h1 (by omega), hb, fun j hj => ?_⟩
  have hx : sts (ps.drop m) = St.cells ps[m] ++ sts (ps.drop (m + 1)) := by
    show (ps.drop m).flatMap St.cells = St.cells ps[m] ++ (ps.drop (m + 1)).flatMap St.cells
    rw [List.drop_eq_getElem_cons hm, List.flatMap_cons]
  have := hcl (3 + j) (by omega)
  rw [hx, List.getElem?_append_right (by rw [St.cells_len]; omega), St.cells_len, Nat.add_sub_cancel_left] at this
  rw [Nat.add_assoc]
  exact this
end Go.Proofs.Ytbjcoeimcdodjaa
