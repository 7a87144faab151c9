/- What is flushed made sure: by the program, and by the model. -/
import Derived.Test.YtpgdpachomdfhaaPmFence
import Derived.Test.YtpgdpachomdfhaaPmFlushI
namespace Go.Proofs.Ytpgdpachomdfhaa
open Go.RowKit

def fenceC (ws : List Int) (ps : List St) : Int := if pmB ws ps = true then 0 else 1
def fenceWs (ws : List Int) (ps : List St) : List Int := if pmB ws ps = true then fenW ws ps else []
def fencePs (ws : List Int) (ps : List St) : List St := if pmB ws ps = true then fenP ps else []
theorem fenceWs_len (ws : List Int) (ps : List St) : (fenceWs ws ps).length ≤ ws.length := by
  unfold fenceWs
  split
  · rw [fenW_len]; exact Nat.le_refl _
  · simp
theorem fencePs_len (ws : List Int) (ps : List St) : (fencePs ws ps).length ≤ ps.length := by
  unfold fencePs
  split
  · exact fenP_le ps
  · simp
theorem fence_not {ws : List Int} {ps : List St} (h : pmB ws ps = false) : fenceC ws ps = 1 ∧ fenceWs ws ps = [] ∧ fencePs ws ps = [] := by
  unfold fenceC fenceWs fencePs
  rw [h]
  exact ⟨rfl, rfl, rfl⟩
theorem fence_ok {ws : List Int} {ps : List St} (h : pmB ws ps = true) : fenceC ws ps = 0 ∧ fenceWs ws ps = fenW ws ps ∧ fencePs ws ps = fenP ps := by
  unfold fenceC fenceWs fencePs
  rw [h]
  exact ⟨rfl, rfl, rfl⟩

/-- In the midst of the program's fence. -/
structure FenInvI (w wr : World) (ws : List Int) (ps : List St) (lo hi : Nat) (vW vL : Value) (m : Nat) : Prop where
  words : Row wr 3 1 lo hi vW ws.length (ints (fenW ws (ps.take m)))
  left : wr.ownsRow (hi + 1) 62 3 vL (fenP (ps.take m)).length (sts (fenP (ps.take m)))
  aft : wr.heap[hi]? = some (.cells #[vW, vL] 31 (0, 0))
  res : wr.heap[w.heap.size + 1]? = some (.cells #[.slice none 0 0, .slice none 0 0] 31 (0, 0))
  below : Below w.heap.size w wr
  size : hi + 1 ≤ wr.heap.size

theorem FenInvI.hit {w wr : World} {ws : List Int} {ps : List St} {lo hi : Nat} {b n cap : Nat} {vL : Value} {m : Nat} (h : FenInvI w wr ws ps lo hi (.slice (some ⟨b, 0, none⟩) n cap) vL m) (hm : m < ps.length) (hf : ps[m].fl = true) (hlo : w.heap.size + 2 ≤ lo) (o : Obj) (hn : n = ws.length) :
    FenInvI w ((wr.setCell ⟨b, ps[m].at_.toNat, none⟩ (.int .i64 ps[m].val)).alloc o) ws ps lo hi (.slice (some ⟨b, 0, none⟩) n cap) vL (m + 1) := by
  subst hn
  obtain ⟨h1, h2, h4, h5, h6, h7⟩ := h
  obtain ⟨_, hb1, hb2, _⟩ := h1.at
  have e1 : fenW ws (ps.take (m + 1)) = (fenW ws (ps.take m)).set ps[m].at_.toNat ps[m].val := by rw [take_snoc ps m hm, fenW_snoc, if_pos hf]
  have e2 : fenP (ps.take (m + 1)) = fenP (ps.take m) := by rw [take_snoc ps m hm, fenP_snoc, if_pos hf]
  refine ⟨?_, ?_, ?_, ?_, ?_, ?_⟩
  · rw [e1, ← ints_set]
    exact (h1.stored _ _).alloc (by simp; omega) o
  · rw [e2]
    exact ((own_block h2).same (w' := wr.setCell ⟨b, ps[m].at_.toNat, none⟩ (.int .i64 ps[m].val)) (fun k hk _ => Below.heap_setCell _ _ _ _ (by simp only; omega))).1.alloc o
  · refine at_old ?_
    rw [Below.heap_setCell _ _ _ _ (by simp only; omega)]; exact h4
  · refine at_old ?_
    rw [Below.heap_setCell _ _ _ _ (by simp only; omega)]; exact h5
  · exact (h6.setCell (by simp only; omega) _).alloc (by simp; exact h6.size) o
  · simp; omega

theorem FenInvI.miss {w wr w' : World} {ws : List Int} {ps : List St} {lo hi : Nat} {vW vL vL' : Value} {m : Nat} (h : FenInvI w wr ws ps lo hi vW vL m) (hm : m < ps.length) (hf : ps[m].fl = false) (hlo : w.heap.size + 2 ≤ lo) (hhi : lo ≤ hi) (o o' : Obj)
    (ho : w'.ownsRow (hi + 1) 62 3 vL' ((fenP (ps.take m)).length + 1) (sts (fenP (ps.take m)) ++ St.cells ps[m])) (hg : ((wr.alloc o).alloc o').grownBy w' vL.ownBlock) :
    FenInvI w (w'.setCell ⟨hi, 1, none⟩ vL') ws ps lo hi vW vL' (m + 1) ∧ w'.heap[hi]? = some (.cells #[vW, vL] 31 (0, 0)) := by
  obtain ⟨h1, h2, h4, h5, h6, h7⟩ := h
  have hl := fun k hk => (((h2.alloc o).alloc o').lt k hk).1
  have e1 : fenW ws (ps.take (m + 1)) = fenW ws (ps.take m) := by rw [take_snoc ps m hm, fenW_snoc, hf]; rfl
  have e2 : fenP (ps.take (m + 1)) = fenP (ps.take m) ++ [ps[m]] := by rw [take_snoc ps m hm, fenP_snoc, hf]; rfl
  have keep : ∀ k, k < hi + 1 → w'.heap[k]? = ((wr.alloc o).alloc o').heap[k]? := fun k hk => hg.block k (by simp; omega) (fun e => by have := hl k e.symm; omega)
  have l5 := (Array.getElem?_eq_some_iff.1 h5).1
  have a4 : w'.heap[hi]? = some (.cells #[vW, vL] 31 (0, 0)) := by rw [keep _ (by omega)]; exact at_old (at_old h4)
  refine ⟨⟨?_, ?_, ?_, ?_, ?_, ?_⟩, a4⟩
  · rw [e1]
    refine ((h1.alloc (by omega) o).alloc (by simp; omega) o').same (fun k hk1 hk => ?_)
    rw [Below.heap_setCell _ _ _ _ (by simp only; omega), keep k (by omega)]
  · rw [e2, List.length_append, sts_snoc]
    exact ((own_block ho).same (w' := w'.setCell ⟨hi, 1, none⟩ vL') (fun k hk _ => Below.heap_setCell _ _ _ _ (by simp only; omega))).1
  · exact two_set1 a4 vL'
  · rw [Below.heap_setCell _ _ _ _ (by simp only; omega), keep _ (by omega)]; exact at_old (at_old h5)
  · exact (((h6.alloc h6.size o).alloc (by simp; have := h6.size; omega) o').grown hg (by simp; have := h6.size; omega) (fun k hk => by have := hl k hk; omega)).setCell (by simp only; omega) _
  · have := hg.size; simp at this; simp; omega

/-- The first of a queue. -/
theorem RdS.head {w : World} {q : Value} {ps : List St} {m : Nat} (h : RdS w q (ps.drop m)) (hm : m < ps.length) : ∃ b o cap, q = .slice (some ⟨b, o, none⟩) (ps.length - m) cap ∧ ps.length - m ≤ cap ∧ b < w.heap.size ∧ w.cell? ⟨b, o, none⟩ = some (.int .i64 ps[m].at_) ∧ w.cell? ⟨b, o + 1, none⟩ = some (.int .i64 ps[m].val) ∧ w.cell? ⟨b, o + 2, none⟩ = some (.bool ps[m].fl) := by
  have hdl : (ps.drop m).length = ps.length - m := by simp
  obtain ⟨aq, cq, eq, hcq, hcells⟩ := h.shape
  obtain ⟨b, o, rfl, hbl, hcell⟩ := hcells (by omega)
  obtain ⟨e0, e1, e2⟩ := hcell 0 (by omega)
  simp only [Nat.zero_mul, Nat.add_zero, List.getElem_drop] at e0 e1 e2
  exact ⟨b, o, cq, by rw [← hdl]; exact eq, by omega, hbl, e0, e1, e2⟩
/-- The rest of a queue. -/
theorem RdS.next {w : World} {ps : List St} {m : Nat} {b o cap : Nat} (h : RdS w (.slice (some ⟨b, o, none⟩) (ps.length - m) cap) (ps.drop m)) (hm : m < ps.length) {ao : Option Addr} (h1 : ¬ cap = 1 → ao = some ⟨b, o + 3, none⟩) (h2 : ao ≠ none) {n c : Nat} (hn : n = ps.length - m - 1) (hc : c = cap - 1) : RdS w (.slice ao n c) (ps.drop (m + 1)) := by
  obtain ⟨_, ao', cap', e, ⟨hle, _⟩, hcell⟩ := h
  have hdl : (ps.drop m).length = ps.length - m := by simp
  simp only [Value.slice.injEq] at e
  obtain ⟨rfl, e1, rfl⟩ := e
  have hdl' : (ps.drop (m + 1)).length = n := by simp; omega
  refine ⟨sts_len _, ao, c, by rw [hdl'], ⟨by rw [hdl']; omega, fun e => absurd e h2⟩, fun hpos => ?_⟩
  rw [hdl'] at hpos
  obtain ⟨b', o', e2, hb, hcl⟩ := hcell (by omega)
  cases e2
  refine ⟨b, o + 3, h1 (by omega), hb, fun j hj => ?_⟩
  have hx : sts (ps.drop m) = St.cells ps[m] ++ sts (ps.drop (m + 1)) := by
    show (ps.drop m).flatMap St.cells = St.cells ps[m] ++ (ps.drop (m + 1)).flatMap St.cells
    rw [List.drop_eq_getElem_cons hm, List.flatMap_cons]
  have := hcl (3 + j) (by omega)
  rw [hx, List.getElem?_append_right (by rw [St.cells_len]; omega), St.cells_len, Nat.add_sub_cancel_left] at this
  rw [Nat.add_assoc]
  exact this

end Go.Proofs.Ytpgdpachomdfhaa
