/- What is flushed made sure: by the model. -/
import Derived.Test.YtpgdpachomdfhaaPmFlush
namespace Go.Proofs.Ytpgdpachomdfhaa
open Go.RowKit

/-- The words behind a fence, a store after the other; and what is left. -/
def fenW (ws : List Int) (ps : List St) : List Int := ps.foldl (fun acc p => if p.fl then acc.set p.at_.toNat p.val else acc) ws
def fenP (ps : List St) : List St := ps.filter (fun p => !p.fl)
theorem fenW_snoc (ws : List Int) (ps : List St) (p : St) : fenW ws (ps ++ [p]) = if p.fl then (fenW ws ps).set p.at_.toNat p.val else fenW ws ps := by simp [fenW]
theorem fenW_len (ws : List Int) : ∀ ps : List St, (fenW ws ps).length = ws.length := by
  intro ps
  unfold fenW
  induction ps generalizing ws with
  | nil => rfl
  | cons p ps ih =>
    rw [List.foldl_cons, ih]
    split <;> simp
theorem fenP_snoc (ps : List St) (p : St) : fenP (ps ++ [p]) = if p.fl then fenP ps else fenP ps ++ [p] := by
  unfold fenP
  rw [List.filter_append]
  cases h : p.fl <;> simp [h]
theorem fenP_le (ps : List St) : (fenP ps).length ≤ ps.length := List.length_filter_le _ _


/-- In the midst of a fence: the words so far, the stores, what is left so far. -/
structure FenInv (w wr : World) (ws : List Int) (ps : List St) (lo hi : Nat) (vW vP vL : Value) (m : Nat) : Prop where
  words : Row wr 3 1 lo hi vW ws.length (ints (fenW ws (ps.take m)))
  left : wr.ownsRow hi 62 3 vL (fenP (ps.take m)).length (sts (fenP (ps.take m)))
  pend : Row wr 62 3 lo hi vP ps.length (sts ps)
  box : wr.heap[w.heap.size]? = some (.cells #[vW, vP] 31 (0, 0))
  res : wr.heap[w.heap.size + 1]? = some (.cells #[.slice none 0 0, .slice none 0 0] 31 (0, 0))
  below : Below w.heap.size w wr
  size : hi ≤ wr.heap.size

theorem FenInv.hit {w wr : World} {ws : List Int} {ps : List St} {lo hi : Nat} {b n cap : Nat} {vP vL : Value} {m : Nat} (h : FenInv w wr ws ps lo hi (.slice (some ⟨b, 0, none⟩) n cap) vP vL m) (hm : m < ps.length) (hf : ps[m].fl = true) (hlo : w.heap.size + 2 ≤ lo) (o : Obj) (hn : n = ws.length) :
    FenInv w ((wr.setCell ⟨b, ps[m].at_.toNat, none⟩ (.int .i64 ps[m].val)).alloc o) ws ps lo hi (.slice (some ⟨b, 0, none⟩) n cap) vP vL (m + 1) := by
  subst hn
  obtain ⟨h1, h2, h3, h4, h5, h6, h7⟩ := h
  obtain ⟨_, hb1, hb2, _⟩ := h1.at
  have e1 : fenW ws (ps.take (m + 1)) = (fenW ws (ps.take m)).set ps[m].at_.toNat ps[m].val := by rw [take_snoc ps m hm, fenW_snoc, if_pos hf]
  have e2 : fenP (ps.take (m + 1)) = fenP (ps.take m) := by rw [take_snoc ps m hm, fenP_snoc, if_pos hf]
  refine ⟨?_, ?_, ?_, ?_, ?_, ?_, ?_⟩
  · rw [e1, ← ints_set]
    exact (h1.stored _ _).alloc (by simp; omega) o
  · rw [e2]
    exact ((own_block h2).same (w' := wr.setCell ⟨b, ps[m].at_.toNat, none⟩ (.int .i64 ps[m].val)) (fun k hk _ => Below.heap_setCell _ _ _ _ (by simp only; omega))).1.alloc o
  · exact (h3.apart h1 (by decide) (World.ownsRow.stored h1.1 _ _).2).alloc (by simp; omega) o
  · refine at_old ?_
    rw [Below.heap_setCell _ _ _ _ (by simp only; omega)]; exact h4
  · refine at_old ?_
    rw [Below.heap_setCell _ _ _ _ (by simp only; omega)]; exact h5
  · exact (h6.setCell (by simp only; omega) _).alloc (by simp; exact h6.size) o
  · simp; omega

theorem FenInv.miss {w wr w' : World} {ws : List Int} {ps : List St} {lo hi : Nat} {vW vP vL vL' : Value} {m : Nat} (h : FenInv w wr ws ps lo hi vW vP vL m) (hm : m < ps.length) (hf : ps[m].fl = false) (hlo : w.heap.size + 2 ≤ lo) (hhi : lo ≤ hi) (o o' : Obj)
    (ho : w'.ownsRow hi 62 3 vL' ((fenP (ps.take m)).length + 1) (sts (fenP (ps.take m)) ++ St.cells ps[m])) (hg : ((wr.alloc o).alloc o').grownBy w' vL.ownBlock) : FenInv w w' ws ps lo hi vW vP vL' (m + 1) := by
  obtain ⟨h1, h2, h3, h4, h5, h6, h7⟩ := h
  have hl := fun k hk => (((h2.alloc o).alloc o').lt k hk).1
  have e1 : fenW ws (ps.take (m + 1)) = fenW ws (ps.take m) := by rw [take_snoc ps m hm, fenW_snoc, hf]; rfl
  have e2 : fenP (ps.take (m + 1)) = fenP (ps.take m) ++ [ps[m]] := by rw [take_snoc ps m hm, fenP_snoc, hf]; rfl
  have keep : ∀ k, k < hi → w'.heap[k]? = ((wr.alloc o).alloc o').heap[k]? := fun k hk => hg.block k (by simp; omega) (fun e => by have := hl k e.symm; omega)
  have l4 := (Array.getElem?_eq_some_iff.1 h4).1
  refine ⟨?_, ?_, ?_, ?_, ?_, ?_, ?_⟩
  · rw [e1]
    exact ((h1.alloc h7 o).alloc (by simp; omega) o').same (fun k _ hk => keep k hk)
  · rw [e2, List.length_append, sts_snoc]; exact ho
  · exact ((h3.alloc h7 o).alloc (by simp; omega) o').same (fun k _ hk => keep k hk)
  · rw [keep _ (by omega)]; exact at_old (at_old h4)
  · rw [keep _ (by omega)]; exact at_old (at_old h5)
  · exact ((h6.alloc h6.size o).alloc (by simp; have := h6.size; omega) o').grown hg (by simp; have := h6.size; omega) (fun k hk => by have := hl k hk; omega)
  · have := hg.size; simp at this; omega

end Go.Proofs.Ytpgdpachomdfhaa
