/- What is seen behind a flush and a fence: the plain mathematics. -/
import Derived.Test.YtenadnlgjobmdabDoorAt
namespace Go.Proofs.YtenadnlgjobmdabDoor
open Go.RowKit

theorem fenW_set : ∀ (ps : List St) (ws : List Int) (j : Nat) (x : Int), (∀ q ∈ ps, q.fl = true → ¬ q.at_.toNat = j) → (fenW ws ps).set j x = fenW (ws.set j x) ps
  | [], _, _, _, _ => rfl
  | p :: ps, ws, j, x, h => by
    show (fenW (if p.fl then ws.set p.at_.toNat p.val else ws) ps).set j x = fenW (if p.fl then (ws.set j x).set p.at_.toNat p.val else ws.set j x) ps
    rw [fenW_set ps _ j x (fun q hq => h q (by simp [hq]))]
    by_cases c : p.fl = true
    · rw [if_pos c, if_pos c, List.set_comm _ _ (h p (by simp) c)]
    · rw [if_neg c, if_neg c]
theorem layW_fence : ∀ (ps : List St) (ws : List Int) (_ : ∀ p ∈ ps, 0 ≤ p.at_) (_ : ps.Pairwise (fun p q => p.at_ = q.at_ → q.fl = true → p.fl = true)), layW (fenW ws ps) (fenP ps) = layW ws ps
  | [], _, _, _ => rfl
  | p :: ps, ws, h0, ho => by
    obtain ⟨h1, h2⟩ := List.pairwise_cons.1 ho
    have ih := fun ws => layW_fence ps ws (fun q hq => h0 q (by simp [hq])) h2
    by_cases c : p.fl = true
    · show layW (fenW (if p.fl then ws.set p.at_.toNat p.val else ws) ps) (fenP (p :: ps)) = layW (ws.set p.at_.toNat p.val) ps
      rw [if_pos c, show fenP (p :: ps) = fenP ps by simp [fenP, c], ih]
    · show layW (fenW (if p.fl then ws.set p.at_.toNat p.val else ws) ps) (fenP (p :: ps)) = layW (ws.set p.at_.toNat p.val) ps
      rw [if_neg c, show fenP (p :: ps) = p :: fenP ps by simp [fenP, c]]
      show layW ((fenW ws ps).set p.at_.toNat p.val) (fenP ps) = _
      rw [fenW_set ps ws _ _ (fun q hq hf e => c (h1 q hq (by have := h0 q (by simp [hq]); have := h0 p (by simp); omega) hf)), ih]
theorem layW_flush (k : Int) : ∀ (ps : List St) (ws : List Int), layW ws (ps.map (fl1 k)) = layW ws ps
  | [], _ => rfl
  | p :: ps, ws => by
    have e : (fl1 k p).at_ = p.at_ ∧ (fl1 k p).val = p.val := by unfold fl1; split <;> exact ⟨rfl, rfl⟩
    show layW (ws.set (fl1 k p).at_.toNat (fl1 k p).val) (ps.map (fl1 k)) = layW (ws.set p.at_.toNat p.val) ps
    rw [e.1, e.2, layW_flush k ps]
theorem seen_same {ws : List Int} {ps : List St} {n : Nat} (h : PmP ws ps n) (k : Int) : layW (fenW ws (ps.map (fl1 k))) (fenP (ps.map (fl1 k))) = layW ws ps := by
  have h' := h.flush k
  rw [layW_fence _ _ (fun p hp => (h'.store p hp).1.1) h'.ord, layW_flush]
theorem below_allocS {a w : World} (h : Below a.heap.size a w) (o : Obj) : Below a.heap.size a (w.alloc o) := h.alloc h.size o

/-- Behind the region that draws a place and flushes there. -/
structure CutF (w3 wx : World) (ws : List Int) (ps : List St) (k : Int) (aW aP : Option Addr) (cW cP bx : Nat) : Prop where
  k0 : 0 ≤ k
  k1 : k < 336
  lo : w3.heap.size ≤ bx
  hi : bx < wx.heap.size
  box : wx.heap[bx]? = some (.cells #[.slice aW 336 cW, .slice aP ps.length cP] 31 (0, 0))
  rd : RdPm wx (.agg #[.slice aW 336 cW, .slice aP ps.length cP]) ws (ps.map (fl1 k))
  below : Below w3.heap.size w3 wx
theorem CutF.drew {w3 wx : World} {ws : List Int} {ps : List St} {k : Int} {aW aP : Option Addr} {cW cP bx : Nat} (h : CutF w3 wx ws ps k aW aP cW cP bx) : CutF w3 wx.drew ws ps k aW aP cW cP bx :=
  ⟨h.k0, h.k1, h.lo, h.hi, h.box, h.rd.below ((Below.refl _ _).drew), h.below.drew⟩
theorem CutF.new {w3 wf : World} {ws : List Int} {ps : List St} {k : Int} {aW aP : Option Addr} {cW cP : Nat} (k0 : 0 ≤ k) (k1 : k < 336) (hr : RdPm wf (.agg #[.slice aW 336 cW, .slice aP ps.length cP]) ws (ps.map (fl1 k))) (hb : Below w3.heap.size w3 wf) : CutF w3 (wf.alloc (.cells #[.slice aW 336 cW, .slice aP ps.length cP] 31)) ws ps k aW aP cW cP wf.heap.size :=
  ⟨k0, k1, hb.size, by simp, at_new rfl, hr.below ((Below.refl _ _).alloc (Nat.le_refl _) _), below_allocS hb _⟩
theorem CutF.old {w3 wf : World} {ws : List Int} {ps : List St} {k : Int} {aW aP : Option Addr} {cW cP bx : Nat} (k0 : 0 ≤ k) (k1 : k < 336) (hl : ws.length = 336) (hr : RdPm wf (.agg #[.slice aW 336 cW, .slice aP ps.length cP]) ws (ps.map (fl1 k))) (hb : Below w3.heap.size w3 wf) (hx : w3.heap.size ≤ bx) (hv : wf.heap[bx]? = some (.cells #[.slice none 0 0, .slice none 0 0] 31 (0, 0))) : CutF w3 ((wf.setCell ⟨bx, 0, none⟩ (.slice aW 336 cW)).setCell ⟨bx, 1, none⟩ (.slice aP ps.length cP)) ws ps k aW aP cW cP bx :=
  ⟨k0, k1, hx, by have := (Array.getElem?_eq_some_iff.1 hv).1; simpa [World.setCell] using this, by simp [World.setCell, Array.getElem?_modify, hv],
    hr.boxed hl hv (by simp [World.setCell]) (fun j _ hne => by rw [Below.heap_setCell _ _ _ _ (by simp only; omega), Below.heap_setCell _ _ _ _ (by simp only; omega)]),
    (hb.setCell (by simp only; omega) _).setCell (by simp only; omega) _⟩
end Go.Proofs.YtenadnlgjobmdabDoor
