/- All writes made sure: by the model. -/
import Derived.Test.YtenadnlgjobmdabDoorBlkOwn
namespace Go.Proofs.YtenadnlgjobmdabDoor
open Go.RowKit

/-- The sectors with the writes laid one after the other. -/
def layE (ws : List Int) (ps : List Se) : List Int := ps.foldl (fun acc p => acc.set p.at_.toNat p.val) ws
theorem layE_snoc (ws : List Int) (ps : List Se) (p : Se) : layE ws (ps ++ [p]) = (layE ws ps).set p.at_.toNat p.val := by simp [layE]
theorem layE_len (ws : List Int) : ∀ ps : List Se, (layE ws ps).length = ws.length := by
  intro ps
  unfold layE
  induction ps generalizing ws with
  | nil => rfl
  | cons p ps ih => rw [List.foldl_cons, ih]; simp
def barC (ws : List Int) (ps : List Se) : Int := if blkB ws ps = true then 0 else 1
def barWs (ws : List Int) (ps : List Se) : List Int := if blkB ws ps = true then layE ws ps else []
theorem barWs_len (ws : List Int) (ps : List Se) : (barWs ws ps).length ≤ ws.length := by
  unfold barWs
  split
  · rw [layE_len]; exact Nat.le_refl _
  · simp
theorem bar_not {ws : List Int} {ps : List Se} (h : blkB ws ps = false) : barC ws ps = 1 ∧ barWs ws ps = [] := by
  unfold barC barWs
  rw [h]
  exact ⟨rfl, rfl⟩
theorem bar_ok {ws : List Int} {ps : List Se} (h : blkB ws ps = true) : barC ws ps = 0 ∧ barWs ws ps = layE ws ps := by
  unfold barC barWs
  rw [h]
  exact ⟨rfl, rfl⟩

/-- In the midst of a barrier: the sectors so far, and the writes. -/
structure BarInv (w wr : World) (eZ : TypeId) (ws : List Int) (ps : List Se) (lo hi : Nat) (vW vP : Value) (m : Nat) : Prop where
  words : Row wr eZ 1 lo hi vW ws.length (ints (layE ws (ps.take m)))
  pend : Row wr 108 2 lo hi vP ps.length (ses ps)
  box : wr.heap[w.heap.size]? = some (.cells #[vW, vP] 34 (0, 0))
  res : wr.heap[w.heap.size + 1]? = some (.cells #[.slice none 0 0, .slice none 0 0] 34 (0, 0))
  below : Below w.heap.size w wr
  size : hi ≤ wr.heap.size
theorem BarInv.hit {w wr : World} {eZ : TypeId} {ws : List Int} {ps : List Se} {lo hi : Nat} {b n cap : Nat} {vP : Value} {m : Nat} (h : BarInv w wr eZ ws ps lo hi (.slice (some ⟨b, 0, none⟩) n cap) vP m) (he : eZ ≠ 108) (hm : m < ps.length) (hlo : w.heap.size + 2 ≤ lo) (hn : n = ws.length) :
    BarInv w (wr.setCell ⟨b, ps[m].at_.toNat, none⟩ (.int .i64 ps[m].val)) eZ ws ps lo hi (.slice (some ⟨b, 0, none⟩) n cap) vP (m + 1) := by
  subst hn
  obtain ⟨h1, h3, h4, h5, h6, h7⟩ := h
  obtain ⟨_, hb1, hb2, _⟩ := h1.at
  have e1 : layE ws (ps.take (m + 1)) = (layE ws (ps.take m)).set ps[m].at_.toNat ps[m].val := by rw [take_snoc ps m hm, layE_snoc]
  refine ⟨?_, ?_, ?_, ?_, ?_, ?_⟩
  · rw [e1, ← ints_set]
    exact h1.stored _ _
  · exact h3.apart h1 (Ne.symm he) (World.ownsRow.stored h1.1 _ _).2
  · rw [Below.heap_setCell _ _ _ _ (by simp only; omega)]; exact h4
  · rw [Below.heap_setCell _ _ _ _ (by simp only; omega)]; exact h5
  · exact h6.setCell (by simp only; omega) _
  · simpa using h7

theorem BarInv.drew {w wr : World} {eZ : TypeId} {ws : List Int} {ps : List Se} {lo hi : Nat} {vW vP : Value} {m : Nat} (h : BarInv w wr eZ ws ps lo hi vW vP m) : BarInv w wr.drew eZ ws ps lo hi vW vP m := by
  obtain ⟨h1, h2, h4, h5, h6, h7⟩ := h
  exact ⟨h1.same (fun _ _ _ => rfl), h2.same (fun _ _ _ => rfl), h4, h5, h6.drew, h7⟩

end Go.Proofs.YtenadnlgjobmdabDoor
