/- Small facts on rows and on lists of numbers and writes. -/
import Derived.Test.YtenadnlgjobmdabDoorBlkRead
namespace Go.Proofs.YtenadnlgjobmdabDoor
open Go.RowKit

theorem ses_one (ps : List Se) : ∀ u ∈ ses ps, u.oneCell' = true := by
  intro u hu
  simp only [ses, List.mem_flatMap, Se.cells] at hu
  obtain ⟨s, _, hs⟩ := hu
  simp at hs
  rcases hs with rfl | rfl <;> rfl
theorem RowBlk.setCell {w : World} {lo hi : Nat} {v : Value} {ws : List Int} {ps : List Se} (h : RowBlk w lo hi v ws ps) {a : Addr} (ha : a.block < lo) (u : Value) : RowBlk (w.setCell a u) lo hi v ws ps := by
  obtain ⟨vW, vP, rfl, h1, h2⟩ := h
  exact ⟨vW, vP, rfl, h1.same (fun b hb _ => Below.heap_setCell _ _ _ _ (by omega)), h2.same (fun b hb _ => Below.heap_setCell _ _ _ _ (by omega))⟩
theorem RowBlk.alloc {w : World} {lo hi : Nat} {v : Value} {ws : List Int} {ps : List Se} (h : RowBlk w lo hi v ws ps) (hi1 : hi ≤ w.heap.size) (o : Obj) : RowBlk (w.alloc o) lo hi v ws ps :=
  h.below ((Below.refl _ _).alloc (Nat.le_refl _) o) hi1
theorem RowBlk.zero (w : World) (lo hi : Nat) : RowBlk w lo hi (.agg #[.slice none 0 0, .slice none 0 0]) [] [] := ⟨_, _, rfl, RowZ.nil _ _ _, Row.nil _ _ _ _ _⟩
theorem ses_snoc (ps : List Se) (s : Se) : ses (ps ++ [s]) = ses ps ++ s.cells := by simp [ses]
/-- The shape of a slice, its length as it is wanted. -/
theorem RdE.form {w : World} {v : Value} {ps : List Se} (h : RdE w v ps) {n : Nat} (hn : ps.length = n) : ∃ ao cap, v = .slice ao n cap := by
  obtain ⟨ao, cap, e, _⟩ := h.shape
  exact ⟨ao, cap, by rw [← hn]; exact e⟩
theorem blkB_at {ws : List Int} {ps : List Se} (h : blkB ws ps = true) : ∀ j (hj : j < ps.length), 0 ≤ ps[j].at_ ∧ ps[j].at_ < 32 := fun j hj => secB_true (blkB_store h j hj).1
theorem blkB_in {ws : List Int} {ps : List Se} (h : blkB ws ps = true) : ∀ j (hj : j < ps.length), 0 ≤ ps[j].at_ ∧ ps[j].at_ < ws.length := fun j hj => by
  have h1 := blkB_at h j hj
  have h2 := (blkB_len h).1
  omega
/-- One write, laid in a block of its own, as a slice of one. -/
theorem rd_sec (w1 : World) (a x : Int) : Rd (w1.alloc (.cells #[.int .i64 a, .int .i64 x] 108)) 2 (.slice (some ⟨w1.heap.size, 0, none⟩) 1 1) 1 (Se.cells ⟨a, x⟩) := by
  refine ⟨rfl, _, _, rfl, ⟨Nat.le_refl _, fun e => by cases e⟩, fun _ => ⟨w1.heap.size, 0, rfl, by simp, fun j hj => ?_⟩⟩
  obtain ⟨e0, e1, _, _⟩ := two_cells (at_new (w := w1) (o := .cells #[.int .i64 a, .int .i64 x] 108) rfl)
  rw [Nat.zero_add]
  rcases (show j = 0 ∨ j = 1 from by omega) with rfl | rfl
  · exact e0
  · exact e1
theorem secs_one (p : Se) : ∀ u ∈ Se.cells p, u.oneCell' = true := by
  intro u hu
  simp [Se.cells] at hu
  rcases hu with rfl | rfl <;> rfl
end Go.Proofs.YtenadnlgjobmdabDoor
