/- Several texts laid together: Small, PmSeen. -/
import Derived.Test.YtbjcoeimcdodjaaPmLoad
namespace Go.Proofs.Ytbjcoeimcdodjaa
open Go.RowKit
theorem sts_one (ps : List St) : ∀ u ∈ sts ps, u.oneCell' = true := by
  intro u hu
  simp only [sts, List.mem_flatMap, St.cells] at hu
  obtain ⟨s, _, hs⟩ := hu
  simp at hs
  rcases hs with rfl | rfl | rfl <;> rfl
theorem RowPm.setCell {w : World} {lo hi : Nat} {v : Value} {ws : List Int} {ps : List St} (h : RowPm w lo hi v ws ps) {a : Addr} (ha : a.block < lo) (u : Value) : RowPm (w.setCell a u) lo hi v ws ps := by
  obtain ⟨vW, vP, rfl, h1, h2⟩ := h
  exact ⟨vW, vP, rfl, h1.same (fun b hb _ => Below.heap_setCell _ _ _ _ (by omega)), h2.same (fun b hb _ => Below.heap_setCell _ _ _ _ (by omega))⟩
theorem RowPm.alloc {w : World} {lo hi : Nat} {v : Value} {ws : List Int} {ps : List St} (h : RowPm w lo hi v ws ps) (hi1 : hi ≤ w.heap.size) (o : Obj) : RowPm (w.alloc o) lo hi v ws ps :=
  h.below ((Below.refl _ _).alloc (Nat.le_refl _) o) hi1
theorem RowPm.zero (w : World) (lo hi : Nat) : RowPm w lo hi (.agg #[.slice none 0 0, .slice none 0 0]) [] [] := ⟨_, _, rfl, Row.nil _ _ _ _ _, Row.nil _ _ _ _ _⟩
theorem sts_snoc (ps : List St) (s : St) : sts (ps ++ [s]) = sts ps ++ s.cells := by simp [sts]
theorem RdS.form {w : World} {v : Value} {ps : List St} (h : RdS w v ps) {n : Nat} (hn : ps.length = n) : ∃ ao cap, v = .slice ao n cap := by
  obtain ⟨ao, cap, e, _⟩ := h.shape
  exact ⟨ao, cap, by rw [← hn]; exact e⟩
theorem pmB_at {ws : List Int} {ps : List St} (h : pmB ws ps = true) : ∀ j (hj : j < ps.length), 0 ≤ ps[j].at_ ∧ ps[j].at_ < 336 := fun j hj => placeB_true (pmB_store h j hj).1
theorem pmB_in {ws : List Int} {ps : List St} (h : pmB ws ps = true) : ∀ j (hj : j < ps.length), 0 ≤ ps[j].at_ ∧ ps[j].at_ < ws.length := fun j hj => by
  have h1 := pmB_at h j hj
  have h2 := (pmB_len h).1
  omega
theorem rd_one (w1 : World) (a x : Int) (f : Bool) : Rd (w1.alloc (.cells #[.int .i64 a, .int .i64 x, .bool f] 45)) 3 (.slice (some ⟨w1.heap.size, 0, none⟩) 1 1) 1 (St.cells ⟨a, x, f⟩) := by
  refine ⟨rfl, _, _, rfl, ⟨Nat.le_refl _, fun e => by cases e⟩, fun _ => ⟨w1.heap.size, 0, rfl, by simp, fun j hj => ?_⟩⟩
  obtain ⟨e0, e1, e2⟩ := three_cells (at_new (w := w1) (o := .cells #[.int .i64 a, .int .i64 x, .bool f] 45) rfl)
  rw [Nat.zero_add]
  rcases (show j = 0 ∨ j = 1 ∨ j = 2 from by omega) with rfl | rfl | rfl
  · exact e0
  · exact e1
  · exact e2
theorem cells_one (p : St) : ∀ u ∈ St.cells p, u.oneCell' = true := by
  intro u hu
  simp [St.cells] at hu
  rcases hu with rfl | rfl | rfl <;> rfl
end Go.Proofs.Ytbjcoeimcdodjaa

namespace Go.Proofs.Ytbjcoeimcdodjaa
open Go.RowKit
def seenC (ws : List Int) (ps : List St) : Int := if pmB ws ps = true then 0 else 1
end Go.Proofs.Ytbjcoeimcdodjaa
