/- Several texts laid together: Small, PmSeen. -/
import Derived.Test.YtbjcoeimcdodjaaPmOKI
namespace Go.Proofs.Ytbjcoeimcdodjaa
open Go.RowKit
theorem sts_one (ps : List St) : ∀ u ∈ sts ps, u.oneCell' = true := by
  intro u hu
  simp only [sts, List.mem_flatMap, St.cells] at hu
  obtain ⟨s, _, hs⟩ := hu
  simp at hs
  rcases hs with rfl | rfl | rfl <;> rfl
theorem RowPm.setCell {w : World} {lo hi : Nat} {v : Value} {ws : List Int} {ps : List St} (h : RowPm w lo hi v ws ps) {a : Addr} (ha : a.block < lo) (u : Value) : RowPm (w.setCell a u) lo hi v ws ps := by
  obtain ⟨vW, vP, rfl, h1, h2⟩ := h
  exact ⟨vW, vP, rfl, h1.same (fun b hb _ => Below.heap_setCell _ _ _ _ (by omega)), h2.same (fun b hb _ => Below.heap_setCell _ _ _ _ (by omega))⟩
theorem RowPm.alloc {w : World} {lo hi : Nat} {v : Value} {ws : List Int} {ps : List St} (h : RowPm w lo hi v ws ps) (hi1 : hi ≤ w.heap.size) (o : Obj) : RowPm (w.alloc o) lo hi v ws ps :=
  h.below ((Below.refl _ _).alloc (Nat.le_refl _) o) hi1
theorem RowPm.zero (w : World) (lo hi : Nat) : RowPm w lo hi (.agg #[.slice none 0 0, .slice none 0 0]) [] [] := ⟨_, _, rfl, Row.nil _ _ _ _ _, Row.nil _ _ _ _ _⟩
theorem RdS.form {w : World} {v : Value} {ps : List St} (h : RdS w v ps) {n : Nat} (hn : ps.length = n) : ∃ ao cap, v = .slice ao n cap := by
  obtain ⟨ao, cap, e, _⟩ := h.shape
  exact ⟨ao, cap, by rw [← hn]; exact e⟩
theorem pmB_at {ws : List Int} {ps : List St} (h : pmB ws ps = true) : ∀ j (hj : j < ps.length), 0 ≤ ps[j].at_ ∧ ps[j].at_ < 336 := fun j hj => placeB_true (pmB_store h j hj).1
theorem pmB_in {ws : List Int} {ps : List St} (h : pmB ws ps = true) : ∀ j (hj : j < ps.length), 0 ≤ ps[j].at_ ∧ ps[j].at_ < ws.length := fun j hj => by
  have h1 := pmB_at h j hj
  have h2 := (pmB_len h).1
  omega
end Go.Proofs.Ytbjcoeimcdodjaa

namespace Go.Proofs.Ytbjcoeimcdodjaa
open Go.RowKit
def seenC (ws : List Int) (ps : List St) : Int := if pmB ws ps = true then 0 else 1
end Go.Proofs.Ytbjcoeimcdodjaa
