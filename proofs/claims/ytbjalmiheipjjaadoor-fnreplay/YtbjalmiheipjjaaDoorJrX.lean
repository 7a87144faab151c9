/- The replay's plan: by the model. -/
import Derived.Test.YtbjalmiheipjjaaDoorZBN
namespace Go.Proofs.YtbjalmiheipjjaaDoor
open Go.RowKit
theorem lastW_pos (a : Int) : ∀ (ps : List St) (d : Int), 0 ≤ d → (∀ p ∈ ps, 0 ≤ p.val) → 0 ≤ lastW a d ps
  | [], d, h, _ => h
  | p :: ps, d, h, hp => by
    show 0 ≤ lastW a (if p.at_ = a then p.val else d) ps
    refine lastW_pos a ps _ ?_ (fun q hq => hp q (List.mem_cons_of_mem _ hq))
    split
    · exact hp p List.mem_cons_self
    · exact h
theorem ldW_pos {ws : List Int} {ps : List St} (h : pmB ws ps = true) (k : Nat) : 0 ≤ ldW ws ps k := by
  refine lastW_pos _ _ _ ?_ (fun p hp => ?_)
  · by_cases hk : k < ws.length
    · simpa [hk] using (wordB_true (pmB_word h k hk)).1
    · simp [hk]
  · obtain ⟨i, hi, rfl⟩ := List.getElem_of_mem hp
    exact (wordB_true (pmB_store h i hi).2).1
def rpU (ws : List Int) (ps : List St) : List Se := rdL ws ps (ldW ws ps 8).toNat
def rpC (ws : List Int) (ps : List St) : Int := if pmB ws ps = false then 1 else if 16 < ldW ws ps 8 then 3 else if ldW ws ps 8 = 0 then 0 else if upsB (rpU ws ps) = true then 0 else 3
def rpL (ws : List Int) (ps : List St) : List Mi := if rpC ws ps = 0 then (if ldW ws ps 8 = 0 then [] else applyL (upsL (rpU ws ps))) else []
theorem rp_cases (ws : List Int) (ps : List St) : (pmB ws ps = false ∧ rpC ws ps = 1 ∧ rpL ws ps = []) ∨ (pmB ws ps = true ∧ ∃ N : Nat, ldW ws ps 8 = (N : Int) ∧
    ((16 < N ∧ rpC ws ps = 3 ∧ rpL ws ps = []) ∨ (N = 0 ∧ rpC ws ps = 0 ∧ rpL ws ps = []) ∨ (0 < N ∧ N ≤ 16 ∧ upsB (rdL ws ps N) = false ∧ rpC ws ps = 3 ∧ rpL ws ps = []) ∨ (0 < N ∧ N ≤ 16 ∧ upsB (rdL ws ps N) = true ∧ rpC ws ps = 0 ∧ rpL ws ps = applyL (upsL (rdL ws ps N))))) := by
  by_cases c1 : pmB ws ps = true
  · have hp := ldW_pos c1 8
    refine .inr ⟨c1, (ldW ws ps 8).toNat, by omega, ?_⟩
    by_cases c2 : 16 < ldW ws ps 8
    · have e : rpC ws ps = 3 := by unfold rpC; rw [if_neg (by rw [c1]; simp), if_pos c2]
      exact .inl ⟨by omega, e, by unfold rpL; rw [e]; rfl⟩
    · by_cases c3 : ldW ws ps 8 = 0
      · have e : rpC ws ps = 0 := by unfold rpC; rw [if_neg (by rw [c1]; simp), if_neg c2, if_pos c3]
        exact .inr (.inl ⟨by omega, e, by unfold rpL; rw [e, if_pos rfl, if_pos c3]⟩)
      · by_cases c4 : upsB (rpU ws ps) = true
        · have e : rpC ws ps = 0 := by unfold rpC; rw [if_neg (by rw [c1]; simp), if_neg c2, if_neg c3, if_pos c4]
          exact .inr (.inr (.inr ⟨by omega, by omega, c4, e, by unfold rpL; rw [e, if_pos rfl, if_neg c3]; rfl⟩))
        · have c4' : upsB (rpU ws ps) = false := by simpa using c4
          have e : rpC ws ps = 3 := by unfold rpC; rw [if_neg (by rw [c1]; simp), if_neg c2, if_neg c3, c4']; rfl
          exact .inr (.inr (.inl ⟨by omega, by omega, c4', e, by unfold rpL; rw [e]; rfl⟩))
  · have c : pmB ws ps = false := by simpa using c1
    have e : rpC ws ps = 1 := by unfold rpC; rw [if_pos c]
    exact .inl ⟨c, e, by unfold rpL; rw [e]; rfl⟩
end Go.Proofs.YtbjalmiheipjjaaDoor
