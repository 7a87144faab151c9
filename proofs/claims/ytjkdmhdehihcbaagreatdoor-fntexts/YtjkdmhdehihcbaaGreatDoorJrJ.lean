/- The journal's plan of updates: by the model. -/
import Derived.Test.YtjkdmhdehihcbaaGreatDoorZBM
namespace Go.Proofs.YtjkdmhdehihcbaaGreatDoor
open Go.RowKit
theorem planL_len (us : List Se) : (planL (upsL us)).length ≤ 6 * us.length + 8 := by
  have h1 := flushL_len ((jrn 0 (upsL us)).map (·.at_))
  have h2 := flushL_len ((cnt (us.length : Int)).map (·.at_))
  have h3 := applyL_len us
  simp only [List.length_map, upsL_len, jrn_len] at h1
  simp only [cnt, List.length_map, List.length_cons, List.length_nil] at h2
  rw [planL]
  split
  · simp
  · simp only [seg, cnt, List.length_append, List.length_map, upsL_len, jrn_len, List.length_cons, List.length_nil] at *
    omega
def jpC (us : List Se) : Int := if 4096 < us.length then 2 else if 16 < us.length then 6 else if upsB us = true then 0 else 1
def jpL (us : List Se) : List Mi := if jpC us = 0 then planL (upsL us) else []
theorem jp_cases (us : List Se) : (4096 < us.length ∧ jpC us = 2 ∧ jpL us = []) ∨ (¬ 4096 < us.length ∧ 16 < us.length ∧ jpC us = 6 ∧ jpL us = []) ∨ (¬ 4096 < us.length ∧ ¬ 16 < us.length ∧ upsB us = false ∧ jpC us = 1 ∧ jpL us = []) ∨ (¬ 4096 < us.length ∧ ¬ 16 < us.length ∧ upsB us = true ∧ jpC us = 0 ∧ jpL us = planL (upsL us)) := by
  by_cases c1 : 4096 < us.length
  · have e : jpC us = 2 := by unfold jpC; rw [if_pos c1]
    exact .inl ⟨c1, e, by unfold jpL; rw [e]; rfl⟩
  · by_cases c2 : 16 < us.length
    · have e : jpC us = 6 := by unfold jpC; rw [if_neg c1, if_pos c2]
      exact .inr (.inl ⟨c1, c2, e, by unfold jpL; rw [e]; rfl⟩)
    · by_cases c3 : upsB us = true
      · have e : jpC us = 0 := by unfold jpC; rw [if_neg c1, if_neg c2, if_pos c3]
        exact .inr (.inr (.inr ⟨c1, c2, c3, e, by unfold jpL; rw [e]; rfl⟩))
      · have c3' : upsB us = false := by simpa using c3
        have e : jpC us = 1 := by unfold jpC; rw [if_neg c1, if_neg c2, c3']; rfl
        exact .inr (.inr (.inl ⟨c1, c2, c3', e, by unfold jpL; rw [e]; rfl⟩))
end Go.Proofs.YtjkdmhdehihcbaaGreatDoor
