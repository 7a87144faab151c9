/- The journal's plan of updates: by the model. -/
import Derived.Test.YtgnfbiohjdepcaaGreatDoorJrR
namespace Go.Proofs.YtgnfbiohjdepcaaGreatDoor
open Go.RowKit
theorem planL_none (us : List Se) (h : us.length = 0) : planL (upsL us) = [] := by rw [planL, upsL_len, if_pos h]
theorem planL_len (us : List Se) : (planL (upsL us)).length ≤ 6 * us.length + 8 := by
  have h1 := flushL_len ((jrn 0 (upsL us)).map (·.at_))
  have h2 := flushL_len ((cnt (us.length : Int)).map (·.at_))
  have h3 := applyL_len us
  simp only [List.length_map, upsL_len, jrn_len] at h1
  simp only [cnt, List.length_map, List.length_cons, List.length_nil] at h2
  rw [planL]
  split
  · simp
  · simp only [seg, cnt, List.length_append, List.length_map, upsL_len, jrn_len, List.length_cons, List.length_nil] at *
    omega
set_option maxRecDepth 100000 in
set_option maxHeartbeats 4000000 in
theorem l04Plan_any (v : Value) (us : List Se) (w : World) (h : RdE w v us) (hn : us.length ≤ 64) (hz0 : ∀ k (h : k < us.length), 0 ≤ us[k].at_ ∧ us[k].at_ < 336) :
    Calls Tryz.prog 71 #[v] w fun e w' => ∃ v', e = .returned v' ∧ Row w' 91 3 w.heap.size w'.heap.size v' (planL (upsL us)).length (mis (planL (upsL us))) ∧ Below w.heap.size w w' := by
  by_cases h0 : 0 < us.length
  · exact l04Plan_some v us w h hn h0 hz0
  · have RE := hideIt (And.intro (row_empty w 91 3) ((Below.refl w.heap.size w).alloc (Nat.le_refl _) (.cells #[] 91)))
    obtain ⟨aZ, cZ, rfl, _, hcZ⟩ := h.shape
    rw [planL_none us (by omega)]
    have e0 : us.length = 0 := by omega
    clear h hcZ hz0
    rw [e0] at *
    clear e0
    go_enter Tryz.func71, Tryz.ntmps71
    go_wp2
    go_ret
    exact ⟨_, rfl, RE.out.1, RE.out.2⟩
def jpC (us : List Se) : Int := if 4096 < us.length then 2 else if 16 < us.length then 6 else if upsB us = true then 0 else 1
def jpL (us : List Se) : List Mi := if jpC us = 0 then planL (upsL us) else []
theorem jp_cases (us : List Se) : (4096 < us.length ∧ jpC us = 2 ∧ jpL us = []) ∨ (¬ 4096 < us.length ∧ 16 < us.length ∧ jpC us = 6 ∧ jpL us = []) ∨ (¬ 4096 < us.length ∧ ¬ 16 < us.length ∧ upsB us = false ∧ jpC us = 1 ∧ jpL us = []) ∨ (¬ 4096 < us.length ∧ ¬ 16 < us.length ∧ upsB us = true ∧ jpC us = 0 ∧ jpL us = planL (upsL us)) := by
  by_cases c1 : 4096 < us.length
  · have e : jpC us = 2 := by unfold jpC; rw [if_pos c1]
    exact .inl ⟨c1, e, by unfold jpL; rw [e]; rfl⟩
  · by_cases c2 : 16 < us.length
    · have e : jpC us = 6 := by unfold jpC; rw [if_neg c1, if_pos c2]
      exact .inr (.inl ⟨c1, c2, e, by unfold jpL; rw [e]; rfl⟩)
    · by_cases c3 : upsB us = true
      · have e : jpC us = 0 := by unfold jpC; rw [if_neg c1, if_neg c2, if_pos c3]
        exact .inr (.inr (.inr ⟨c1, c2, c3, e, by unfold jpL; rw [e]; rfl⟩))
      · have c3' : upsB us = false := by simpa using c3
        have e : jpC us = 1 := by unfold jpC; rw [if_neg c1, if_neg c2, c3']; rfl
        exact .inr (.inr (.inl ⟨c1, c2, c3', e, by unfold jpL; rw [e]; rfl⟩))
theorem jpL_len (us : List Se) : (jpL us).length ≤ 16777216 := by
  rcases jp_cases us with ⟨_, _, e⟩ | ⟨_, _, _, e⟩ | ⟨_, _, _, _, e⟩ | ⟨_, _, _, _, e⟩
  · rw [e]; simp
  · rw [e]; simp
  · rw [e]; simp
  · rw [e]; have := planL_len us; omega
end Go.Proofs.YtgnfbiohjdepcaaGreatDoor
