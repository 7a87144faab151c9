/- What a crash leaves: by the program, and by the model. -/
import Derived.Test.YtenadnlgjobmdabDoorCrashS
namespace Go.Proofs.YtenadnlgjobmdabDoor
open Go.RowKit

def crashC (ws : List Int) (ps : List St) (zs : List Int) : Int := if 4096 < zs.length then 2 else if pmB ws ps = true then if keepsB zs = true then 0 else 4 else 1
def crashWs (ws : List Int) (ps : List St) (zs : List Int) : List Int := if crashC ws ps zs = 0 then spW (unsN ps 336) zs ps ws (unsN ps 336).length else []
theorem crashWs_len (ws : List Int) (ps : List St) (zs : List Int) : (crashWs ws ps zs).length ≤ ws.length := by
  unfold crashWs
  split
  · rw [spW_len]; exact Nat.le_refl _
  · simp
theorem crash_cases (ws : List Int) (ps : List St) (zs : List Int) :
    (4096 < zs.length ∧ crashC ws ps zs = 2 ∧ crashWs ws ps zs = []) ∨
    (¬ 4096 < zs.length ∧ pmB ws ps = false ∧ crashC ws ps zs = 1 ∧ crashWs ws ps zs = []) ∨
    (¬ 4096 < zs.length ∧ pmB ws ps = true ∧ keepsB zs = false ∧ crashC ws ps zs = 4 ∧ crashWs ws ps zs = []) ∨
    (¬ 4096 < zs.length ∧ pmB ws ps = true ∧ keepsB zs = true ∧ crashC ws ps zs = 0 ∧ crashWs ws ps zs = spW (unsN ps 336) zs ps ws (unsN ps 336).length) := by
  by_cases c1 : 4096 < zs.length
  · have e : crashC ws ps zs = 2 := by unfold crashC; rw [if_pos c1]
    exact .inl ⟨c1, e, by unfold crashWs; rw [e]; rfl⟩
  · by_cases c2 : pmB ws ps = true
    · by_cases c3 : keepsB zs = true
      · have e : crashC ws ps zs = 0 := by unfold crashC; rw [if_neg c1, if_pos c2, if_pos c3]
        exact .inr (.inr (.inr ⟨c1, c2, c3, e, by unfold crashWs; rw [if_pos e]⟩))
      · have e : crashC ws ps zs = 4 := by unfold crashC; rw [if_neg c1, if_pos c2, if_neg c3]
        exact .inr (.inr (.inl ⟨c1, c2, by simpa using c3, e, by unfold crashWs; rw [e]; rfl⟩))
    · have e : crashC ws ps zs = 1 := by unfold crashC; rw [if_neg c1, if_neg c2]
      exact .inr (.inl ⟨c1, by simpa using c2, e, by unfold crashWs; rw [e]; rfl⟩)

end Go.Proofs.YtenadnlgjobmdabDoor
