/- A store more: by the program, and by the model. -/
import Derived.Test.YtbjalmiheipjjaaDoorPmCopy
namespace Go.Proofs.YtbjalmiheipjjaaDoor
open Go.RowKit
def storeC (ws : List Int) (ps : List St) (at_ v : Int) : Int := if askC ws ps at_ = 0 then if wordB v = false then 4 else if ps.length = 400 then 7 else 0 else askC ws ps at_
def storeWs (ws : List Int) (ps : List St) (at_ v : Int) : List Int := if storeC ws ps at_ v = 0 ∨ storeC ws ps at_ v = 7 then ws else []
def storePs (ws : List Int) (ps : List St) (at_ v : Int) : List St := if storeC ws ps at_ v = 0 then ps ++ [⟨at_, v, false⟩] else if storeC ws ps at_ v = 7 then ps else []
theorem store_cases (ws : List Int) (ps : List St) (at_ v : Int) :
    ((askC ws ps at_ = 1 ∨ askC ws ps at_ = 14) ∧ storeC ws ps at_ v = askC ws ps at_ ∧ storeWs ws ps at_ v = [] ∧ storePs ws ps at_ v = []) ∨
    (askC ws ps at_ = 0 ∧ wordB v = false ∧ storeC ws ps at_ v = 4 ∧ storeWs ws ps at_ v = [] ∧ storePs ws ps at_ v = []) ∨
    (askC ws ps at_ = 0 ∧ wordB v = true ∧ ps.length = 400 ∧ storeC ws ps at_ v = 7 ∧ storeWs ws ps at_ v = ws ∧ storePs ws ps at_ v = ps) ∨
    (askC ws ps at_ = 0 ∧ wordB v = true ∧ ¬ ps.length = 400 ∧ storeC ws ps at_ v = 0 ∧ storeWs ws ps at_ v = ws ∧ storePs ws ps at_ v = ps ++ [⟨at_, v, false⟩]) := by
  rcases askC_cases ws ps at_ with hc | ⟨hc, _⟩
  · left
    have e : storeC ws ps at_ v = askC ws ps at_ := by unfold storeC; rw [if_neg (by omega)]
    refine ⟨hc, e, ?_, ?_⟩
    · unfold storeWs; rw [e, if_neg (by omega)]
    · unfold storePs; rw [e, if_neg (by omega), if_neg (by omega)]
  · right
    by_cases c1 : wordB v = true
    · right
      by_cases c2 : ps.length = 400
      · have e : storeC ws ps at_ v = 7 := by unfold storeC; rw [if_pos hc, if_neg (by rw [c1]; simp), if_pos c2]
        refine .inl ⟨hc, c1, c2, e, ?_, ?_⟩
        · unfold storeWs; rw [e, if_pos (.inr rfl)]
        · unfold storePs; rw [e, if_neg (by decide), if_pos rfl]
      · have e : storeC ws ps at_ v = 0 := by unfold storeC; rw [if_pos hc, if_neg (by rw [c1]; simp), if_neg c2]
        refine .inr ⟨hc, c1, c2, e, ?_, ?_⟩
        · unfold storeWs; rw [e, if_pos (.inl rfl)]
        · unfold storePs; rw [e, if_pos rfl]
    · have c1' : wordB v = false := by simpa using c1
      have e : storeC ws ps at_ v = 4 := by unfold storeC; rw [if_pos hc, if_pos c1']
      refine .inl ⟨hc, c1', e, ?_, ?_⟩
      · unfold storeWs; rw [e, if_neg (by decide)]
      · unfold storePs; rw [e, if_neg (by decide), if_neg (by decide)]
end Go.Proofs.YtbjalmiheipjjaaDoor
