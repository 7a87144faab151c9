/- A store more: by the program, and by the model. -/
import Derived.Test.YtenadnlgjobmdabDoorBlkOwn
namespace Go.Proofs.YtenadnlgjobmdabDoor
open Go.RowKit



def writeC (ws : List Int) (ps : List Se) (at_ v : Int) : Int := if askE ws ps at_ = 0 then if wordB v = false then 4 else if ps.length = 400 then 7 else 0 else askE ws ps at_
def writeWs (ws : List Int) (ps : List Se) (at_ v : Int) : List Int := if writeC ws ps at_ v = 0 ∨ writeC ws ps at_ v = 7 then ws else []
def writePs (ws : List Int) (ps : List Se) (at_ v : Int) : List Se := if writeC ws ps at_ v = 0 then ps ++ [⟨at_, v⟩] else if writeC ws ps at_ v = 7 then ps else []
theorem write_cases (ws : List Int) (ps : List Se) (at_ v : Int) :
    ((askE ws ps at_ = 1 ∨ askE ws ps at_ = 14) ∧ writeC ws ps at_ v = askE ws ps at_ ∧ writeWs ws ps at_ v = [] ∧ writePs ws ps at_ v = []) ∨
    (askE ws ps at_ = 0 ∧ wordB v = false ∧ writeC ws ps at_ v = 4 ∧ writeWs ws ps at_ v = [] ∧ writePs ws ps at_ v = []) ∨
    (askE ws ps at_ = 0 ∧ wordB v = true ∧ ps.length = 400 ∧ writeC ws ps at_ v = 7 ∧ writeWs ws ps at_ v = ws ∧ writePs ws ps at_ v = ps) ∨
    (askE ws ps at_ = 0 ∧ wordB v = true ∧ ¬ ps.length = 400 ∧ writeC ws ps at_ v = 0 ∧ writeWs ws ps at_ v = ws ∧ writePs ws ps at_ v = ps ++ [⟨at_, v⟩]) := by
  rcases askE_cases ws ps at_ with hc | ⟨hc, _⟩
  · left
    have e : writeC ws ps at_ v = askE ws ps at_ := by unfold writeC; rw [if_neg (by omega)]
    refine ⟨hc, e, ?_, ?_⟩
    · unfold writeWs; rw [e, if_neg (by omega)]
    · unfold writePs; rw [e, if_neg (by omega), if_neg (by omega)]
  · right
    by_cases c1 : wordB v = true
    · right
      by_cases c2 : ps.length = 400
      · have e : writeC ws ps at_ v = 7 := by unfold writeC; rw [if_pos hc, if_neg (by rw [c1]; simp), if_pos c2]
        refine .inl ⟨hc, c1, c2, e, ?_, ?_⟩
        · unfold writeWs; rw [e, if_pos (.inr rfl)]
        · unfold writePs; rw [e, if_neg (by decide), if_pos rfl]
      · have e : writeC ws ps at_ v = 0 := by unfold writeC; rw [if_pos hc, if_neg (by rw [c1]; simp), if_neg c2]
        refine .inr ⟨hc, c1, c2, e, ?_, ?_⟩
        · unfold writeWs; rw [e, if_pos (.inl rfl)]
        · unfold writePs; rw [e, if_pos rfl]
    · have c1' : wordB v = false := by simpa using c1
      have e : writeC ws ps at_ v = 4 := by unfold writeC; rw [if_pos hc, if_pos c1']
      refine .inl ⟨hc, c1', e, ?_, ?_⟩
      · unfold writeWs; rw [e, if_neg (by decide)]
      · unfold writePs; rw [e, if_neg (by decide), if_neg (by decide)]

end Go.Proofs.YtenadnlgjobmdabDoor
