/- A word as it is loaded: by the program, and by the model. -/
import Derived.Test.YtpgdpachomdfhaaPmOKI
namespace Go.Proofs.Ytpgdpachomdfhaa
open Go.RowKit

/-- The code that the calls with a place ask first. -/
def askC (ws : List Int) (ps : List St) (at_ : Int) : Int := if pmB ws ps = false then 1 else if placeB at_ = false then 14 else 0
theorem askC_bad {ws : List Int} {ps : List St} {at_ : Int} (h : pmB ws ps = false) : askC ws ps at_ = 1 := by unfold askC; rw [if_pos h]
theorem askC_place {ws : List Int} {ps : List St} {at_ : Int} (h : pmB ws ps = true) (h2 : placeB at_ = false) : askC ws ps at_ = 14 := by unfold askC; rw [if_neg (by rw [h]; simp), if_pos h2]
theorem askC_ok {ws : List Int} {ps : List St} {at_ : Int} (h : pmB ws ps = true) (h2 : placeB at_ = true) : askC ws ps at_ = 0 := by unfold askC; rw [if_neg (by rw [h]; simp), if_neg (by rw [h2]; simp)]

/-- The last of some stores at a place, or what was there. -/
def lastW (at_ d : Int) (ps : List St) : Int := ps.foldl (fun acc p => if p.at_ = at_ then p.val else acc) d
theorem lastW_none {at_ d : Int} : ∀ {ps : List St}, (∀ p ∈ ps, ¬ p.at_ = at_) → lastW at_ d ps = d
  | [], _ => rfl
  | p :: ps, h => by
    show lastW at_ (if p.at_ = at_ then p.val else d) ps = d
    rw [if_neg (h p (by simp))]
    exact lastW_none (fun q hq => h q (by simp [hq]))
theorem lastW_append (at_ d : Int) (ps qs : List St) : lastW at_ d (ps ++ qs) = lastW at_ (lastW at_ d ps) qs := by simp [lastW]
theorem lastW_hit {at_ d : Int} {ps : List St} {k : Nat} (hk : k < ps.length) (h : ps[k].at_ = at_) (ha : ∀ j (hj : j < ps.length), k < j → ¬ ps[j].at_ = at_) : lastW at_ d ps = ps[k].val := by
  have e : ps = ps.take k ++ (ps[k] :: ps.drop (k + 1)) := by rw [← List.drop_eq_getElem_cons hk, List.take_append_drop]
  conv => lhs; rw [e]
  rw [lastW_append]
  show lastW at_ (if ps[k].at_ = at_ then ps[k].val else _) (ps.drop (k + 1)) = _
  rw [if_pos h]
  apply lastW_none
  intro p hp
  obtain ⟨i, hi, rfl⟩ := List.getElem_of_mem hp
  rw [List.getElem_drop]
  exact ha _ _ (by omega)

/-- What is loaded: 0 with a code. -/
def loadV (ws : List Int) (ps : List St) (at_ : Int) : Int := if askC ws ps at_ = 0 then lastW at_ (ws[at_.toNat]?.getD 0) ps else 0
theorem loadV_not {ws : List Int} {ps : List St} {at_ : Int} (h : ¬ askC ws ps at_ = 0) : loadV ws ps at_ = 0 := by unfold loadV; rw [if_neg h]
theorem loadV_ok {ws : List Int} {ps : List St} {k : Nat} (h : askC ws ps (k : Int) = 0) (hk : k < ws.length) : loadV ws ps (k : Int) = lastW (k : Int) ws[k] ps := by
  unfold loadV; rw [if_pos h]; simp [hk]
/-- Either a code, or a right memory and a place. -/
theorem askC_cases (ws : List Int) (ps : List St) (at_ : Int) : (askC ws ps at_ = 1 ∨ askC ws ps at_ = 14) ∨ (askC ws ps at_ = 0 ∧ pmB ws ps = true ∧ ∃ k : Nat, at_ = (k : Int) ∧ k < 336 ∧ k < ws.length) := by
  by_cases c1 : pmB ws ps = true
  · by_cases c2 : placeB at_ = true
    · have := placeB_true c2
      have hl := (pmB_len c1).1
      exact .inr ⟨askC_ok c1 c2, c1, at_.toNat, by omega, by omega, by omega⟩
    · exact .inl (.inr (askC_place c1 (by simpa using c2)))
  · exact .inl (.inl (askC_bad (by simpa using c1)))

end Go.Proofs.Ytpgdpachomdfhaa
