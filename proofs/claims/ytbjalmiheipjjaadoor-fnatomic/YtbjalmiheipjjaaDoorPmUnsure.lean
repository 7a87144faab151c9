/- The words with stores that are not sure: by the model. -/
import Derived.Test.YtbjalmiheipjjaaDoorZAQ
namespace Go.Proofs.YtbjalmiheipjjaaDoor
open Go.RowKit
def hasAt (ps : List St) (k : Nat) : Bool := ps.any (fun p => p.at_ == (k : Int))
def unsN (ps : List St) (m : Nat) : List Nat := (List.range m).filter (hasAt ps)
def unsL (ps : List St) (m : Nat) : List Int := (unsN ps m).map (fun (k : Nat) => (k : Int))
theorem unsN_succ (ps : List St) (m : Nat) : unsN ps (m + 1) = if hasAt ps m = true then unsN ps m ++ [m] else unsN ps m := by
  unfold unsN
  rw [List.range_succ, List.filter_append]
  by_cases h : hasAt ps m = true
  · rw [if_pos h]; simp [h]
  · rw [if_neg h]; simp [h]
theorem unsL_hit {ps : List St} {m : Nat} (h : hasAt ps m = true) : unsL ps (m + 1) = unsL ps m ++ [(m : Int)] := by
  unfold unsL
  rw [unsN_succ, if_pos h, List.map_append]
  rfl
theorem unsL_miss {ps : List St} {m : Nat} (h : hasAt ps m = false) : unsL ps (m + 1) = unsL ps m := by
  unfold unsL
  rw [unsN_succ, if_neg (by rw [h]; simp)]
theorem unsL_le (ps : List St) (m : Nat) : (unsL ps m).length ≤ m := by
  unfold unsL unsN
  rw [List.length_map]
  have := List.length_filter_le (hasAt ps) (List.range m)
  simpa using this
def unsZ (ws : List Int) (ps : List St) : List Int := if pmB ws ps = true then unsL ps 336 else []
theorem uns_not {ws : List Int} {ps : List St} (h : pmB ws ps = false) : seenC ws ps = 1 ∧ unsZ ws ps = [] := by
  unfold seenC unsZ
  rw [h]
  exact ⟨rfl, rfl⟩
theorem uns_ok {ws : List Int} {ps : List St} (h : pmB ws ps = true) : seenC ws ps = 0 ∧ unsZ ws ps = unsL ps 336 := by
  unfold seenC unsZ
  rw [h]
  exact ⟨rfl, rfl⟩
end Go.Proofs.YtbjalmiheipjjaaDoor
