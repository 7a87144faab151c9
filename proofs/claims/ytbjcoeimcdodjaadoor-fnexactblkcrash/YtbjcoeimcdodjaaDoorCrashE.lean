/- What a crash leaves: the plain mathematics of the two ways of reckoning it. -/
import Derived.Test.YtbjcoeimcdodjaaDoorBlkUns
import Derived.Test.YtbjcoeimcdodjaaDoorKeep
namespace Go.Proofs.YtbjcoeimcdodjaaDoor
def kept1E (a : Nat) (s : Int × Int) (p : Se) : Int × Int := if p.at_ = (a : Int) ∧ 0 < s.2 then (p.val, s.2 - 1) else s
def keptE (a : Nat) (s : Int × Int) (ps : List Se) : Int × Int := ps.foldl (kept1E a) s
theorem keptE_nil (a : Nat) (s : Int × Int) : keptE a s [] = s := rfl
theorem keptE_snoc (a : Nat) (s : Int × Int) (ps : List Se) (p : Se) : keptE a s (ps ++ [p]) = kept1E a (keptE a s ps) p := by simp [keptE]
theorem keptE_append (a : Nat) (s : Int × Int) (ps qs : List Se) : keptE a s (ps ++ qs) = keptE a (keptE a s ps) qs := by simp [keptE]
theorem keptE_stop {a : Nat} {s : Int × Int} (h : ¬ 0 < s.2) : ∀ ps : List Se, keptE a s ps = s
  | [] => rfl
  | p :: ps => by
    show keptE a (kept1E a s p) ps = s
    have e : kept1E a s p = s := by unfold kept1E; rw [if_neg (fun x => h x.2)]
    rw [e]
    exact keptE_stop h ps
theorem keptE_nonneg {a : Nat} : ∀ (ps : List Se) (s : Int × Int), 0 ≤ s.2 → 0 ≤ (keptE a s ps).2 ∧ (keptE a s ps).2 ≤ s.2
  | [], s, h => ⟨h, Int.le_refl _⟩
  | p :: ps, s, h => by
    show 0 ≤ (keptE a (kept1E a s p) ps).2 ∧ (keptE a (kept1E a s p) ps).2 ≤ s.2
    have h1 : 0 ≤ (kept1E a s p).2 ∧ (kept1E a s p).2 ≤ s.2 := by
      unfold kept1E
      split
      · rename_i c; exact ⟨by have := c.2; show 0 ≤ s.2 - 1; omega, by show s.2 - 1 ≤ s.2; omega⟩
      · exact ⟨h, Int.le_refl _⟩
    have := keptE_nonneg (a := a) ps (kept1E a s p) h1.1
    omega
def spE (us : List Nat) (zs : List Int) (ps : List Se) (ws : List Int) : Nat → List Int
  | 0 => ws
  | i + 1 => (spE us zs ps ws i).set (us[i]?.getD 0) (keptE (us[i]?.getD 0) ((spE us zs ps ws i)[us[i]?.getD 0]?.getD 0, keepI zs i) ps).1
theorem spE_len (us : List Nat) (zs : List Int) (ps : List Se) (ws : List Int) : ∀ i, (spE us zs ps ws i).length = ws.length
  | 0 => rfl
  | i + 1 => by rw [spE, List.length_set]; exact spE_len us zs ps ws i
theorem unsNE_lt (ps : List Se) (n i : Nat) (hi : i < (unsNE ps n).length) : (unsNE ps n)[i]?.getD 0 < n := by
  rw [List.getElem?_eq_getElem hi, Option.getD_some]
  have := List.getElem_mem hi
  unfold unsNE at this
  rw [List.mem_filter, List.mem_range] at this
  exact this.1
theorem unsLE_len (ps : List Se) (n : Nat) : (unsLE ps n).length = (unsNE ps n).length := by simp [unsLE]
theorem unsLE_at (ps : List Se) (n i : Nat) (hi : i < (unsLE ps n).length) : (unsLE ps n)[i] = (((unsNE ps n)[i]?.getD 0 : Nat) : Int) := by
  have h2 : i < (unsNE ps n).length := by rw [← unsLE_len]; exact hi
  rw [List.getElem?_eq_getElem h2, Option.getD_some]
  simp [unsLE]
end Go.Proofs.YtbjcoeimcdodjaaDoor
