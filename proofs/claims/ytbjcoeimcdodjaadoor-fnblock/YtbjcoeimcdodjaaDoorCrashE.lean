/- What a crash leaves: the plain mathematics of the two ways of reckoning it. -/
import Derived.Test.YtbjcoeimcdodjaaDoorBlkUns
import Derived.Test.YtbjcoeimcdodjaaDoorKeep
namespace Go.Proofs.YtbjcoeimcdodjaaDoor
def kept1E (a : Nat) (s : Int × Int) (p : Se) : Int × Int := if p.at_ = (a : Int) ∧ 0 < s.2 then (p.val, s.2 - 1) else s
def keptE (a : Nat) (s : Int × Int) (ps : List Se) : Int × Int := ps.foldl (kept1E a) s
theorem keptE_nil (a : Nat) (s : Int × Int) : keptE a s [] = s := rfl
theorem keptE_snoc (a : Nat) (s : Int × Int) (ps : List Se) (p : Se) : keptE a s (ps ++ [p]) = kept1E a (keptE a s ps) p := by simp [keptE]
theorem keptE_append (a : Nat) (s : Int × Int) (ps qs : List Se) : keptE a s (ps ++ qs) = keptE a (keptE a s ps) qs := by simp [keptE]
theorem keptE_stop {a : Nat} {s : Int × Int} (h : ¬ 0 < s.2) : ∀ ps : List Se, keptE a s ps = s
  | [] => rfl
  | p :: ps => by
    show keptE a (kept1E a s p) ps = s
    have e : kept1E a s p = s := by unfold kept1E; rw [if_neg (fun x => h x.2)]
    rw [e]
    exact keptE_stop h ps
theorem keptE_nonneg {a : Nat} : ∀ (ps : List Se) (s : Int × Int), 0 ≤ s.2 → 0 ≤ (keptE a s ps).2 ∧ (keptE a s ps).2 ≤ s.2
  | [], s, h => ⟨h, Int.le_refl _⟩
  | p :: ps, s, h => by
    show 0 ≤ (keptE a (kept1E a s p) ps).2 ∧ (keptE a (kept1E a s p) ps).2 ≤ s.2
    have h1 : 0 ≤ (kept1E a s p).2 ∧ (kept1E a s p).2 ≤ s.2 := by
      unfold kept1E
      split
      · rename_i c; exact ⟨by have := c.2; show 0 ≤ s.2 - 1; omega, by show s.2 - 1 ≤ s.2; omega⟩
      · exact ⟨h, Int.le_refl _⟩
    have := keptE_nonneg (a := a) ps (kept1E a s p) h1.1
    omega
def spE (us : List Nat) (zs : List Int) (ps : List Se) (ws : List Int) : Nat → List Int
  | 0 => ws
  | i + 1 => (spE us zs ps ws i).set (us[i]?.getD 0) (keptE (us[i]?.getD 0) ((spE us zs ps ws i)[us[i]?.getD 0]?.getD 0, keepI zs i) ps).1
theorem spE_len (us : List Nat) (zs : List Int) (ps : List Se) (ws : List Int) : ∀ i, (spE us zs ps ws i).length = ws.length
  | 0 => rfl
  | i + 1 => by rw [spE, List.length_set]; exact spE_len us zs ps ws i
def lfE (us : List Nat) (zs : List Int) : Nat → Nat → Int
  | 0, _ => 0
  | i + 1, a => if a = us[i]?.getD 0 then keepI zs i else lfE us zs i a
theorem lfE_none {us : List Nat} {zs : List Int} {a : Nat} : ∀ (i : Nat), (∀ j, j < i → ¬ a = us[j]?.getD 0) → lfE us zs i a = 0
  | 0, _ => rfl
  | i + 1, h => by
    rw [lfE, if_neg (h i (by omega))]
    exact lfE_none i (fun j hj => h j (by omega))
theorem spE_at (us : List Nat) (zs : List Int) (ps : List Se) (ws : List Int) (hus : ∀ i j, j < i → i < us.length → ¬ us[i]?.getD 0 = us[j]?.getD 0) :
    ∀ (i : Nat), i ≤ us.length → ∀ a, a < ws.length → (spE us zs ps ws i)[a]?.getD 0 = (keptE a (ws[a]?.getD 0, lfE us zs i a) ps).1
  | 0, _, a, _ => by
    show ws[a]?.getD 0 = (keptE a (ws[a]?.getD 0, 0) ps).1
    rw [keptE_stop (by simp)]
  | i + 1, hi, a, ha => by
    have ih := spE_at us zs ps ws hus i (by omega)
    rw [spE, lfE]
    by_cases e : a = us[i]?.getD 0
    · rw [if_pos e]
      subst e
      have hl : us[i]?.getD 0 < (spE us zs ps ws i).length := by rw [spE_len]; exact ha
      have e0 : (spE us zs ps ws i)[us[i]?.getD 0]?.getD 0 = ws[us[i]?.getD 0]?.getD 0 := by
        rw [ih _ ha, lfE_none i (fun j hj => hus i j hj (by omega)), keptE_stop (by simp)]
      rw [List.getElem?_set_self hl, Option.getD_some, e0]
    · rw [if_neg e, List.getElem?_set_ne (fun h => e h.symm)]
      exact ih a ha
theorem sameE_of_getD {l l' : List Int} (hl : l.length = l'.length) (h : ∀ a, a < l.length → l[a]?.getD 0 = l'[a]?.getD 0) : l = l' := by
  apply List.ext_getElem hl
  intro i h1 h2
  have := h i h1
  simpa [h1, h2] using this
theorem filterE_rises (f : Nat → Bool) : ∀ (n i j : Nat), j < i → i < ((List.range n).filter f).length → ((List.range n).filter f)[j]?.getD 0 < ((List.range n).filter f)[i]?.getD 0
  | 0, i, j, _, hi => by simp at hi
  | n + 1, i, j, hj, hi => by
    rw [List.range_succ, List.filter_append] at hi ⊢
    by_cases hf : f n = true
    · have e : [n].filter f = [n] := by simp [hf]
      rw [e] at hi ⊢
      rw [List.length_append, List.length_singleton] at hi
      have hlt : ∀ k, k < ((List.range n).filter f).length → ((List.range n).filter f)[k]?.getD 0 < n := by
        intro k hk
        rw [List.getElem?_eq_getElem hk, Option.getD_some]
        have := List.getElem_mem hk
        rw [List.mem_filter, List.mem_range] at this
        exact this.1
      by_cases hi2 : i < ((List.range n).filter f).length
      · rw [List.getElem?_append_left (by omega), List.getElem?_append_left hi2]
        exact filterE_rises f n i j hj hi2
      · have ei : i = ((List.range n).filter f).length := by omega
        rw [List.getElem?_append_left (by omega), List.getElem?_append_right (by omega), ei, Nat.sub_self]
        exact hlt j (by omega)
    · have e : [n].filter f = [] := by simp [hf]
      rw [e, List.append_nil] at hi ⊢
      exact filterE_rises f n i j hj hi
theorem unsNE_apart (ps : List Se) (n : Nat) : ∀ i j, j < i → i < (unsNE ps n).length → ¬ (unsNE ps n)[i]?.getD 0 = (unsNE ps n)[j]?.getD 0 := by
  intro i j hj hi e
  have := filterE_rises (hasE ps) n i j hj hi
  unfold unsNE at e
  omega
theorem unsNE_lt (ps : List Se) (n i : Nat) (hi : i < (unsNE ps n).length) : (unsNE ps n)[i]?.getD 0 < n := by
  rw [List.getElem?_eq_getElem hi, Option.getD_some]
  have := List.getElem_mem hi
  unfold unsNE at this
  rw [List.mem_filter, List.mem_range] at this
  exact this.1
theorem unsLE_len (ps : List Se) (n : Nat) : (unsLE ps n).length = (unsNE ps n).length := by simp [unsLE]
theorem unsLE_at (ps : List Se) (n i : Nat) (hi : i < (unsLE ps n).length) : (unsLE ps n)[i] = (((unsNE ps n)[i]?.getD 0 : Nat) : Int) := by
  have h2 : i < (unsNE ps n).length := by rw [← unsLE_len]; exact hi
  rw [List.getElem?_eq_getElem h2, Option.getD_some]
  simp [unsLE]
end Go.Proofs.YtbjcoeimcdodjaaDoor
