/- What a crash leaves: the plain mathematics of the two ways of reckoning it. -/
import Derived.Test.YtbjalmiheipjjaaDoorPmUnsureI
import Derived.Test.YtbjalmiheipjjaaDoorZAF
namespace Go.Proofs.YtbjalmiheipjjaaDoor
def kept1 (a : Nat) (s : Int × Int) (p : St) : Int × Int := if p.at_ = (a : Int) ∧ 0 < s.2 then (p.val, s.2 - 1) else s
def keptS (a : Nat) (s : Int × Int) (ps : List St) : Int × Int := ps.foldl (kept1 a) s
theorem keptS_stop {a : Nat} {s : Int × Int} (h : ¬ 0 < s.2) : ∀ ps : List St, keptS a s ps = s
  | [] => rfl
  | p :: ps => by
    show keptS a (kept1 a s p) ps = s
    have e : kept1 a s p = s := by unfold kept1; rw [if_neg (fun x => h x.2)]
    rw [e]
    exact keptS_stop h ps
theorem keptS_nonneg {a : Nat} : ∀ (ps : List St) (s : Int × Int), 0 ≤ s.2 → 0 ≤ (keptS a s ps).2 ∧ (keptS a s ps).2 ≤ s.2
  | [], s, h => ⟨h, Int.le_refl _⟩
  | p :: ps, s, h => by
    show 0 ≤ (keptS a (kept1 a s p) ps).2 ∧ (keptS a (kept1 a s p) ps).2 ≤ s.2
    have h1 : 0 ≤ (kept1 a s p).2 ∧ (kept1 a s p).2 ≤ s.2 := by
      unfold kept1
      split
      · rename_i c; exact ⟨by have := c.2; show 0 ≤ s.2 - 1; omega, by show s.2 - 1 ≤ s.2; omega⟩
      · exact ⟨h, Int.le_refl _⟩
    have := keptS_nonneg (a := a) ps (kept1 a s p) h1.1
    omega
def spW (us : List Nat) (zs : List Int) (ps : List St) (ws : List Int) : Nat → List Int
  | 0 => ws
  | i + 1 => (spW us zs ps ws i).set (us[i]?.getD 0) (keptS (us[i]?.getD 0) ((spW us zs ps ws i)[us[i]?.getD 0]?.getD 0, keepI zs i) ps).1
theorem spW_len (us : List Nat) (zs : List Int) (ps : List St) (ws : List Int) : ∀ i, (spW us zs ps ws i).length = ws.length
  | 0 => rfl
  | i + 1 => by rw [spW, List.length_set]; exact spW_len us zs ps ws i
def lfF (us : List Nat) (zs : List Int) : Nat → Nat → Int
  | 0, _ => 0
  | i + 1, a => if a = us[i]?.getD 0 then keepI zs i else lfF us zs i a
theorem lfF_none {us : List Nat} {zs : List Int} {a : Nat} : ∀ (i : Nat), (∀ j, j < i → ¬ a = us[j]?.getD 0) → lfF us zs i a = 0
  | 0, _ => rfl
  | i + 1, h => by
    rw [lfF, if_neg (h i (by omega))]
    exact lfF_none i (fun j hj => h j (by omega))
theorem spW_at (us : List Nat) (zs : List Int) (ps : List St) (ws : List Int) (hus : ∀ i j, j < i → i < us.length → ¬ us[i]?.getD 0 = us[j]?.getD 0) :
    ∀ (i : Nat), i ≤ us.length → ∀ a, a < ws.length → (spW us zs ps ws i)[a]?.getD 0 = (keptS a (ws[a]?.getD 0, lfF us zs i a) ps).1
  | 0, _, a, _ => by
    show ws[a]?.getD 0 = (keptS a (ws[a]?.getD 0, 0) ps).1
    rw [keptS_stop (by simp)]
  | i + 1, hi, a, ha => by
    have ih := spW_at us zs ps ws hus i (by omega)
    rw [spW, lfF]
    by_cases e : a = us[i]?.getD 0
    · rw [if_pos e]
      subst e
      have hl : us[i]?.getD 0 < (spW us zs ps ws i).length := by rw [spW_len]; exact ha
      have e0 : (spW us zs ps ws i)[us[i]?.getD 0]?.getD 0 = ws[us[i]?.getD 0]?.getD 0 := by
        rw [ih _ ha, lfF_none i (fun j hj => hus i j hj (by omega)), keptS_stop (by simp)]
      rw [List.getElem?_set_self hl, Option.getD_some, e0]
    · rw [if_neg e, List.getElem?_set_ne (fun h => e h.symm)]
      exact ih a ha
def imS1 (s : List Int × (Nat → Int)) (p : St) : List Int × (Nat → Int) := if 0 < s.2 p.at_.toNat then (s.1.set p.at_.toNat p.val, fun j => if j = p.at_.toNat then s.2 j - 1 else s.2 j) else s
def imS (s : List Int × (Nat → Int)) (ps : List St) : List Int × (Nat → Int) := ps.foldl imS1 s
theorem imS_snoc (s : List Int × (Nat → Int)) (ps : List St) (p : St) : imS s (ps ++ [p]) = imS1 (imS s ps) p := by simp [imS]
theorem imS1_len (s : List Int × (Nat → Int)) (p : St) : (imS1 s p).1.length = s.1.length := by
  unfold imS1
  split <;> simp
theorem imS_len : ∀ (ps : List St) (s : List Int × (Nat → Int)), (imS s ps).1.length = s.1.length
  | [], _ => rfl
  | p :: ps, s => by
    show (imS (imS1 s p) ps).1.length = s.1.length
    rw [imS_len ps, imS1_len]
theorem imS1_at (s : List Int × (Nat → Int)) (p : St) (h0 : 0 ≤ p.at_) (a : Nat) (ha : a < s.1.length) : (((imS1 s p).1)[a]?.getD 0, (imS1 s p).2 a) = kept1 a (s.1[a]?.getD 0, s.2 a) p := by
  unfold imS1 kept1
  by_cases e : p.at_ = (a : Int)
  · have e' : p.at_.toNat = a := by omega
    rw [e']
    by_cases c : 0 < s.2 a
    · rw [if_pos c, if_pos ⟨e, c⟩]
      simp [ha]
    · rw [if_neg c, if_neg (fun h => c h.2)]
  · have e' : ¬ p.at_.toNat = a := by omega
    have e'' : ¬ a = p.at_.toNat := fun h => e' h.symm
    rw [if_neg (fun h : p.at_ = (a : Int) ∧ 0 < s.2 a => e h.1)]
    split
    · simp [e'', List.getElem?_set_ne e']
    · rfl
theorem imS_at : ∀ (ps : List St) (s : List Int × (Nat → Int)) (_ : ∀ p ∈ ps, 0 ≤ p.at_) (a : Nat) (_ : a < s.1.length), (((imS s ps).1)[a]?.getD 0, (imS s ps).2 a) = keptS a (s.1[a]?.getD 0, s.2 a) ps
  | [], _, _, _, _ => rfl
  | p :: ps, s, h0, a, ha => by
    show (((imS (imS1 s p) ps).1)[a]?.getD 0, (imS (imS1 s p) ps).2 a) = keptS a (kept1 a (s.1[a]?.getD 0, s.2 a) p) ps
    rw [imS_at ps (imS1 s p) (fun q hq => h0 q (by simp [hq])) a (by rw [imS1_len]; exact ha), imS1_at s p (h0 p (by simp)) a ha]
theorem same_of_getD {l l' : List Int} (hl : l.length = l'.length) (h : ∀ a, a < l.length → l[a]?.getD 0 = l'[a]?.getD 0) : l = l' := by
  apply List.ext_getElem hl
  intro i h1 h2
  have := h i h1
  simpa [h1, h2] using this
theorem crash_same (us : List Nat) (zs : List Int) (ps : List St) (ws : List Int) (hus : ∀ i j, j < i → i < us.length → ¬ us[i]?.getD 0 = us[j]?.getD 0) (h0 : ∀ p ∈ ps, 0 ≤ p.at_) :
    (imS (ws, lfF us zs us.length) ps).1 = spW us zs ps ws us.length := by
  apply same_of_getD
  · rw [imS_len, spW_len]
  · intro a ha
    rw [imS_len] at ha
    have := imS_at ps (ws, lfF us zs us.length) h0 a ha
    rw [spW_at us zs ps ws hus us.length (Nat.le_refl _) a ha]
    exact congrArg Prod.fst this
theorem filter_range_rises (f : Nat → Bool) : ∀ (n i j : Nat), j < i → i < ((List.range n).filter f).length → ((List.range n).filter f)[j]?.getD 0 < ((List.range n).filter f)[i]?.getD 0
  | 0, i, j, _, hi => by simp at hi
  | n + 1, i, j, hj, hi => by
    rw [List.range_succ, List.filter_append] at hi ⊢
    by_cases hf : f n = true
    · have e : [n].filter f = [n] := by simp [hf]
      rw [e] at hi ⊢
      rw [List.length_append, List.length_singleton] at hi
      have hlt : ∀ k, k < ((List.range n).filter f).length → ((List.range n).filter f)[k]?.getD 0 < n := by
        intro k hk
        rw [List.getElem?_eq_getElem hk, Option.getD_some]
        have := List.getElem_mem hk
        rw [List.mem_filter, List.mem_range] at this
        exact this.1
      by_cases hi2 : i < ((List.range n).filter f).length
      · rw [List.getElem?_append_left (by omega), List.getElem?_append_left hi2]
        exact filter_range_rises f n i j hj hi2
      · have ei : i = ((List.range n).filter f).length := by omega
        rw [List.getElem?_append_left (by omega), List.getElem?_append_right (by omega), ei, Nat.sub_self]
        exact hlt j (by omega)
    · have e : [n].filter f = [] := by simp [hf]
      rw [e, List.append_nil] at hi ⊢
      exact filter_range_rises f n i j hj hi
theorem unsN_apart (ps : List St) (n : Nat) : ∀ i j, j < i → i < (unsN ps n).length → ¬ (unsN ps n)[i]?.getD 0 = (unsN ps n)[j]?.getD 0 := by
  intro i j hj hi e
  have := filter_range_rises (hasAt ps) n i j hj hi
  unfold unsN at e
  omega
theorem unsN_lt (ps : List St) (n i : Nat) (hi : i < (unsN ps n).length) : (unsN ps n)[i]?.getD 0 < n := by
  rw [List.getElem?_eq_getElem hi, Option.getD_some]
  have := List.getElem_mem hi
  unfold unsN at this
  rw [List.mem_filter, List.mem_range] at this
  exact this.1
theorem unsL_len (ps : List St) (n : Nat) : (unsL ps n).length = (unsN ps n).length := by simp [unsL]
theorem unsL_at (ps : List St) (n i : Nat) (hi : i < (unsL ps n).length) : (unsL ps n)[i] = (((unsN ps n)[i]?.getD 0 : Nat) : Int) := by
  have h2 : i < (unsN ps n).length := by rw [← unsL_len]; exact hi
  rw [List.getElem?_eq_getElem h2, Option.getD_some]
  simp [unsL]
end Go.Proofs.YtbjalmiheipjjaaDoor
