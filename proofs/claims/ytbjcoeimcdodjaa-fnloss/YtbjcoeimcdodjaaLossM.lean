/- What a crash leaves where nothing is kept, and where all is: mathematics. -/
import Derived.Test.YtbjcoeimcdodjaaMemM
namespace Go.Proofs.Ytbjcoeimcdodjaa
open Go.RowKit
theorem keepI_one (z : Int) (i : Nat) : keepI [z] i = z := by
  unfold keepI
  simp [Nat.mod_one]
theorem lfF_zero (us : List Nat) : ∀ i a, lfF us [0] i a = 0
  | 0, _ => rfl
  | i + 1, a => by
    rw [lfF, keepI_one]
    split
    · rfl
    · exact lfF_zero us i a
theorem lfF_one {us : List Nat} {z : Int} {a : Nat} : ∀ i, (∃ j, j < i ∧ a = us[j]?.getD 0) → lfF us [z] i a = z
  | 0, ⟨j, h, _⟩ => absurd h (by omega)
  | i + 1, ⟨j, h, e⟩ => by
    rw [lfF, keepI_one]
    by_cases c : a = us[i]?.getD 0
    · rw [if_pos c]
    · rw [if_neg c]
      exact lfF_one i ⟨j, by rcases Nat.lt_succ_iff_lt_or_eq.1 h with h | h
                             · exact h
                             · subst h; exact absurd e c, e⟩
theorem crW_none (ws : List Int) (ps : List St) : crW ws ps [0] = ws := by
  refine same_of_getD crW_len (fun a ha => ?_)
  rw [crW_len] at ha
  have := spW_at (unsN ps 336) [0] ps ws (unsN_apart ps 336) _ (Nat.le_refl _) a ha
  rw [lfF_zero, keptS_stop (by simp)] at this
  exact this
theorem keptS_all {a : Nat} : ∀ (ps : List St) (d m : Int), (ps.length : Int) ≤ m → (keptS a (d, m) ps).1 = lastW (a : Int) d ps
  | [], _, _, _ => rfl
  | p :: ps, d, m, h => by
    simp only [List.length_cons] at h
    show (keptS a (kept1 a (d, m) p) ps).1 = lastW (a : Int) (if p.at_ = (a : Int) then p.val else d) ps
    by_cases c : p.at_ = (a : Int)
    · rw [show kept1 a (d, m) p = (p.val, m - 1) from if_pos ⟨c, by show 0 < m; omega⟩, if_pos c]
      exact keptS_all ps p.val (m - 1) (by omega)
    · rw [show kept1 a (d, m) p = (d, m) from if_neg (fun x => c x.1), if_neg c]
      exact keptS_all ps d m (by omega)
theorem crW_all {ws : List Int} {ps : List St} {n : Nat} (h : PmP ws ps n) (hn : n ≤ 400) : crW ws ps [400] = layW ws ps := by
  refine same_of_getD (crW_len.trans (layW_len ws ps).symm) (fun a ha => ?_)
  rw [crW_len] at ha
  have e := spW_at (unsN ps 336) [400] ps ws (unsN_apart ps 336) _ (Nat.le_refl _) a ha
  have hl : a < (layW ws ps).length := by rw [layW_len]; exact ha
  have e2 := layW_at ps ws a ha (fun p hp => (h.store p hp).1.1) hl
  have ew : ws[a]?.getD 0 = ws[a] := by rw [List.getElem?_eq_getElem ha]; rfl
  show (spW (unsN ps 336) [400] ps ws (unsN ps 336).length)[a]?.getD 0 = _
  rw [e, List.getElem?_eq_getElem hl, Option.getD_some, e2, ew]
  by_cases c : ∃ p ∈ ps, p.at_ = (a : Int)
  · have hm : a ∈ unsN ps 336 := by
      obtain ⟨p, hp, hpa⟩ := c
      unfold unsN
      rw [List.mem_filter]
      refine ⟨by rw [List.mem_range]; have := h.len; omega, ?_⟩
      simp only [hasAt, List.any_eq_true]
      exact ⟨p, hp, by simp [hpa]⟩
    obtain ⟨j, hj, ej⟩ := List.getElem_of_mem hm
    rw [lfF_one _ ⟨j, hj, by rw [List.getElem?_eq_getElem hj, Option.getD_some, ej]⟩]
    exact keptS_all ps _ _ (by have := h.few; omega)
  · have c' : ∀ p ∈ ps, ¬ p.at_ = (a : Int) := fun p hp x => c ⟨p, hp, x⟩
    rw [keptS_away ps _ c', lastW_none c']
def fineB (x d i : Int) (ps : List St) : Bool := decide (x = d ∨ ∃ p ∈ ps, p.at_ = i ∧ p.val = x)
theorem crW_fine (ws : List Int) (ps : List St) (zs : List Int) (a : Nat) (ha : a < ws.length) (hx : a < (crW ws ps zs).length) : fineB (crW ws ps zs)[a] ws[a] (a : Int) ps = true := by
  obtain ⟨m, e⟩ := crW_at (ps := ps) (zs := zs) ha
  rw [List.getElem?_eq_getElem hx, Option.getD_some] at e
  have ew : ws[a]?.getD 0 = ws[a] := by rw [List.getElem?_eq_getElem ha]; rfl
  refine decide_eq_true ?_
  rw [e]
  rcases keptS_of ps (ws[a]?.getD 0, m) with h | ⟨p, hp, h1, h2⟩
  · left; rw [h]; exact ew
  · right; exact ⟨p, hp, h1, h2.symm⟩
theorem fineB_nil (x d i : Int) : fineB x d i [] = (x == d) := by
  unfold fineB
  rw [Bool.eq_iff_iff, decide_eq_true_iff, beq_iff_eq]
  simp
theorem fineB_snoc (x d i : Int) (ps : List St) (p : St) : fineB x d i (ps ++ [p]) = (fineB x d i ps || (p.at_ == i && p.val == x)) := by
  unfold fineB
  rw [Bool.eq_iff_iff, Bool.or_eq_true, decide_eq_true_iff, decide_eq_true_iff, Bool.and_eq_true, beq_iff_eq, beq_iff_eq]
  simp only [List.mem_append, List.mem_singleton]
  constructor
  · rintro (h | ⟨q, hq | rfl, h1, h2⟩)
    · exact .inl (.inl h)
    · exact .inl (.inr ⟨q, hq, h1, h2⟩)
    · exact .inr ⟨h1, h2⟩
  · rintro ((h | ⟨q, hq, h1, h2⟩) | ⟨h1, h2⟩)
    · exact .inl h
    · exact .inr ⟨q, .inl hq, h1, h2⟩
    · exact .inr ⟨p, .inr rfl, h1, h2⟩
theorem RdPm.words {w : World} {vW vP : Value} {ws : List Int} {ps : List St} (h : RdPm w (.agg #[vW, vP]) ws ps) : RdI w vW ws := by
  obtain ⟨_, _, e, h1, _⟩ := h
  cases e
  exact h1
theorem RdPm.pend {w : World} {vW vP : Value} {ws : List Int} {ps : List St} (h : RdPm w (.agg #[vW, vP]) ws ps) : RdS w vP ps := by
  obtain ⟨_, _, e, _, h2⟩ := h
  cases e
  exact h2
end Go.Proofs.Ytbjcoeimcdodjaa
