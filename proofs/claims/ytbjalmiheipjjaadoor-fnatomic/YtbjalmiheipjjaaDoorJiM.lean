/- Steps one after the other: what they leave. -/
import Derived.Test.YtbjalmiheipjjaaDoorZAN
namespace Go.Proofs.YtbjalmiheipjjaaDoor
open Go.RowKit
structure MR where
  c : Int
  W : List Int
  P : List St
  E : List Int
  Q : List Se
def mr : List Mi → List Int → List St → List Int → List Se → MR
  | [], ws, ps, es, qs => ⟨0, ws, ps, es, qs⟩
  | m :: l, ws, ps, es, qs => if fullB m ps qs = true then ⟨7, ws, ps, es, qs⟩ else mr l (doW m ws ps) (doP m ps) (doE m es qs) (doQ m qs)
theorem mr_append : ∀ (l l' : List Mi) (ws : List Int) (ps : List St) (es : List Int) (qs : List Se), mr (l ++ l') ws ps es qs = if (mr l ws ps es qs).c = 0 then mr l' (mr l ws ps es qs).W (mr l ws ps es qs).P (mr l ws ps es qs).E (mr l ws ps es qs).Q else mr l ws ps es qs
  | [], l', ws, ps, es, qs => by simp [mr]
  | m :: l, l', ws, ps, es, qs => by
      by_cases c : fullB m ps qs = true
      · simp [mr, c]
      · simp only [List.cons_append, mr, if_neg c]
        exact mr_append l l' _ _ _ _
theorem mr_one (m : Mi) (ws : List Int) (ps : List St) (es : List Int) (qs : List Se) : mr [m] ws ps es qs = if fullB m ps qs = true then ⟨7, ws, ps, es, qs⟩ else ⟨0, doW m ws ps, doP m ps, doE m es qs, doQ m qs⟩ := rfl
theorem pmB_iff {ws : List Int} {ps : List St} : pmB ws ps = true ↔ ws.length = 336 ∧ ps.length ≤ 400 ∧ (∀ x ∈ ws, wordB x = true) ∧ ∀ p ∈ ps, placeB p.at_ = true ∧ wordB p.val = true := by
  constructor
  · intro h
    refine ⟨(pmB_len h).1, (pmB_len h).2, fun x hx => ?_, fun p hp => ?_⟩
    · obtain ⟨i, hi, rfl⟩ := List.getElem_of_mem hx; exact pmB_word h i hi
    · obtain ⟨i, hi, rfl⟩ := List.getElem_of_mem hp; exact pmB_store h i hi
  · rintro ⟨h1, h2, h3, h4⟩
    exact pmB_mk h1 h2 (fun k hk => h3 _ (List.getElem_mem hk)) (fun k hk => h4 _ (List.getElem_mem hk))
theorem blkB_iff {ws : List Int} {ps : List Se} : blkB ws ps = true ↔ ws.length = 32 ∧ ps.length ≤ 400 ∧ (∀ x ∈ ws, wordB x = true) ∧ ∀ p ∈ ps, secB p.at_ = true ∧ wordB p.val = true := by
  constructor
  · intro h
    refine ⟨(blkB_len h).1, (blkB_len h).2, fun x hx => ?_, fun p hp => ?_⟩
    · obtain ⟨i, hi, rfl⟩ := List.getElem_of_mem hx; exact blkB_word h i hi
    · obtain ⟨i, hi, rfl⟩ := List.getElem_of_mem hp; exact blkB_store h i hi
  · rintro ⟨h1, h2, h3, h4⟩
    exact blkB_mk h1 h2 (fun k hk => h3 _ (List.getElem_mem hk)) (fun k hk => h4 _ (List.getElem_mem hk))
theorem fenW_word : ∀ (ps : List St) (ws : List Int), (∀ x ∈ ws, wordB x = true) → (∀ p ∈ ps, wordB p.val = true) → ∀ x ∈ fenW ws ps, wordB x = true
  | [], ws, h, _ => h
  | p :: ps, ws, h, k => by
      show ∀ x ∈ fenW (if p.fl then ws.set p.at_.toNat p.val else ws) ps, wordB x = true
      refine fenW_word ps _ ?_ (fun q hq => k q (List.mem_cons_of_mem _ hq))
      split
      · intro x hx
        rcases List.mem_or_eq_of_mem_set hx with hx | rfl
        · exact h x hx
        · exact k p (List.mem_cons_self)
      · exact h
theorem layE_word : ∀ (ps : List Se) (ws : List Int), (∀ x ∈ ws, wordB x = true) → (∀ p ∈ ps, wordB p.val = true) → ∀ x ∈ layE ws ps, wordB x = true
  | [], ws, h, _ => h
  | p :: ps, ws, h, k => by
      show ∀ x ∈ layE (ws.set p.at_.toNat p.val) ps, wordB x = true
      refine layE_word ps _ ?_ (fun q hq => k q (List.mem_cons_of_mem _ hq))
      intro x hx
      rcases List.mem_or_eq_of_mem_set hx with hx | rfl
      · exact h x hx
      · exact k p (List.mem_cons_self)
theorem do_ok {m : Mi} {ws : List Int} {ps : List St} {es : List Int} {qs : List Se} (h : pmB ws ps = true) (hb : blkB es qs = true) (hm : miB m = true) (hf : fullB m ps qs = false) : pmB (doW m ws ps) (doP m ps) = true ∧ blkB (doE m es qs) (doQ m qs) = true := by
  obtain ⟨k, a, x⟩ := m
  obtain ⟨p1, p2, p3, p4⟩ := pmB_iff.1 h
  obtain ⟨b1, b2, b3, b4⟩ := blkB_iff.1 hb
  have hk := (miB_of k a x).1 hm
  have hf' : ¬ ((k = 1 ∧ ps.length = 400) ∨ (k = 4 ∧ qs.length = 400)) := of_decide_eq_false hf
  rcases (show (k = 1 ∧ (0 ≤ a ∧ a < 336) ∧ 0 ≤ x ∧ x < 1099511627776) ∨ k = 2 ∨ k = 3 ∨ (k = 4 ∧ (0 ≤ a ∧ a < 32) ∧ 0 ≤ x ∧ x < 1099511627776) ∨ k = 5 by omega) with ⟨rfl, ha, hx⟩ | rfl | rfl | ⟨rfl, ha, hx⟩ | rfl
  · refine ⟨pmB_iff.2 ⟨p1, ?_, p3, ?_⟩, hb⟩
    · show (ps ++ [(⟨a, x, false⟩ : St)]).length ≤ 400
      simp
      omega
    · intro p hp
      rcases List.mem_append.1 (show p ∈ ps ++ [⟨a, x, false⟩] from hp) with hp | hp
      · exact p4 p hp
      · rw [List.mem_singleton.1 hp]; exact ⟨decide_eq_true ha, decide_eq_true hx⟩
  · refine ⟨pmB_iff.2 ⟨p1, ?_, p3, ?_⟩, hb⟩
    · show (ps.map (fl1 a)).length ≤ 400
      simpa using p2
    · intro p hp
      obtain ⟨q, hq, rfl⟩ := List.mem_map.1 (show p ∈ ps.map (fl1 a) from hp)
      have := p4 q hq
      unfold fl1
      split <;> exact this
  · refine ⟨pmB_iff.2 ⟨?_, ?_, ?_, ?_⟩, hb⟩
    · show (fenW ws ps).length = 336
      rw [fenW_len]; exact p1
    · exact Nat.le_trans (List.length_filter_le _ _) p2
    · exact fenW_word ps ws p3 (fun p hp => (p4 p hp).2)
    · intro p hp
      exact p4 p (List.mem_filter.1 (show p ∈ ps.filter (fun p => !p.fl) from hp)).1
  · refine ⟨h, blkB_iff.2 ⟨b1, ?_, b3, ?_⟩⟩
    · show (qs ++ [(⟨a, x⟩ : Se)]).length ≤ 400
      simp
      omega
    · intro p hp
      rcases List.mem_append.1 (show p ∈ qs ++ [⟨a, x⟩] from hp) with hp | hp
      · exact b4 p hp
      · rw [List.mem_singleton.1 hp]; exact ⟨decide_eq_true ha, decide_eq_true hx⟩
  · refine ⟨h, blkB_iff.2 ⟨?_, Nat.zero_le _, ?_, fun p hp => by cases hp⟩⟩
    · show (layE es qs).length = 32
      rw [layE_len]; exact b1
    · exact layE_word qs es b3 (fun p hp => (b4 p hp).2)
theorem mr_ok : ∀ (l : List Mi) (ws : List Int) (ps : List St) (es : List Int) (qs : List Se), pmB ws ps = true → blkB es qs = true → (∀ m ∈ l, miB m = true) → pmB (mr l ws ps es qs).W (mr l ws ps es qs).P = true ∧ blkB (mr l ws ps es qs).E (mr l ws ps es qs).Q = true
  | [], ws, ps, es, qs, h, hb, _ => ⟨h, hb⟩
  | m :: l, ws, ps, es, qs, h, hb, hm => by
      by_cases c : fullB m ps qs = true
      · simp only [mr, if_pos c]; exact ⟨h, hb⟩
      · simp only [mr, if_neg c]
        obtain ⟨h1, h2⟩ := do_ok h hb (hm m List.mem_cons_self) (by simpa using c)
        exact mr_ok l _ _ _ _ h1 h2 (fun q hq => hm q (List.mem_cons_of_mem _ hq))
theorem mr_next {l : List Mi} {i : Nat} (hi : i < l.length) {ws : List Int} {ps : List St} {es : List Int} {qs : List Se} {W : List Int} {P : List St} {E : List Int} {Q : List Se} (h : mr (l.take i) ws ps es qs = ⟨0, W, P, E, Q⟩) (hf : fullB l[i] P Q = false) :
    mr (l.take (i + 1)) ws ps es qs = ⟨0, doW l[i] W P, doP l[i] P, doE l[i] E Q, doQ l[i] Q⟩ := by
  rw [List.take_succ_eq_append_getElem hi, mr_append, h]
  simp only [if_true, mr_one]
  rw [if_neg (by rw [hf]; simp)]
theorem mr_stop {l : List Mi} {i : Nat} (hi : i < l.length) {ws : List Int} {ps : List St} {es : List Int} {qs : List Se} {W : List Int} {P : List St} {E : List Int} {Q : List Se} (h : mr (l.take i) ws ps es qs = ⟨0, W, P, E, Q⟩) (hf : fullB l[i] P Q = true) :
    mr l ws ps es qs = ⟨7, W, P, E, Q⟩ := by
  have e : l = l.take i ++ l[i] :: l.drop (i + 1) := by rw [List.getElem_cons_drop]; exact (List.take_append_drop i l).symm
  rw [e, mr_append, h]
  simp only [if_true, mr]
  rw [if_pos hf]
theorem mr_end {l : List Mi} {i : Nat} (hi : l.length ≤ i) {ws : List Int} {ps : List St} {es : List Int} {qs : List Se} {W : List Int} {P : List St} {E : List Int} {Q : List Se} (h : mr (l.take i) ws ps es qs = ⟨0, W, P, E, Q⟩) : mr l ws ps es qs = ⟨0, W, P, E, Q⟩ := by
  rw [List.take_of_length_le hi] at h
  exact h
def misB' (l : List Mi) : Bool := decide (∀ k (h : k < l.length), miB l[k] = true)
def ms (l : List Mi) (ws : List Int) (ps : List St) (es : List Int) (qs : List Se) : MR := if 4096 < l.length then ⟨2, [], [], [], []⟩ else if (pmB ws ps && blkB es qs && misB' l) = true then mr l ws ps es qs else ⟨1, [], [], [], []⟩
theorem ms_long {l : List Mi} {ws : List Int} {ps : List St} {es : List Int} {qs : List Se} (h : 4096 < l.length) : ms l ws ps es qs = ⟨2, [], [], [], []⟩ := by unfold ms; rw [if_pos h]
theorem ms_bad {l : List Mi} {ws : List Int} {ps : List St} {es : List Int} {qs : List Se} (h : ¬ 4096 < l.length) (c : (pmB ws ps && blkB es qs && misB' l) = false) : ms l ws ps es qs = ⟨1, [], [], [], []⟩ := by unfold ms; rw [if_neg h, c]; rfl
theorem ms_ok {l : List Mi} {ws : List Int} {ps : List St} {es : List Int} {qs : List Se} (h : ¬ 4096 < l.length) (c : (pmB ws ps && blkB es qs && misB' l) = true) : ms l ws ps es qs = mr l ws ps es qs := by unfold ms; rw [if_neg h, c]; rfl
end Go.Proofs.YtbjalmiheipjjaaDoor
