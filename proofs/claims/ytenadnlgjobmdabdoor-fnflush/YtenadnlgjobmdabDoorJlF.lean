/- Plans of flushes: no line twice, and all that was stored is sure: mathematics. -/
import Derived.Test.YtenadnlgjobmdabDoorJlN
namespace Go.Proofs.YtenadnlgjobmdabDoor
open Go.RowKit

theorem nl_mem2 (ks : List Int) : ∀ i, ∀ m ∈ nl ks i, ∃ j, j < i ∧ m.at_ = ks[j]?.getD 0
  | 0, m, h => by cases h
  | i + 1, m, h => by
    rw [nl] at h
    split at h
    · obtain ⟨j, hj, e⟩ := nl_mem2 ks i m h; exact ⟨j, by omega, e⟩
    · rcases List.mem_append.1 h with h | h
      · obtain ⟨j, hj, e⟩ := nl_mem2 ks i m h; exact ⟨j, by omega, e⟩
      · rw [List.mem_singleton.1 h]; exact ⟨i, by omega, rfl⟩
theorem nl_pair (ks : List Int) : ∀ i, (nl ks i).Pairwise (fun p q => ¬ p.at_ / 8 = q.at_ / 8)
  | 0 => List.Pairwise.nil
  | i + 1 => by
    rw [nl]
    split
    · exact nl_pair ks i
    · rename_i c
      refine List.pairwise_append.2 ⟨nl_pair ks i, List.pairwise_singleton _ _, fun p hp q hq e => c ?_⟩
      obtain ⟨j, hj, ej⟩ := nl_mem2 ks i p hp
      rw [List.mem_singleton.1 hq] at e
      unfold knownL
      rw [List.any_eq_true]
      exact ⟨j, List.mem_range.2 hj, by rw [← ej]; simpa using e⟩
theorem nl_pos (ks : List Int) (h : 0 < ks.length) : 0 < (nl ks ks.length).length := by
  obtain ⟨m, hm, _⟩ := nl_has ks ks.length 0 h
  exact List.length_pos_of_mem hm
theorem flush_kind {zs : List Int} (h : ∀ z ∈ zs, 0 ≤ z ∧ z < 336) (i : Nat) (hi : i < (flushL zs).length) : ((flushL zs)[i].kind = 2 ∨ (flushL zs)[i].kind = 3) ∧ 0 ≤ (flushL zs)[i].at_ ∧ (flushL zs)[i].at_ < 336 := by
  have hm := List.getElem_mem hi
  generalize (flushL zs)[i] = m at *
  unfold flushL at hm
  rcases List.mem_append.1 hm with hm | hm
  · have e := nl_kind _ _ m hm
    obtain ⟨k, hk, ek⟩ := nl_mem _ _ (Nat.le_refl _) m hm
    rw [List.getElem?_eq_getElem hk, Option.getD_some] at ek
    rw [ek]
    exact ⟨.inl (by rw [e]), h _ (List.getElem_mem hk)⟩
  · rw [List.mem_singleton.1 hm]
    exact ⟨.inr rfl, by show (0 : Int) ≤ 0; omega, by show (0 : Int) < 336; omega⟩
theorem flush_lines (zs : List Int) (i k : Nat) (hi : i < (flushL zs).length) (hk : k < i) : (flushL zs)[i].kind = 2 → (flushL zs)[k].kind = 2 ∧ ¬ (flushL zs)[i].at_ / 8 = (flushL zs)[k].at_ / 8 := by
  intro h2
  have hl : (flushL zs).length = (nl zs zs.length).length + 1 := by simp [flushL]
  by_cases c : i < (nl zs zs.length).length
  · have e1 : (flushL zs)[i] = (nl zs zs.length)[i] := by simp only [flushL]; exact List.getElem_append_left c
    have e2 : (flushL zs)[k] = (nl zs zs.length)[k]'(by omega) := by simp only [flushL]; exact List.getElem_append_left (by omega)
    refine ⟨by rw [e2, nl_kind _ _ _ (List.getElem_mem (show k < (nl zs zs.length).length by omega))], ?_⟩
    rw [e1, e2]
    exact fun e => List.pairwise_iff_getElem.1 (nl_pair zs zs.length) k i (by omega) c hk e.symm
  · exfalso
    have e1 : (flushL zs)[i] = ⟨3, 0, 0⟩ := by
      simp only [flushL]
      rw [List.getElem_append_right (by omega)]
      simp
    rw [e1] at h2
    have h3 : (3 : Int) = 2 := h2
    omega
/-- The stores of the places, one behind the other. -/
def stP (zs : List Int) (k : Nat) : List St := (List.range k).map (fun (i : Nat) => (⟨zs[i]?.getD 0, (i : Int) + 1, false⟩ : St))
theorem stP_len (zs : List Int) (k : Nat) : (stP zs k).length = k := by simp [stP]
theorem stP_succ (zs : List Int) (k : Nat) : stP zs (k + 1) = stP zs k ++ [⟨zs[k]?.getD 0, (k : Int) + 1, false⟩] := by simp [stP, List.range_succ]
theorem stP_ok {zs : List Int} (h : ∀ z ∈ zs, 0 ≤ z ∧ z < 336) (k : Nat) (hk : k ≤ zs.length) (hz : zs.length ≤ 4) : pmB zs336 (stP zs k) = true := by
  obtain ⟨h1, _, h3, _⟩ := pmB_iff.1 zs336_ok
  refine pmB_iff.2 ⟨h1, by rw [stP_len]; omega, h3, fun p hp => ?_⟩
  unfold stP at hp
  obtain ⟨i, hi, rfl⟩ := List.mem_map.1 hp
  have hi' : i < zs.length := by have := List.mem_range.1 hi; omega
  simp only [List.getElem?_eq_getElem hi', Option.getD_some]
  exact ⟨decide_eq_true (h _ (List.getElem_mem hi')), decide_eq_true ⟨by omega, by omega⟩⟩
theorem stP_step {zs : List Int} (h : ∀ z ∈ zs, 0 ≤ z ∧ z < 336) (k : Nat) (hk : k < zs.length) (hz : zs.length ≤ 4) :
    mdC ⟨1, zs[k], (k : Int) + 1⟩ zs336 (stP zs k) zs32 [] = 0 ∧ mdW ⟨1, zs[k], (k : Int) + 1⟩ zs336 (stP zs k) zs32 [] = zs336 ∧ mdP ⟨1, zs[k], (k : Int) + 1⟩ zs336 (stP zs k) zs32 [] = stP zs (k + 1) ∧ mdE ⟨1, zs[k], (k : Int) + 1⟩ zs336 (stP zs k) zs32 [] = zs32 ∧ mdQ ⟨1, zs[k], (k : Int) + 1⟩ zs336 (stP zs k) zs32 [] = [] := by
  have ho := stP_ok h k (by omega) hz
  have hm : miB ⟨1, zs[k], (k : Int) + 1⟩ = true := (miB_of _ _ _).2 (.inl ⟨rfl, h _ (List.getElem_mem hk), by omega, by omega⟩)
  have hf : fullB ⟨1, zs[k], (k : Int) + 1⟩ (stP zs k) [] = false := decide_eq_false (fun h => by rw [stP_len] at h; simp at h; omega)
  rcases md_cases ⟨1, zs[k], (k : Int) + 1⟩ zs336 (stP zs k) zs32 [] with ⟨c, _⟩ | ⟨_, c, _⟩ | ⟨_, _, c, _⟩ | ⟨_, _, _, c0, c1, c2, c3, c4⟩
  · rw [ho, zs32_ok] at c; cases c
  · rw [hm] at c; cases c
  · rw [hf] at c; cases c
  · refine ⟨c0, c1, c2.trans ?_, c3, c4⟩
    rw [stP_succ, List.getElem?_eq_getElem hk]
    rfl
theorem fp_ok {zs : List Int} (h : ∀ z ∈ zs, 0 ≤ z ∧ z < 336) (hz : zs.length ≤ 4) : fpC zs = 0 ∧ fpL zs = flushL zs := by
  rcases fp_cases zs with ⟨c, _⟩ | ⟨_, c, _⟩ | ⟨_, _, c, _⟩ | ⟨_, _, _, c⟩
  · omega
  · omega
  · have : allP zs = true := decide_eq_true (fun k hk => h _ (List.getElem_mem hk))
    rw [this] at c; cases c
  · exact c
/-- The flushes behind the stores: all is sure. -/
theorem flush_done {zs : List Int} (h : ∀ z ∈ zs, 0 ≤ z ∧ z < 336) (hz : zs.length ≤ 4) : ∃ F, ms (flushL zs) zs336 (stP zs zs.length) zs32 [] = ⟨0, F, [], zs32, []⟩ ∧ pmB F [] = true := by
  have ho := stP_ok h zs.length (Nat.le_refl _) hz
  have hl := flushL_len zs
  have hm : ∀ m ∈ flushL zs, StOK m := by
    have := ok_seg (S := zs.map (fun z => (⟨z, 0, false⟩ : St))) (fun p hp => by obtain ⟨z, hz, rfl⟩ := List.mem_map.1 hp; exact ⟨h z hz, by show (0 : Int) ≤ 0; omega, by show (0 : Int) < _; omega⟩)
    intro m hm
    refine this m ?_
    unfold seg
    refine List.mem_append_right _ ?_
    have e : (zs.map (fun z => (⟨z, 0, false⟩ : St))).map (·.at_) = zs := by
      rw [List.map_map]
      exact List.map_id'' (fun _ => rfl) zs
    rw [e]
    exact hm
  have hr : runM (zs336, stP zs zs.length) (flushL zs) = (layW zs336 (stP zs zs.length), []) := by
    have e := seg_run (stP zs zs.length) zs336
    unfold seg at e
    rw [runM_append, run_stores] at e
    have e1 : ((zs336, ([] : List St)).1, (zs336, ([] : List St)).2 ++ (stP zs zs.length).map (fun p => (⟨p.at_, p.val, false⟩ : St))) = (zs336, stP zs zs.length) := by
      unfold stP
      rw [List.map_map]
      rfl
    have e2 : (stP zs zs.length).map (·.at_) = zs := by
      apply List.ext_getElem?
      intro i
      by_cases hi : i < zs.length
      · simp [stP, hi]
      · rw [List.getElem?_eq_none (by simp [stP]; omega), List.getElem?_eq_none (by omega)]
    rw [e1, e2] at e
    exact e
  have hms : misB' (flushL zs) = true := decide_eq_true (fun k hk => (hm _ (List.getElem_mem hk)).1)
  refine ⟨layW zs336 (stP zs zs.length), ?_, ?_⟩
  · rw [ms_ok (by omega) (by rw [ho, zs32_ok, hms]; rfl), mr_run _ _ _ _ _ (fun m h => (hm m h).2) (by rw [stP_len]; omega), hr]
  · have := (mr_ok (flushL zs) zs336 (stP zs zs.length) zs32 [] ho zs32_ok (fun m h => (hm m h).1)).1
    rw [mr_run _ _ _ _ _ (fun m h => (hm m h).2) (by rw [stP_len]; omega), hr] at this
    exact this
end Go.Proofs.YtenadnlgjobmdabDoor
