/- Steps of the memory, one behind the other; which steps are right: mathematics. -/
import Derived.Test.YtbjalmiheipjjaaDoorJiM
import Derived.Test.YtbjalmiheipjjaaDoorJrM
namespace Go.Proofs.YtbjalmiheipjjaaDoor
open Go.RowKit
theorem mr_run : ∀ (l : List Mi) (ws : List Int) (ps : List St) (es : List Int) (qs : List Se), (∀ m ∈ l, m.kind = 1 ∨ m.kind = 2 ∨ m.kind = 3) → ps.length + l.length ≤ 400 → mr l ws ps es qs = ⟨0, (runM (ws, ps) l).1, (runM (ws, ps) l).2, es, qs⟩
  | [], ws, ps, es, qs, _, _ => rfl
  | m :: l, ws, ps, es, qs, hk, hl => by
      have h1 := hk m List.mem_cons_self
      simp only [List.length_cons] at hl
      have hf : fullB m ps qs = false := decide_eq_false (fun h => by omega)
      have e : step1 (ws, ps) m = (doW m ws ps, doP m ps) := by
        unfold step1 doW doP
        rcases h1 with h | h | h
        · rw [if_pos h, if_pos h, if_neg (by omega)]
        · rw [if_neg (by omega), if_pos h, if_neg (by omega), if_neg (by omega), if_pos h]
        · rw [if_neg (by omega), if_neg (by omega), if_pos h, if_pos h, if_neg (by omega), if_neg (by omega), if_pos h]
      have e2 : doE m es qs = es ∧ doQ m qs = qs := by
        unfold doE doQ
        exact ⟨if_neg (by omega), by rw [if_neg (by omega), if_neg (by omega)]⟩
      have hp : (doP m ps).length ≤ ps.length + 1 := by
        unfold doP
        split
        · simp
        · split
          · simp
          · split
            · exact Nat.le_trans (List.length_filter_le _ _) (by omega)
            · omega
      rw [runM_cons, e]
      simp only [mr, hf, e2.1, e2.2]
      exact mr_run l _ _ _ _ (fun q hq => hk q (List.mem_cons_of_mem _ hq)) (by omega)
def StOK (m : Mi) : Prop := miB m = true ∧ (m.kind = 1 ∨ m.kind = 2 ∨ m.kind = 3)
theorem nl_mem (ks : List Int) : ∀ i, i ≤ ks.length → ∀ m ∈ nl ks i, ∃ k, k < ks.length ∧ m.at_ = ks[k]?.getD 0
  | 0, _, m, h => by cases h
  | i + 1, hi, m, h => by
    rw [nl] at h
    split at h
    · exact nl_mem ks i (by omega) m h
    · rcases List.mem_append.1 h with h | h
      · exact nl_mem ks i (by omega) m h
      · rw [List.mem_singleton.1 h]; exact ⟨i, by omega, rfl⟩
theorem ok_seg {S : List St} (h : ∀ p ∈ S, (0 ≤ p.at_ ∧ p.at_ < 336) ∧ 0 ≤ p.val ∧ p.val < 1099511627776) : ∀ m ∈ seg S, StOK m := by
  intro m hm
  unfold seg flushL at hm
  rcases List.mem_append.1 hm with hm | hm
  · obtain ⟨p, hp, rfl⟩ := List.mem_map.1 hm
    have := h p hp
    exact ⟨(miB_of 1 p.at_ p.val).2 (.inl ⟨rfl, this⟩), .inl rfl⟩
  · rcases List.mem_append.1 hm with hm | hm
    · have e := nl_kind _ _ m hm
      obtain ⟨k, hk, ek⟩ := nl_mem _ _ (Nat.le_refl _) m hm
      have : ∃ p ∈ S, m.at_ = p.at_ := by
        rw [List.length_map] at hk
        exact ⟨S[k], List.getElem_mem hk, by rw [ek, List.getElem?_map, List.getElem?_eq_getElem hk]; rfl⟩
      obtain ⟨p, hp, ep⟩ := this
      rw [e]
      have := h p hp
      exact ⟨(miB_of 2 m.at_ 0).2 (.inr (.inl ⟨rfl, by rw [ep]; exact this.1, rfl⟩)), .inr (.inl rfl)⟩
    · rw [List.mem_singleton.1 hm]
      exact ⟨(miB_of 3 0 0).2 (.inr (.inr (.inr ⟨.inl rfl, rfl, rfl⟩))), .inr (.inr rfl)⟩
theorem jrn_val : ∀ (us : List St) (i : Nat), (∀ p ∈ us, (48 ≤ p.at_ ∧ p.at_ < 336) ∧ 0 ≤ p.val ∧ p.val < 1099511627776) → ∀ p ∈ jrn i us, 0 ≤ p.val ∧ p.val < 1099511627776
  | [], _, _, p, h => by cases h
  | u :: us, i, hu, p, h => by
    rw [jrn] at h
    have h0 := hu u List.mem_cons_self
    rcases List.mem_cons.1 h with rfl | h
    · exact ⟨by show 0 ≤ u.at_; omega, by show u.at_ < _; omega⟩
    · rcases List.mem_cons.1 h with rfl | h
      · exact ⟨by show 0 ≤ u.val; omega, by show u.val < _; omega⟩
      · exact jrn_val us (i + 1) (fun q hq => hu q (List.mem_cons_of_mem _ hq)) p h
theorem cnt_ok (n : Int) (h : 0 ≤ n ∧ n < 1099511627776) : ∀ p ∈ cnt n, (0 ≤ p.at_ ∧ p.at_ < 336) ∧ 0 ≤ p.val ∧ p.val < 1099511627776 := by
  intro p hp
  rw [List.mem_singleton.1 hp]
  exact ⟨⟨by show (0 : Int) ≤ 8; omega, by show (8 : Int) < 336; omega⟩, h⟩
end Go.Proofs.YtbjalmiheipjjaaDoor
