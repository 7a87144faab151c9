/- Operations are read back from their texts: mathematics. -/
import Derived.Test.YtjkdmhdehihcbaaGreatDoorRoN
import Derived.Test.YtjkdmhdehihcbaaGreatDoorOtC
namespace Go.Proofs.YtjkdmhdehihcbaaGreatDoor
open Go.RowKit
def noB (s : ByteArray) : Prop := s.data.toList ≠ [] ∧ ∀ c ∈ s.data.toList, c ≠ 32
theorem wdG_word {x : List UInt8} (h0 : x ≠ []) (h : ∀ c ∈ x, c ≠ 32) (rest : List UInt8) : wdG [] (x ++ 32 :: rest) = x :: wdG [] rest := by
  rw [wdG_many x [] (32 :: rest) h, List.nil_append, wdG_cons, if_pos rfl, if_neg h0]
theorem wdG_last {x : List UInt8} (h0 : x ≠ []) (h : ∀ c ∈ x, c ≠ 32) : wdG [] x = [x] := by
  have := wdG_many x [] [] h
  rw [List.append_nil, List.nil_append] at this
  rw [this]
  show (if x = [] then [] else [x]) = [x]
  rw [if_neg h0]
theorem wdG_join : ∀ (r : List (List UInt8)) (x : List UInt8), (∀ y ∈ x :: r, y ≠ [] ∧ ∀ c ∈ y, c ≠ 32) → wdG [] (x ++ Lib.joinTail [32] r) = x :: r
  | [], x, h => by
    obtain ⟨a, b⟩ := h x (by simp)
    simp only [Lib.joinTail, List.map_nil, List.flatten_nil, List.append_nil]
    exact wdG_last a b
  | y :: r, x, h => by
    obtain ⟨a, b⟩ := h x (by simp)
    have e : Lib.joinTail [32] (y :: r) = 32 :: (y ++ Lib.joinTail [32] r) := by simp [Lib.joinTail]
    rw [e, wdG_word a b, wdG_join r y (fun z hz => h z (List.mem_cons_of_mem _ hz))]
theorem wds_join (x : ByteArray) (r : List ByteArray) (h : ∀ y ∈ x :: r, noB y) : wds (joinB (x :: r)) = x :: r := by
  unfold wds joinB
  rw [List.map_cons, Lib.join_cons]
  show (wdG [] (x.data.toList ++ Lib.joinTail [32] (r.map (·.data.toList)))).map mkB = _
  rw [wdG_join _ _ (fun y hy => by
    rcases List.mem_cons.1 hy with rfl | hy
    · exact h x (by simp)
    · obtain ⟨z, hz, rfl⟩ := List.mem_map.1 hy
      exact h z (List.mem_cons_of_mem _ hz))]
  rw [List.map_cons, mkB_of, List.map_map]
  congr 1
  rw [show (mkB ∘ fun s : ByteArray => s.data.toList) = id from funext fun s => mkB_of s, List.map_id]
theorem cutG_in : ∀ (l cur : List UInt8) (c : UInt8), c ∈ l → c = 47 ∨ ∃ x ∈ cutG cur l, c ∈ x
  | [], _, c, h => by cases h
  | d :: l, cur, c, h => by
    rw [cutG_cons]
    rcases List.mem_cons.1 h with rfl | h
    · by_cases e : c = 47
      · exact .inl e
      · rw [if_neg e]
        have key : ∀ (l cur : List UInt8), c ∈ cur → ∃ x ∈ cutG cur l, c ∈ x := by
          intro l
          induction l with
          | nil => intro cur hc; exact ⟨cur, by rw [cutG_nil]; simp, hc⟩
          | cons d l ih =>
            intro cur hc
            rw [cutG_cons]
            split
            · exact ⟨cur, by simp, hc⟩
            · exact ih _ (by simp [hc])
        exact .inr (key l _ (by simp))
    · by_cases e : d = 47
      · rw [if_pos e]
        rcases cutG_in l [] c h with q | ⟨x, hx, hc⟩
        · exact .inl q
        · exact .inr ⟨x, List.mem_cons_of_mem _ hx, hc⟩
      · rw [if_neg e]
        exact cutG_in l _ c h
theorem toL_nil {s : ByteArray} (h : s.toList = []) : s.data.toList = [] := by rw [ByteArray.toList_eq] at h; exact h
theorem path_noB {p : ByteArray} (h : (spC p == 0) = true) : noB p := by
  have h0 : spC p = 0 := beq_iff_eq.1 h
  have hs : spB p = true := by
    unfold spC at h0
    split at h0
    · cases h0
    · split at h0
      · assumption
      · cases h0
  unfold spB at hs
  rw [Bool.or_eq_true] at hs
  rcases hs with hs | hs
  · have e : p.data.toList = [47] := by
      have := beq_iff_eq.1 hs
      rw [ByteArray.toList_eq] at this
      exact this
    refine ⟨by rw [e]; decide, fun c hc => ?_⟩
    rw [e] at hc
    simp at hc
    rw [hc]
    decide
  · unfold spN at hs
    simp only [Bool.and_eq_true, decide_eq_true_eq] at hs
    obtain ⟨⟨l2, -⟩, he, ha⟩ := hs
    have hp : pcs p = (cutG [] p.data.toList).map mkB := rfl
    refine ⟨fun e => ?_, fun c hc => ?_⟩
    · rw [hp, e, cutG_nil] at l2
      simp at l2
    · rcases cutG_in p.data.toList [] c hc with rfl | ⟨x, hx, hcx⟩
      · decide
      · obtain ⟨j, hj, rfl⟩ := List.getElem_of_mem hx
        have hj2 : j < (pcs p).length := by rw [hp, List.length_map]; exact hj
        have ej : (pcs p)[j] = mkB (cutG [] p.data.toList)[j] := by simp only [hp, List.getElem_map]
        rcases Nat.eq_zero_or_pos j with z | z
        · subst z
          have : ((pcs p).getD 0 ⟨#[]⟩) = (pcs p)[0] := by simp [List.getD, hj2]
          rw [this, ej, List.isEmpty_iff] at he
          have := toL_nil he
          rw [mkB_data] at this
          rw [this] at hcx
          cases hcx
        · have hm : (pcs p)[j] ∈ (pcs p).drop 1 := by
            rw [List.mem_iff_getElem]
            exact ⟨j - 1, by rw [List.length_drop]; omega, by rw [List.getElem_drop]; congr 1; omega⟩
          have nb := nmB_true (List.all_eq_true.1 ha _ hm)
          rw [ej] at nb
          have hc2 : c ∈ (mkB (cutG [] p.data.toList)[j]).data.toList := by rw [mkB_data]; exact hcx
          obtain ⟨i, hi, rfl⟩ := List.getElem_of_mem hc2
          have hi2 : i < (mkB (cutG [] p.data.toList)[j]).size := by rw [Lib.size_eq]; exact hi
          have q := nb.2.2 i hi2
          intro e32
          have eb : (mkB (cutG [] p.data.toList)[j])[i] = (mkB (cutG [] p.data.toList)[j]).data.toList[i] := (byte_at _ i hi2).symm
          rw [eb, e32] at q
          have : (32 : UInt8).toNat = 32 := rfl
          omega
theorem it_noB (n : Nat) : noB (itT (n : Int)) := by
  obtain ⟨a, b, -⟩ := dec_digits n n (Nat.lt_pow_self (by omega))
  rw [it_nat]
  refine ⟨by simpa [dgT] using b, fun c hc e => ?_⟩
  have hc' : c ∈ Lib.decDigits n := by simpa [dgT] using hc
  obtain ⟨j, hj, rfl⟩ := List.getElem_of_mem hc'
  obtain ⟨d, hd⟩ := Lib.digit_of_decFrom _ _ _ a j _ (List.getElem?_eq_getElem hj)
  obtain ⟨p, q, -⟩ := Lib.digitVal_eq hd
  rw [e] at p
  have : (32 : UInt8).toNat = 32 := rfl
  omega
theorem kw_noB {k : Nat} (h1 : 1 ≤ k) (h2 : k ≤ 10) : noB (kwT k) := by
  rcases (show k = 1 ∨ k = 2 ∨ k = 3 ∨ k = 4 ∨ k = 5 ∨ k = 6 ∨ k = 7 ∨ k = 8 ∨ k = 9 ∨ k = 10 by omega) with rfl | rfl | rfl | rfl | rfl | rfl | rfl | rfl | rfl | rfl <;> exact ⟨by decide, by decide⟩
theorem it_le {n : Nat} {m : Nat} (h : n < 10 ^ m) : (itT (n : Int)).size ≤ m + 1 := by rw [it_nat]; exact dg_len m n h
theorem op_words {k : Nat} {p t : ByteArray} {g x : Int} (h : otB k p t g x = true) : (1 ≤ k ∧ k ≤ 10) ∧ (∀ y ∈ opW k p t g x, noB y) ∧ HeS (fdsOf k) (opW k p t g x) (fdsOf k).length p t g x := by
  have h' := h
  unfold otB at h'
  rw [Bool.and_eq_true] at h'
  obtain ⟨ho, hf⟩ := h'
  rw [Int.toNat_natCast] at hf
  have q := opB_iff.1 ho
  have hk : 1 ≤ k ∧ k ≤ 10 := by omega
  have hf' := List.all_eq_true.1 hf
  have hp : 0 ∈ fdsOf k → (spC p == 0) = true := fun m => by have := hf' 0 m; simpa [fdB] using this
  have ht : 3 ∈ fdsOf k → (spC t == 0) = true := fun m => by have := hf' 3 m; simpa [fdB] using this
  have hg : 1 ∈ fdsOf k → 0 ≤ g ∧ g < 1001 := fun m => by have := hf' 1 m; simpa [fdB] using this
  have hx : 2 ∈ fdsOf k → 0 ≤ x ∧ x < 1099511627776 := fun m => by have := hf' 2 m; exact wordB_true (by simpa [fdB] using this)
  have f3 := fds_le k
  have w0 : ∀ j (hj : j < (fdsOf k).length), wa (opW k p t g x) (j + 1) = fdT p t g x (fdsOf k)[j] := fun j hj => by
    simp [wa, opW, List.getD, hj]
  refine ⟨hk, fun y hy => ?_, fun j hj _ => ?_, fun no => ?_, fun no => ?_, fun no => ?_, ?_, ?_⟩
  · unfold opW at hy
    rcases List.mem_cons.1 hy with rfl | hy
    · exact kw_noB hk.1 hk.2
    · obtain ⟨f, hm, rfl⟩ := List.mem_map.1 hy
      rcases (show f = 0 ∨ f = 1 ∨ f = 2 ∨ f = 3 by have := f3 f hm; omega) with rfl | rfl | rfl | rfl
      · exact path_noB (hp hm)
      · obtain ⟨n, rfl⟩ : ∃ n : Nat, g = (n : Int) := ⟨g.toNat, by have := hg hm; omega⟩
        exact it_noB n
      · obtain ⟨n, rfl⟩ : ∃ n : Nat, x = (n : Int) := ⟨x.toNat, by have := hx hm; omega⟩
        exact it_noB n
      · exact path_noB (ht hm)
  · have hm := List.getElem_mem hj
    rw [w0 j hj]
    refine ⟨fun e => by rw [e]; rfl, fun e => by rw [e]; rfl, fun e => ?_, fun e => ?_⟩
    · rw [e] at hm ⊢
      obtain ⟨n, rfl⟩ : ∃ n : Nat, g = (n : Int) := ⟨g.toNat, by have := hg hm; omega⟩
      have := it_le (n := n) (m := 4) (by have := hg hm; omega)
      exact .inl ⟨n, numP_it.2 ⟨rfl, by show (itT (n : Int)).size ≤ 18; omega⟩, rfl, rfl⟩
    · rw [e] at hm ⊢
      obtain ⟨n, rfl⟩ : ∃ n : Nat, x = (n : Int) := ⟨x.toNat, by have := hx hm; omega⟩
      have := it_le (n := n) (m := 13) (by have := hx hm; omega)
      exact .inl ⟨n, numP_it.2 ⟨rfl, by show (itT (n : Int)).size ≤ 18; omega⟩, rfl, rfl⟩
  · have hk4 : ¬ (k = 4 ∨ k = 5) := fun c => by
      rw [fds_link c] at no
      exact no 1 (by decide) (by decide) rfl
    have hs0 : t.size = 0 := by omega
    apply ByteArray.ext
    apply Array.toList_inj.1
    have := Lib.size_eq t
    exact List.length_eq_zero_iff.1 (by omega)
  · rcases Classical.em (k = 6) with c | c
    · rw [fds_write c] at no
      exact absurd rfl (no 1 (by decide) (by decide))
    · rcases Classical.em (k = 7 ∨ k = 8) with c2 | c2
      · rw [fds_page c2] at no
        exact absurd rfl (no 1 (by decide) (by decide))
      · omega
  · rcases Classical.em (k = 6) with c | c
    · rw [fds_write c] at no
      exact absurd rfl (no 2 (by decide) (by decide))
    · omega
  · rcases Classical.em (6 ≤ k ∧ k ≤ 8) with c | c
    · have : 1 ∈ fdsOf k := by
        rcases (show k = 6 ∨ (k = 7 ∨ k = 8) by omega) with c | c
        · rw [fds_write c]; decide
        · rw [fds_page c]; decide
      have := hg this
      exact ⟨by omega, by omega⟩
    · have : g = 0 := by omega
      subst this
      exact ⟨by decide, by decide⟩
  · rcases Classical.em (k = 6) with c | c
    · have : 2 ∈ fdsOf k := by rw [fds_write c]; decide
      have := hx this
      exact ⟨by omega, by omega⟩
    · have : x = 0 := by omega
      subst this
      exact ⟨by decide, by decide⟩
theorem op_read {k : Nat} {p t : ByteArray} {g x : Int} (h : otB k p t g x = true) : ∃ g' x' : Nat, rdW (wds (joinB (opW k p t g x))) = some (k, p, t, g', x') ∧ g = g' ∧ x = x' := by
  obtain ⟨hk, hn, he⟩ := op_words h
  have ew : wds (joinB (opW k p t g x)) = opW k p t g x := wds_join _ _ hn
  rw [ew]
  have q := he_all hk.1 (show kdOf (wa (opW k p t g x) 0) = k from kd_of k (by omega)) (by simp [opW]) he
  obtain ⟨n, g', x', a, b, c, d⟩ := q.1 rfl h
  obtain rfl : n = k := by omega
  exact ⟨g', x', a, c, d⟩
theorem op_more {k : Nat} {p t : ByteArray} {g x : Int} (h : otB k p t g x = true) : rdW (wds (joinB (opW k p t g x) ++ ⟨#[32, 120]⟩)) = none := by
  obtain ⟨hk, hn, -⟩ := op_words h
  have ej : joinB (opW k p t g x) ++ (⟨#[32, 120]⟩ : ByteArray) = joinB (kwT k :: ((fdsOf k).map (fdT p t g x) ++ [⟨#[120]⟩])) := by
    unfold opW joinB
    rw [List.map_cons, List.map_cons, Lib.join_cons, Lib.join_cons]
    apply ByteArray.ext
    apply Array.toList_inj.1
    simp [Lib.joinTail]
  have ew : wds (joinB (kwT k :: ((fdsOf k).map (fdT p t g x) ++ [⟨#[120]⟩]))) = kwT k :: ((fdsOf k).map (fdT p t g x) ++ [⟨#[120]⟩]) := wds_join _ _ (fun y hy => by
    rcases List.mem_cons.1 hy with rfl | hy
    · exact kw_noB hk.1 hk.2
    · rcases List.mem_append.1 hy with hy | hy
      · exact hn y (by unfold opW; exact List.mem_cons_of_mem _ hy)
      · rw [List.mem_singleton.1 hy]
        exact ⟨by decide, by decide⟩)
  rw [ej, ew]
  exact he_len hk.1 (show kdOf _ = k from kd_of k (by omega)) (by simp)
end Go.Proofs.YtjkdmhdehihcbaaGreatDoor
