/- Addresses as bits of a number: mathematics, and by the program. -/
import Derived.Test.YtbjjdkemappelaaGreatDoorZAY
import Derived.Test.YtbjjdkemappelaaGreatDoorPiP
import Derived.Deep.RegionHeld3
import Derived.Deep.LoopGhost
namespace Go.Proofs.YtbjjdkemappelaaGreatDoor
open Go.RowKit
def setM (l : List Int) : Nat := l.foldl (fun m a => m ||| 2 ^ a.toNat) 0
theorem setM_snoc (l : List Int) (a : Int) : setM (l ++ [a]) = setM l ||| 2 ^ a.toNat := by unfold setM; rw [List.foldl_append]; rfl
theorem setM_from : ∀ (l : List Int) (m i : Nat), (∀ a ∈ l, 0 ≤ a) → (l.foldl (fun m a => m ||| 2 ^ a.toNat) m).testBit i = (m.testBit i || hasB l (i : Int))
  | [], m, i, _ => by unfold hasB; simp
  | a :: l, m, i, h => by
    show (l.foldl (fun m a => m ||| 2 ^ a.toNat) (m ||| 2 ^ a.toNat)).testBit i = _
    have h0 := h a List.mem_cons_self
    rw [setM_from l _ i (fun b hb => h b (List.mem_cons_of_mem _ hb)), Nat.testBit_or, Nat.testBit_two_pow, Bool.or_assoc]
    congr 1
    unfold hasB
    rw [List.contains_cons]
    congr 1
    rw [Bool.eq_iff_iff, decide_eq_true_eq, beq_iff_eq]
    omega
theorem setM_bit {l : List Int} (h : ∀ a ∈ l, 0 ≤ a) (i : Nat) : (setM l).testBit i = hasB l (i : Int) := by
  unfold setM
  rw [setM_from l 0 i h, Nat.zero_testBit, Bool.false_or]
theorem setM_to : ∀ (l : List Int) (m : Nat), m < 2 ^ 64 → (∀ a ∈ l, 0 ≤ a ∧ a < 64) → l.foldl (fun m a => m ||| 2 ^ a.toNat) m < 2 ^ 64
  | [], m, hm, _ => hm
  | a :: l, m, hm, h => by
    have h0 := h a List.mem_cons_self
    exact setM_to l _ (Nat.or_lt_two_pow hm (Nat.pow_lt_pow_right (by omega) (by omega))) (fun b hb => h b (List.mem_cons_of_mem _ hb))
theorem setM_lt {l : List Int} (h : ∀ a ∈ l, 0 ≤ a ∧ a < 64) : setM l < 18446744073709551616 := setM_to l 0 (by omega) h
def othM (c x : Nat) : Nat := (2 ^ c - 1) &&& (18446744073709551615 - x)
theorem othM_lt (c x : Nat) : othM c x < 18446744073709551616 := by
  have := Nat.and_le_right (n := 2 ^ c - 1) (m := 18446744073709551615 - x)
  unfold othM
  omega
theorem othM_bit {c x : Nat} (hx : x < 18446744073709551616) (i : Nat) (hi : i < 64) : (othM c x).testBit i = (decide (i < c) && !x.testBit i) := by
  unfold othM
  have e : 18446744073709551615 - x = 2 ^ 64 - (x + 1) := by omega
  rw [Nat.testBit_and, Nat.testBit_two_pow_sub_one, e, Nat.testBit_two_pow_sub_succ (by omega), decide_eq_true hi, Bool.true_and]
theorem ctU_or {p q : Nat → Bool} : ∀ (l : List Nat), (∀ i, p i = true → q i = false) → l.countP (fun i => p i || q i) = l.countP p + l.countP q
  | [], _ => rfl
  | x :: l, h => by
    rw [List.countP_cons, List.countP_cons, List.countP_cons, ctU_or l h]
    have := h x
    cases hp : p x with
    | true => rw [this hp]; simp; omega
    | false => cases q x <;> simp <;> omega
theorem ctU_one (a : Int) (h0 : 0 ≤ a) : ∀ c : Nat, (List.range c).countP (fun i : Nat => a == (i : Int)) = if a < (c : Int) then 1 else 0
  | 0 => by simp; omega
  | c + 1 => by
    rw [List.range_succ, List.countP_append, ctU_one a h0 c, List.countP_singleton]
    by_cases e : a = (c : Int)
    · subst e; simp; omega
    · rw [if_neg (show ¬ (a == (c : Int)) = true by rw [beq_iff_eq]; exact e)]
      by_cases l : a < (c : Int)
      · rw [if_pos l, if_pos (by omega)]
      · rw [if_neg l, if_neg (by omega)]
theorem ctU_has (c : Nat) : ∀ (l : List Int), l.Pairwise (fun x y => x ≠ y) → (∀ a ∈ l, 0 ≤ a ∧ a < (c : Int)) → (List.range c).countP (fun i : Nat => hasB l (i : Int)) = l.length
  | [], _, _ => by unfold hasB; simp
  | a :: l, hp, h => by
    rw [List.pairwise_cons] at hp
    obtain ⟨h0, h1⟩ := h a List.mem_cons_self
    have e : (fun i : Nat => hasB (a :: l) (i : Int)) = fun i : Nat => (a == (i : Int)) || hasB l (i : Int) := by
      funext i
      unfold hasB
      rw [List.contains_cons]
      congr 1
      rw [Bool.eq_iff_iff, beq_iff_eq, beq_iff_eq]
      exact ⟨fun h => h.symm, fun h => h.symm⟩
    rw [e, ctU_or (p := fun i => a == (i : Int)) (q := fun i => hasB l (i : Int)) _ ?_, ctU_one a h0 c, if_pos h1, ctU_has c l hp.2 (fun b hb => h b (List.mem_cons_of_mem _ hb)), List.length_cons]
    · omega
    · intro i hi
      have e2 : a = (i : Int) := by simpa using hi
      subst e2
      cases hh : hasB l (i : Int) with
      | false => rfl
      | true =>
        have m : (i : Int) ∈ l := by unfold hasB at hh; simpa using hh
        exact absurd rfl (hp.1 _ m)
theorem ctU_not {c : Nat} {l : List Int} (hp : l.Pairwise (fun x y => x ≠ y)) (h : ∀ a ∈ l, 0 ≤ a ∧ a < (c : Int)) : (List.range c).countP (fun i : Nat => !hasB l (i : Int)) + l.length = c := by
  have := List.length_eq_countP_add_countP (fun i : Nat => hasB l (i : Int)) (l := List.range c)
  rw [ctU_has c l hp h, List.length_range] at this
  have e : (fun i : Nat => !hasB l (i : Int)) = fun i : Nat => decide ¬ hasB l (i : Int) = true := by funext i; cases hasB l (i : Int) <;> rfl
  rw [e]
  omega
theorem free_count {c : Nat} {l : List Int} (hc : c ≤ 64) (hp : l.Pairwise (fun x y => x ≠ y)) (h : ∀ a ∈ l, 0 ≤ a ∧ a < (c : Int)) : popN 64 (othM c (setM l)) + l.length = c := by
  have hx := setM_lt (l := l) fun a ha => by have := h a ha; omega
  obtain ⟨d, hd⟩ : ∃ d, 64 = c + d := ⟨64 - c, by omega⟩
  have e : ∀ i ∈ List.range 64, (othM c (setM l)).testBit i = (decide (i < c) && !hasB l (i : Int)) := fun i hi => by
    rw [othM_bit hx i (List.mem_range.1 hi), setM_bit (fun a ha => (h a ha).1)]
  rw [popN_count, List.countP_congr (fun i hi => by rw [e i hi]), hd, List.range_add, List.countP_append]
  rw [show ((List.range d).map (c + ·)).countP (fun i => decide (i < c) && !hasB l (i : Int)) = 0 from List.countP_eq_zero.2 (fun i hi => by
    obtain ⟨j, -, rfl⟩ := List.mem_map.1 hi
    rw [decide_eq_false (by omega)]
    simp)]
  rw [show (List.range c).countP (fun i : Nat => decide (i < c) && !hasB l (i : Int)) = (List.range c).countP (fun i : Nat => !hasB l (i : Int)) from List.countP_congr (fun i hi => by rw [decide_eq_true (List.mem_range.1 hi), Bool.true_and])]
  have := ctU_not hp h
  omega
theorem used_ok {ws : List Ino} {ps : List Den} (h : imgB ws ps = true) (t : Int) (c : Nat) (ht : (t = 1 ∧ c = 24) ∨ (t = 2 ∧ c = 32)) : (usedOf (mapped ws) t).Pairwise (fun x y => x ≠ y) ∧ ∀ a ∈ usedOf (mapped ws) t, 0 ≤ a ∧ a < (c : Int) := by
  have o := (img_parts h).2.2.2
  constructor
  · have s : singB ws = true := by
      unfold imgB at h
      simp only [Bool.and_eq_true] at h
      exact h.2.2.2.2.2.2
    unfold singB at s
    rw [Bool.and_eq_true, once_nodup, once_nodup] at s
    rcases ht with ⟨rfl, -⟩ | ⟨rfl, -⟩
    · exact s.1
    · exact s.2
  · intro a ha
    unfold usedOf at ha
    obtain ⟨e, he, rfl⟩ := List.mem_map.1 ha
    obtain ⟨hm, hq⟩ := List.mem_filter.1 he
    have hq : e % 4 = t := by simpa using hq
    unfold mapped at hm
    obtain ⟨x, hx, hs⟩ := List.mem_flatMap.1 hm
    obtain ⟨i, hi, rfl⟩ := List.getElem_of_mem hx
    unfold somes at hs
    have tb := okNs_ties o i hi e (List.mem_filter.1 hs).1
    unfold tieB at tb
    rw [Bool.and_eq_true] at tb
    have := addrB_true tb.2
    rcases ht with ⟨rfl, rfl⟩ | ⟨rfl, rfl⟩ <;> omega
theorem one_set {w : World} {b : Nat} {t : TypeId} {x : Value} (h : w.heap[b]? = some (.cells #[x] t (0, 0))) (y : Value) : (w.setCell ⟨b, 0, none⟩ y).heap[b]? = some (.cells #[y] t (0, 0)) := by simp [World.setCell, Array.getElem?_modify, h]
theorem one_cell {w : World} {b : Nat} {t : TypeId} {x : Value} (h : w.heap[b]? = some (.cells #[x] t (0, 0))) : w.cell? ⟨b, 0, none⟩ = some x := by simp [World.cell?, h]
theorem one_frozen {w : World} {b : Nat} {t : TypeId} {x : Value} (h : w.heap[b]? = some (.cells #[x] t (0, 0))) : w.frozen? ⟨b, 0, none⟩ = false := by simp [World.frozen?, h]
end Go.Proofs.YtbjjdkemappelaaGreatDoor
