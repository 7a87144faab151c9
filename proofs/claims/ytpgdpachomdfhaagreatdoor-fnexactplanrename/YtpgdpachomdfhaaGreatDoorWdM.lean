/- Numbers base 27: the digits of a number, and the number of digits; names and their numbers: mathematics. -/
import Derived.WalkKit
namespace Go.Proofs.YtpgdpachomdfhaaGreatDoor

/-- The digits of a number base 27, the first one first. -/
def digs (n : Nat) : List Nat := if _h : n = 0 then [] else digs (n / 27) ++ [n % 27]
termination_by n
decreasing_by omega
theorem digs_zero : digs 0 = [] := by rw [digs]; simp
theorem digs_pos {n : Nat} (h : 0 < n) : digs n = digs (n / 27) ++ [n % 27] := by rw [digs]; simp [show n ≠ 0 by omega]

def val (ds : List Nat) : Nat := ds.foldl (fun a d => 27 * a + d) 0
theorem val_snoc (ds : List Nat) (d : Nat) : val (ds ++ [d]) = 27 * val ds + d := by simp [val]
theorem val_digs (n : Nat) : val (digs n) = n := by
  induction n using Nat.strongRecOn with
  | ind n ih =>
    by_cases h : n = 0
    · subst h; rw [digs_zero]; rfl
    · rw [digs_pos (by omega), val_snoc, ih (n / 27) (by omega)]; omega
theorem digs_lt (n : Nat) : ∀ d ∈ digs n, d < 27 := by
  induction n using Nat.strongRecOn with
  | ind n ih =>
    by_cases h : n = 0
    · subst h; rw [digs_zero]; simp
    · rw [digs_pos (by omega)]
      intro d hd
      rw [List.mem_append] at hd
      rcases hd with hd | hd
      · exact ih (n / 27) (by omega) d hd
      · simp at hd; omega
theorem digs_ne {n : Nat} (h : 0 < n) : 1 ≤ (digs n).length := by rw [digs_pos h]; simp
theorem snoc_ind {α : Type} {P : List α → Prop} (h0 : P []) (h1 : ∀ l x, P l → P (l ++ [x])) : ∀ l, P l := by
  intro l
  have : ∀ n (l : List α), l.length = n → P l := by
    intro n
    induction n with
    | zero => intro l hl; rw [List.length_eq_zero_iff.1 hl]; exact h0
    | succ n ih =>
      intro l hl
      have hne : l ≠ [] := by intro h; subst h; simp at hl
      rw [← List.dropLast_concat_getLast hne]
      exact h1 _ _ (ih _ (by simp [hl]))
  exact this _ l rfl
theorem val_pos {ds : List Nat} (h : ∀ d ∈ ds, 1 ≤ d ∧ d < 27) (hn : ds ≠ []) : 0 < val ds := by
  rw [← List.dropLast_concat_getLast hn, val_snoc]
  have := (h _ (List.getLast_mem hn)).1
  omega
theorem digs_val (ds : List Nat) : (∀ d ∈ ds, 1 ≤ d ∧ d < 27) → digs (val ds) = ds := by
  refine snoc_ind (P := fun ds => (∀ d ∈ ds, 1 ≤ d ∧ d < 27) → digs (val ds) = ds) (fun _ => digs_zero) (fun l x ih h => ?_) ds
  have hx := h x (by simp)
  rw [val_snoc, digs_pos (by omega), show (27 * val l + x) / 27 = val l by omega, show (27 * val l + x) % 27 = x by omega, ih (fun d hd => h d (by simp [hd]))]
theorem val_lt (ds : List Nat) : (∀ d ∈ ds, d < 27) → val ds < 27 ^ ds.length := by
  refine snoc_ind (P := fun ds => (∀ d ∈ ds, d < 27) → val ds < 27 ^ ds.length) (fun _ => by simp [val]) (fun l x ih h => ?_) ds
  have hx := h x (by simp)
  have := ih (fun d hd => h d (by simp [hd]))
  rw [val_snoc, List.length_append, List.length_singleton, Nat.pow_succ]
  omega
theorem digs_len (k : Nat) : ∀ n, n < 27 ^ k → (digs n).length ≤ k := by
  induction k with
  | zero => intro n h; have : n = 0 := by simpa using h
            subst this; rw [digs_zero]; simp
  | succ k ih =>
    intro n h
    by_cases h0 : n = 0
    · subst h0; rw [digs_zero]; simp
    · rw [digs_pos (by omega), List.length_append, List.length_singleton]
      have := ih (n / 27) (by rw [Nat.pow_succ] at h; omega)
      omega
/-- In the midst of reading digits: m is left, ds are read. -/
structure Dg (n m : Nat) (ds : List Nat) : Prop where
  eq : digs n = digs m ++ ds
  ok : ∀ d ∈ ds, 1 ≤ d ∧ d < 27
theorem Dg.start (n : Nat) : Dg n n [] := ⟨by simp, fun d h => by cases h⟩
theorem Dg.step {n m : Nat} {ds : List Nat} (h : Dg n m ds) (hm : 0 < m) (h1 : m % 27 ≠ 0) : Dg n (m / 27) (m % 27 :: ds) :=
  ⟨by rw [h.eq, digs_pos hm]; simp, fun d hd => by
    rcases List.mem_cons.1 hd with rfl | hd
    · omega
    · exact h.ok d hd⟩
theorem Dg.zero {n m : Nat} {ds : List Nat} (h : Dg n m ds) (hm : 0 < m) (h0 : m % 27 = 0) : ¬ ∀ d ∈ digs n, 1 ≤ d := fun x => by
  have := x (m % 27) (by rw [h.eq, digs_pos hm]; simp)
  omega
theorem Dg.many {n m : Nat} {ds : List Nat} (h : Dg n m ds) (hm : 0 < m) : ds.length < (digs n).length := by
  rw [h.eq, digs_pos hm]; simp; omega
theorem Dg.len {n m : Nat} {ds : List Nat} (h : Dg n m ds) : ds.length ≤ (digs n).length := by rw [h.eq]; simp
theorem Dg.done {n : Nat} {ds : List Nat} (h : Dg n 0 ds) : digs n = ds := by rw [h.eq, digs_zero]; simp

/-- A short name: one to six letters. -/
def letB (b : Nat) : Bool := decide (97 ≤ b ∧ b ≤ 122)
def nmB (s : ByteArray) : Bool := decide (1 ≤ s.size ∧ s.size ≤ 6 ∧ ∀ j (h : j < s.size), 97 ≤ s[j].toNat ∧ s[j].toNat ≤ 122)
theorem nmB_short {s : ByteArray} (h : s.size < 1) : nmB s = false := decide_eq_false (fun x => by omega)
theorem nmB_long {s : ByteArray} (h : 6 < s.size) : nmB s = false := decide_eq_false (fun x => by omega)
theorem nmB_other {s : ByteArray} {k : Nat} (h : k < s.size) (hb : ¬ (97 ≤ s[k].toNat ∧ s[k].toNat ≤ 122)) : nmB s = false := decide_eq_false (fun x => hb (x.2.2 k h))
theorem nmB_all {s : ByteArray} (h0 : 1 ≤ s.size) (h6 : s.size ≤ 6) (h : ∀ j (h : j < s.size), 97 ≤ s[j].toNat ∧ s[j].toNat ≤ 122) : nmB s = true := decide_eq_true ⟨h0, h6, h⟩
theorem nmB_true {s : ByteArray} (h : nmB s = true) : 1 ≤ s.size ∧ s.size ≤ 6 ∧ ∀ j (h : j < s.size), 97 ≤ s[j].toNat ∧ s[j].toNat ≤ 122 := of_decide_eq_true h

/-- The number of the first k bytes. -/
def letD (b : UInt8) : Nat := b.toNat - 96
def ltrs (s : ByteArray) : List Nat := s.data.toList.map letD
def pk (s : ByteArray) (k : Nat) : Nat := val ((ltrs s).take k)
theorem ltrs_len (s : ByteArray) : (ltrs s).length = s.size := by unfold ltrs; rw [List.length_map, Array.length_toList]; rfl
theorem ltrs_at (s : ByteArray) (j : Nat) (h : j < s.size) : (ltrs s)[j]'(by rw [ltrs_len]; exact h) = s[j].toNat - 96 := by
  simp only [ltrs, List.getElem_map, letD, Array.getElem_toList]
  rfl
theorem pk_zero (s : ByteArray) : pk s 0 = 0 := by simp [pk, val]
theorem pk_succ (s : ByteArray) (k : Nat) (h : k < s.size) : pk s (k + 1) = 27 * pk s k + (s[k].toNat - 96) := by
  unfold pk
  rw [List.take_succ_eq_append_getElem (by rw [ltrs_len]; exact h), val_snoc, ltrs_at s k h]
theorem ltrs_ok {s : ByteArray} (h : nmB s = true) : ∀ d ∈ ltrs s, 1 ≤ d ∧ d < 27 := by
  intro d hd
  obtain ⟨i, hi, rfl⟩ := List.getElem_of_mem hd
  rw [ltrs_len] at hi
  rw [ltrs_at s i hi]
  have := (nmB_true h).2.2 i hi
  omega
theorem pk_all {s : ByteArray} : pk s s.size = val (ltrs s) := by unfold pk; rw [← ltrs_len, List.take_length]
theorem pk_lt {s : ByteArray} {k : Nat} (hl : ∀ j (h : j < s.size), j < k → 97 ≤ s[j].toNat ∧ s[j].toNat ≤ 122) (h6 : k ≤ 6) : pk s k < 387420489 := by
  have h1 : pk s k < 27 ^ ((ltrs s).take k).length := by
    unfold pk
    apply val_lt
    intro d hd
    obtain ⟨i, hi, rfl⟩ := List.getElem_of_mem hd
    simp only [List.length_take, ltrs_len] at hi
    rw [List.getElem_take, ltrs_at s i (by omega)]
    have := hl i (by omega) (by omega)
    omega
  have h2 : ((ltrs s).take k).length ≤ 6 := by simp only [List.length_take]; omega
  have h3 : 27 ^ ((ltrs s).take k).length ≤ 27 ^ 6 := Nat.pow_le_pow_right (by omega) h2
  omega

/-- The bytes of digits. -/
def bytesOf (ds : List Nat) : ByteArray := ⟨(ds.map fun d => UInt8.ofNat (96 + d)).toArray⟩
theorem bytesOf_size (ds : List Nat) : (bytesOf ds).size = ds.length := by simp [bytesOf, ByteArray.size]
theorem bytesOf_at (ds : List Nat) (j : Nat) (h : j < (bytesOf ds).size) (hd : ∀ d ∈ ds, d < 27) : (bytesOf ds)[j].toNat = 96 + ds[j]'(by rw [bytesOf_size] at h; exact h) := by
  have hj : j < ds.length := by rw [bytesOf_size] at h; exact h
  have := hd _ (List.getElem_mem hj)
  have e : (bytesOf ds)[j] = UInt8.ofNat (96 + ds[j]) := by
    have e1 : (bytesOf ds)[j] = ((ds.map fun d => UInt8.ofNat (96 + d)).toArray)[j]'(by simpa using hj) := rfl
    rw [e1, List.getElem_toArray, List.getElem_map]
  rw [e, UInt8.toNat_ofNat']
  omega
theorem ltrs_bytesOf (ds : List Nat) (hd : ∀ d ∈ ds, d < 27) : ltrs (bytesOf ds) = ds := by
  apply List.ext_getElem
  · rw [ltrs_len, bytesOf_size]
  · intro i h1 h2
    rw [ltrs_len] at h1
    rw [ltrs_at _ i h1, bytesOf_at ds i h1 hd]
    omega
theorem bytesOf_ltrs {s : ByteArray} (h : nmB s = true) : bytesOf (ltrs s) = s := by
  obtain ⟨⟨l⟩⟩ := s
  simp only [bytesOf, ltrs, List.map_map]
  congr 2
  have hh := (nmB_true h).2.2
  apply List.ext_getElem
  · simp
  · intro i h1 h2
    simp only [List.getElem_map, Function.comp, letD]
    have := hh i h2
    have e : (ByteArray.mk ⟨l⟩)[i]'h2 = l[i]'h2 := rfl
    rw [e] at this
    have e2 : 96 + (l[i].toNat - 96) = l[i].toNat := by omega
    rw [e2, UInt8.ofNat_toNat]
theorem bytesOf_cons (d : Nat) (ds : List Nat) : (⟨#[UInt8.ofNat (96 + d)]⟩ : ByteArray) ++ bytesOf ds = bytesOf (d :: ds) := by
  apply ByteArray.ext
  simp [bytesOf]
theorem nmB_bytesOf {ds : List Nat} (hd : ∀ d ∈ ds, 1 ≤ d ∧ d < 27) (h1 : 1 ≤ ds.length) (h6 : ds.length ≤ 6) : nmB (bytesOf ds) = true := by
  refine nmB_all (by rw [bytesOf_size]; exact h1) (by rw [bytesOf_size]; exact h6) (fun j h => ?_)
  rw [bytesOf_at ds j h (fun d x => (hd d x).2)]
  have := hd _ (List.getElem_mem (by rw [bytesOf_size] at h; exact h))
  omega

/-- What a number is the name of. -/
def goodN (n : Int) : Bool := decide (0 < n ∧ (∀ d ∈ digs n.toNat, 1 ≤ d) ∧ (digs n.toNat).length ≤ 6)
def unpS (n : Int) : ByteArray := if goodN n = true then bytesOf (digs n.toNat) else ⟨#[]⟩
def unpC (n : Int) : Int := if goodN n = true then 0 else 3
def packV (s : ByteArray) : Int := if nmB s = true then (pk s s.size : Nat) else 0
def packC (s : ByteArray) : Int := if 65536 < s.size then 2 else if nmB s = true then 0 else 12
theorem unp_bad {n : Int} (h : goodN n = false) : unpS n = ⟨#[]⟩ ∧ unpC n = 3 := by unfold unpS unpC; rw [h]; exact ⟨rfl, rfl⟩
theorem unp_low {n : Int} (h : ¬ 0 < n) : goodN n = false := decide_eq_false (fun x => h x.1)
theorem unp_zero {n : Nat} {m : Nat} {ds : List Nat} (h : Dg n m ds) (hm : 0 < m) (h0 : m % 27 = 0) : goodN (n : Int) = false := decide_eq_false (fun x => h.zero hm h0 x.2.1)
theorem unp_many {n : Nat} {m : Nat} {ds : List Nat} (h : Dg n m ds) (hm : 0 < m) (h6 : 6 ≤ ds.length) : goodN (n : Int) = false := decide_eq_false (fun x => by have := h.many hm; have := x.2.2; simp only [Int.toNat_natCast] at this; omega)
theorem unp_done {n : Nat} {ds : List Nat} (h : Dg n 0 ds) (hn : 0 < n) (h6 : ds.length ≤ 6) : unpS (n : Int) = bytesOf ds ∧ unpC (n : Int) = 0 := by
  have g : goodN (n : Int) = true := decide_eq_true ⟨by omega, by rw [Int.toNat_natCast, h.done]; exact fun d x => (h.ok d x).1, by rw [Int.toNat_natCast, h.done]; exact h6⟩
  unfold unpS unpC
  rw [if_pos g, if_pos g, Int.toNat_natCast, h.done]
  exact ⟨rfl, rfl⟩
theorem pack_bd (s : ByteArray) : 0 ≤ packV s ∧ packV s < 387420489 := by
  unfold packV
  split
  · rename_i h
    have := pk_lt (s := s) (k := s.size) (fun j hj _ => (nmB_true h).2.2 j hj) (nmB_true h).2.1
    omega
  · omega
theorem unp_pack {s : ByteArray} (h : nmB s = true) : goodN (packV s) = true ∧ unpS (packV s) = s := by
  have e : packV s = ((val (ltrs s) : Nat) : Int) := by unfold packV; rw [if_pos h, pk_all]
  have hl := ltrs_ok h
  have hd : digs (val (ltrs s)) = ltrs s := digs_val _ hl
  have hn := nmB_true h
  have hne : ltrs s ≠ [] := by intro x; have := ltrs_len s; rw [x] at this; simp at this; omega
  have hp := val_pos hl hne
  have g : goodN (packV s) = true := by
    rw [e]
    refine decide_eq_true ⟨by omega, ?_, ?_⟩
    · rw [Int.toNat_natCast, hd]; exact fun d x => (hl d x).1
    · rw [Int.toNat_natCast, hd, ltrs_len]; exact hn.2.1
  refine ⟨g, ?_⟩
  unfold unpS
  rw [if_pos g, e, Int.toNat_natCast, hd, bytesOf_ltrs h]
theorem pack_unp {n : Int} (h : goodN n = true) : nmB (unpS n) = true ∧ packV (unpS n) = n := by
  have hg : 0 < n ∧ (∀ d ∈ digs n.toNat, 1 ≤ d) ∧ (digs n.toNat).length ≤ 6 := of_decide_eq_true h
  have e : unpS n = bytesOf (digs n.toNat) := by unfold unpS; rw [if_pos h]
  have hd : ∀ d ∈ digs n.toNat, 1 ≤ d ∧ d < 27 := fun d x => ⟨hg.2.1 d x, digs_lt _ d x⟩
  have hb := nmB_bytesOf hd (digs_ne (by omega)) hg.2.2
  rw [e]
  refine ⟨hb, ?_⟩
  unfold packV
  rw [if_pos hb, pk_all, ltrs_bytesOf _ (fun d x => (hd d x).2), val_digs]
  omega
theorem pack_inj {s t : ByteArray} (hs : nmB s = true) (ht : nmB t = true) (h : packV s = packV t) : s = t := by
  rw [← (unp_pack hs).2, h, (unp_pack ht).2]
end Go.Proofs.YtpgdpachomdfhaaGreatDoor
