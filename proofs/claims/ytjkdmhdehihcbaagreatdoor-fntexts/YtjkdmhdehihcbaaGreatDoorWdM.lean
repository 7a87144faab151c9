/- Numbers base 27: the digits of a number, and the number of digits; names and their numbers: mathematics. -/
import Derived.WalkKit
namespace Go.Proofs.YtjkdmhdehihcbaaGreatDoor
def val (ds : List Nat) : Nat := ds.foldl (fun a d => 27 * a + d) 0
theorem val_snoc (ds : List Nat) (d : Nat) : val (ds ++ [d]) = 27 * val ds + d := by simp [val]
theorem snoc_ind {α : Type} {P : List α → Prop} (h0 : P []) (h1 : ∀ l x, P l → P (l ++ [x])) : ∀ l, P l := by
  intro l
  have : ∀ n (l : List α), l.length = n → P l := by
    intro n
    induction n with
    | zero => intro l hl; rw [List.length_eq_zero_iff.1 hl]; exact h0
    | succ n ih =>
      intro l hl
      have hne : l ≠ [] := by intro h; subst h; simp at hl
      rw [← List.dropLast_concat_getLast hne]
      exact h1 _ _ (ih _ (by simp [hl]))
  exact this _ l rfl
theorem val_lt (ds : List Nat) : (∀ d ∈ ds, d < 27) → val ds < 27 ^ ds.length := by
  refine snoc_ind (P := fun ds => (∀ d ∈ ds, d < 27) → val ds < 27 ^ ds.length) (fun _ => by simp [val]) (fun l x ih h => ?_) ds
  have hx := h x (by simp)
  have := ih (fun d hd => h d (by simp [hd]))
  rw [val_snoc, List.length_append, List.length_singleton, Nat.pow_succ]
  omega
def nmB (s : ByteArray) : Bool := decide (1 ≤ s.size ∧ s.size ≤ 6 ∧ ∀ j (h : j < s.size), 97 ≤ s[j].toNat ∧ s[j].toNat ≤ 122)
theorem nmB_short {s : ByteArray} (h : s.size < 1) : nmB s = false := decide_eq_false (fun x => by omega)
theorem nmB_long {s : ByteArray} (h : 6 < s.size) : nmB s = false := decide_eq_false (fun x => by omega)
theorem nmB_other {s : ByteArray} {k : Nat} (h : k < s.size) (hb : ¬ (97 ≤ s[k].toNat ∧ s[k].toNat ≤ 122)) : nmB s = false := decide_eq_false (fun x => hb (x.2.2 k h))
theorem nmB_all {s : ByteArray} (h0 : 1 ≤ s.size) (h6 : s.size ≤ 6) (h : ∀ j (h : j < s.size), 97 ≤ s[j].toNat ∧ s[j].toNat ≤ 122) : nmB s = true := decide_eq_true ⟨h0, h6, h⟩
theorem nmB_true {s : ByteArray} (h : nmB s = true) : 1 ≤ s.size ∧ s.size ≤ 6 ∧ ∀ j (h : j < s.size), 97 ≤ s[j].toNat ∧ s[j].toNat ≤ 122 := of_decide_eq_true h
def letD (b : UInt8) : Nat := b.toNat - 96
def ltrs (s : ByteArray) : List Nat := s.data.toList.map letD
def pk (s : ByteArray) (k : Nat) : Nat := val ((ltrs s).take k)
theorem ltrs_len (s : ByteArray) : (ltrs s).length = s.size := by unfold ltrs; rw [List.length_map, Array.length_toList]; rfl
theorem ltrs_at (s : ByteArray) (j : Nat) (h : j < s.size) : (ltrs s)[j]'(by rw [ltrs_len]; exact h) = s[j].toNat - 96 := by
  simp only [ltrs, List.getElem_map, letD, Array.getElem_toList]
  rfl
theorem pk_zero (s : ByteArray) : pk s 0 = 0 := by simp [pk, val]
theorem pk_succ (s : ByteArray) (k : Nat) (h : k < s.size) : pk s (k + 1) = 27 * pk s k + (s[k].toNat - 96) := by
  unfold pk
  rw [List.take_succ_eq_append_getElem (by rw [ltrs_len]; exact h), val_snoc, ltrs_at s k h]
theorem pk_lt {s : ByteArray} {k : Nat} (hl : ∀ j (h : j < s.size), j < k → 97 ≤ s[j].toNat ∧ s[j].toNat ≤ 122) (h6 : k ≤ 6) : pk s k < 387420489 := by
  have h1 : pk s k < 27 ^ ((ltrs s).take k).length := by
    unfold pk
    apply val_lt
    intro d hd
    obtain ⟨i, hi, rfl⟩ := List.getElem_of_mem hd
    simp only [List.length_take, ltrs_len] at hi
    rw [List.getElem_take, ltrs_at s i (by omega)]
    have := hl i (by omega) (by omega)
    omega
  have h2 : ((ltrs s).take k).length ≤ 6 := by simp only [List.length_take]; omega
  have h3 : 27 ^ ((ltrs s).take k).length ≤ 27 ^ 6 := Nat.pow_le_pow_right (by omega) h2
  omega
def packV (s : ByteArray) : Int := if nmB s = true then (pk s s.size : Nat) else 0
def packC (s : ByteArray) : Int := if 65536 < s.size then 2 else if nmB s = true then 0 else 12
end Go.Proofs.YtjkdmhdehihcbaaGreatDoor
