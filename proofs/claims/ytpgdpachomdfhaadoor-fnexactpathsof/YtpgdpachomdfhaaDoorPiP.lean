/- What is used, and what is free: by the model and by the program. -/
import Derived.Test.YtpgdpachomdfhaaDoorImP
namespace Go.Proofs.YtpgdpachomdfhaaDoor
open Go.RowKit

/-- The first number below a bound that is asked for, -1 without one. -/
def firstIx (p : Nat → Bool) (n : Nat) : Int := match (List.range n).find? p with | some i => (i : Int) | none => -1
theorem first_at {p : Nat → Bool} {n k : Nat} (hk : k < n) (h : ∀ j, j < k → p j = false) (e : p k = true) : firstIx p n = (k : Int) := by
  have : (List.range n).find? p = some k := List.find?_range_eq_some.2 ⟨e, List.mem_range.2 hk, fun j hj => by rw [h j hj]; rfl⟩
  unfold firstIx
  rw [this]
theorem first_none {p : Nat → Bool} {n : Nat} (h : ∀ j, j < n → p j = false) : firstIx p n = -1 := by
  have : (List.range n).find? p = none := List.find?_eq_none.2 (fun j hj => by rw [h j (List.mem_range.1 hj)]; decide)
  unfold firstIx
  rw [this]
theorem first_bound (p : Nat → Bool) (n : Nat) : -1 ≤ firstIx p n ∧ firstIx p n < n := by
  unfold firstIx
  split
  · rename_i i h
    have := List.mem_range.1 (List.mem_of_find?_eq_some h)
    omega
  · omega
theorem first_congr {p q : Nat → Bool} {n : Nat} (h : ∀ j, j < n → p j = q j) : firstIx p n = firstIx q n := by
  rcases Classical.em (∃ k, k < n ∧ p k = true ∧ ∀ j, j < k → p j = false) with ⟨k, hk, e, f⟩ | hn
  · rw [first_at hk f e, first_at hk (fun j hj => by rw [← h j (by omega)]; exact f j hj) (by rw [← h k hk]; exact e)]
  · have a : ∀ m, m ≤ n → ∀ j, j < m → p j = false := by
      intro m
      induction m with
      | zero => intro _ j hj; omega
      | succ m ih =>
        intro hm j hj
        by_cases e : j = m
        · subst e
          cases hp : p j with
          | false => rfl
          | true => exact absurd ⟨j, by omega, hp, ih (by omega)⟩ hn
        · exact ih (by omega) j (by omega)
    rw [first_none (a n (Nat.le_refl _)), first_none (fun j hj => by rw [← h j hj]; exact a n (Nat.le_refl _) j hj)]
/-- What is told of a number that was looked for. -/
def tellV (r : Int) : Int := if r < 0 then 0 else r
def tellC (r : Int) : Int := if r < 0 then 7 else 0
/-- What is used, of a tier. -/
def ubC (b : Bool) (t : Int) : Int := if b = true then (if t = 1 ∨ t = 2 then 0 else 4) else 1
def ubL (b : Bool) (ms : List Int) (t : Int) : List Int := if b = true ∧ (t = 1 ∨ t = 2) then usedOf ms t else []
theorem img_parts {ws : List Ino} {ps : List Den} (h : imgB ws ps = true) : ws.length = 16 ∧ ps.length = 24 ∧ kindAt ws 0 = 2 ∧ okNs ws = true := by
  unfold imgB at h
  simp only [Bool.and_eq_true, decide_eq_true_eq, beq_iff_eq] at h
  exact ⟨h.1, h.2.1, h.2.2.1, h.2.2.2.1⟩
theorem img_small {ws : List Ino} {ps : List Den} (h : imgB ws ps = true) : ∀ k (h : k < ws.length), ∀ z ∈ ws[k].map, 0 ≤ z ∧ z ≤ 1048576 := fun k hk z hz => tie_small (okNs_ties (img_parts h).2.2.2 k hk z hz)
theorem row_none3 (w : World) : Row (w.alloc (.cells #[] 3)) 3 1 w.heap.size (w.alloc (.cells #[] 3)).heap.size (.slice (some ⟨w.heap.size, 0, none⟩) 0 0) 0 [] :=
  own_block (World.ownsRow_lit w #[] 0 (Nat.le_refl _) (by simp [maxLen]) (by simp))

theorem used_succ {l : List Int} {t : Int} {k : Nat} (hk : k < l.length) : usedOf (l.take (k + 1)) t = if l[k] % 4 = t then usedOf (l.take k) t ++ [l[k] / 4] else usedOf (l.take k) t := by
  unfold usedOf
  rw [List.take_succ_eq_append_getElem hk, List.filter_append, List.map_append]
  by_cases h : l[k] % 4 = t
  · rw [if_pos h]; simp [h]
  · rw [if_neg h]; simp [h]

end Go.Proofs.YtpgdpachomdfhaaDoor
