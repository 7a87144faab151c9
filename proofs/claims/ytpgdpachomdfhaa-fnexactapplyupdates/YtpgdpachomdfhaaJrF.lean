/- Plans of flushes: by the model. -/
import Derived.Test.YtpgdpachomdfhaaJrD
import Derived.Test.YtpgdpachomdfhaaMiT
import Derived.BigRegion
import Derived.BigQuiet
import Derived.Deep.QuietTactic
import Derived.Deep.DeepCutAuto
namespace Go.Proofs.Ytpgdpachomdfhaa
open Go.RowKit

theorem mis_snoc (l : List Mi) (m : Mi) : mis (l ++ [m]) = mis l ++ m.cells := by simp [mis]
theorem mis_append (l l' : List Mi) : mis (l ++ l') = mis l ++ mis l' := by simp [mis]
theorem mic_one (m : Mi) : ∀ u ∈ m.cells, u.oneCell' = true := by
  intro u hu
  simp [Mi.cells] at hu
  rcases hu with rfl | rfl | rfl <;> rfl
theorem mis_one (l : List Mi) : ∀ u ∈ mis l, u.oneCell' = true := by
  intro u hu
  simp only [mis, List.mem_flatMap] at hu
  obtain ⟨m, _, hm⟩ := hu
  exact mic_one m u hm
theorem RdM.form {w : World} {v : Value} {ps : List Mi} (h : RdM w v ps) {n : Nat} (hn : ps.length = n) : ∃ ao cap, v = .slice ao n cap := by
  obtain ⟨ao, cap, e, _⟩ := h.shape
  exact ⟨ao, cap, hn ▸ e⟩
theorem owns_drewN {w : World} {base : Nat} {e : TypeId} {size : Nat} {v : Value} {n : Nat} {xs : List Value} (h : w.ownsRow base e size v n xs) (k : Nat) : (w.drewN k).ownsRow base e size v n xs := by
  induction k with
  | zero => exact h
  | succ k ih => exact ih
theorem below_drewN {B : Nat} {a w : World} (h : Below B a w) (n : Nat) : Below B a (w.drewN n) := by
  induction n with
  | zero => exact h
  | succ n ih => exact ⟨ih.os, ih.tape, ih.output, ih.size, ih.block⟩
theorem size_drewN (w : World) (n : Nat) : (w.drewN n).heap.size = w.heap.size := by
  induction n with
  | zero => rfl
  | succ n ih => exact ih

def knownU (ks : List Int) (i k : Nat) : Bool := (List.range k).any (fun j => ks[j]?.getD 0 / 8 == ks[i]?.getD 0 / 8)
theorem knownU_succ (ks : List Int) (i k : Nat) : knownU ks i (k + 1) = (knownU ks i k || (ks[k]?.getD 0 / 8 == ks[i]?.getD 0 / 8)) := by
  unfold knownU
  rw [List.range_succ, List.any_append]
  simp
theorem nl_le (ks : List Int) : ∀ i, (nl ks i).length ≤ i
  | 0 => Nat.le_refl _
  | i + 1 => by
    rw [nl]
    split
    · have := nl_le ks i; omega
    · have := nl_le ks i; simp; omega

/-- Places all, and the code of a plan of flushes. -/
def allP (zs : List Int) : Bool := decide (∀ k (h : k < zs.length), 0 ≤ zs[k] ∧ zs[k] < 336)
def fpC (zs : List Int) : Int := if 4096 < zs.length then 2 else if 50 < zs.length then 6 else if allP zs = true then 0 else 14
def fpL (zs : List Int) : List Mi := if fpC zs = 0 then flushL zs else []
theorem fp_cases (zs : List Int) : (4096 < zs.length ∧ fpC zs = 2 ∧ fpL zs = []) ∨ (¬ 4096 < zs.length ∧ 50 < zs.length ∧ fpC zs = 6 ∧ fpL zs = []) ∨ (¬ 4096 < zs.length ∧ ¬ 50 < zs.length ∧ allP zs = false ∧ fpC zs = 14 ∧ fpL zs = []) ∨ (¬ 4096 < zs.length ∧ ¬ 50 < zs.length ∧ allP zs = true ∧ fpC zs = 0 ∧ fpL zs = flushL zs) := by
  by_cases c1 : 4096 < zs.length
  · have e : fpC zs = 2 := by unfold fpC; rw [if_pos c1]
    exact .inl ⟨c1, e, by unfold fpL; rw [e]; rfl⟩
  · by_cases c2 : 50 < zs.length
    · have e : fpC zs = 6 := by unfold fpC; rw [if_neg c1, if_pos c2]
      exact .inr (.inl ⟨c1, c2, e, by unfold fpL; rw [e]; rfl⟩)
    · by_cases c3 : allP zs = true
      · have e : fpC zs = 0 := by unfold fpC; rw [if_neg c1, if_neg c2, if_pos c3]
        exact .inr (.inr (.inr ⟨c1, c2, c3, e, by unfold fpL; rw [e]; rfl⟩))
      · have c3' : allP zs = false := by simpa using c3
        have e : fpC zs = 14 := by unfold fpC; rw [if_neg c1, if_neg c2, c3']; rfl
        exact .inr (.inr (.inl ⟨c1, c2, c3', e, by unfold fpL; rw [e]; rfl⟩))
theorem flushL_len (zs : List Int) : (flushL zs).length ≤ zs.length + 1 := by
  unfold flushL
  have := nl_le zs zs.length
  simp
  omega
theorem fpL_len (zs : List Int) : (fpL zs).length ≤ 16777216 := by
  rcases fp_cases zs with ⟨_, _, e⟩ | ⟨_, _, _, e⟩ | ⟨_, _, _, _, e⟩ | ⟨_, _, _, _, e⟩
  · rw [e]; simp
  · rw [e]; simp
  · rw [e]; simp
  · rw [e]; have := flushL_len zs; omega
theorem row_empty (w : World) (t : TypeId) (size : Nat) : Row (w.alloc (.cells #[] t)) t size w.heap.size (w.alloc (.cells #[] t)).heap.size (.slice (some ⟨w.heap.size, 0, none⟩) 0 0) 0 [] :=
  own_block (by simpa using World.ownsRow_lit (base := w.heap.size) (e := t) (size := size) w #[] 0 (by simp) (by simp) (by simp))

end Go.Proofs.Ytpgdpachomdfhaa
