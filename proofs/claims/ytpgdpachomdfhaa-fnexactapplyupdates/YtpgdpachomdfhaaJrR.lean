/- The journal's plan: by the model. -/
import Derived.Test.YtpgdpachomdfhaaJrQ
namespace Go.Proofs.Ytpgdpachomdfhaa
open Go.RowKit

theorem jrn_snoc (u : St) : ∀ (l : List St) (i : Nat), jrn i (l ++ [u]) = jrn i l ++ [⟨9 + 2 * ((i + l.length : Nat) : Int), u.at_, false⟩, ⟨9 + 2 * ((i + l.length : Nat) : Int) + 1, u.val, false⟩]
  | [], i => by simp [jrn]
  | x :: l, i => by
    rw [List.cons_append, jrn, jrn_snoc u l (i + 1), jrn, show i + 1 + l.length = i + (x :: l).length by simp; omega]
    rfl
theorem jrn_len : ∀ (l : List St) (i : Nat), (jrn i l).length = 2 * l.length
  | [], i => rfl
  | x :: l, i => by rw [jrn]; simp [jrn_len l (i + 1)]; omega
def jlM (us : List Se) (m : Nat) : List Mi := (jrn 0 ((upsL us).take m)).map stM
def jlP (us : List Se) (m : Nat) : List Int := (jrn 0 ((upsL us).take m)).map (·.at_)
theorem jlM_len (us : List Se) (m : Nat) : (jlM us m).length ≤ 2 * m := by simp [jlM, jrn_len]; omega
theorem jlP_len (us : List Se) (m : Nat) : (jlP us m).length ≤ 2 * m := by simp [jlP, jrn_len]; omega
theorem take_len {us : List Se} {m : Nat} (h : m ≤ us.length) : ((upsL us).take m).length = m := by rw [List.length_take, upsL_len]; omega
theorem jlM_succ (us : List Se) (m : Nat) (h : m < us.length) : jlM us (m + 1) = jlM us m ++ [⟨1, 9 + 2 * (m : Int), us[m].at_⟩, ⟨1, 9 + 2 * (m : Int) + 1, us[m].val⟩] := by
  unfold jlM; rw [take_next _ _ _ (upsL_at us m h), jrn_snoc, take_len (by omega), List.map_append, Nat.zero_add]; rfl
theorem jlP_succ (us : List Se) (m : Nat) (h : m < us.length) : jlP us (m + 1) = jlP us m ++ [9 + 2 * (m : Int), 9 + 2 * (m : Int) + 1] := by
  unfold jlP; rw [take_next _ _ _ (upsL_at us m h), jrn_snoc, take_len (by omega), List.map_append, Nat.zero_add]; rfl
theorem jlM_all (us : List Se) : jlM us us.length = (jrn 0 (upsL us)).map stM := by unfold jlM; rw [List.take_of_length_le (by rw [upsL_len]; omega)]
theorem jlP_all (us : List Se) : jlP us us.length = (jrn 0 (upsL us)).map (·.at_) := by unfold jlP; rw [List.take_of_length_le (by rw [upsL_len]; omega)]
theorem jrn_place : ∀ (l : List St) (i : Nat), ∀ s ∈ jrn i l, 9 + 2 * (i : Int) ≤ s.at_ ∧ s.at_ < 9 + 2 * ((i + l.length : Nat) : Int)
  | [], i => by simp [jrn]
  | x :: l, i => by
    intro s hs
    rw [jrn] at hs
    simp only [List.mem_cons] at hs
    rcases hs with rfl | rfl | hs
    · simp only [List.length_cons]; omega
    · simp only [List.length_cons]; omega
    · have := jrn_place l (i + 1) s hs
      simp only [List.length_cons]
      omega
theorem jlP_place (us : List Se) (m : Nat) (hn : us.length ≤ 64) : ∀ k (h : k < (jlP us m).length), 0 ≤ (jlP us m)[k] ∧ (jlP us m)[k] < 336 := by
  intro k h
  have hm : (jlP us m)[k] ∈ jlP us m := List.getElem_mem h
  generalize (jlP us m)[k] = z at *
  simp only [jlP, List.mem_map] at hm
  obtain ⟨s, hs, rfl⟩ := hm
  have := jrn_place _ _ s hs
  have hl : ((upsL us).take m).length ≤ 64 := by rw [List.length_take, upsL_len]; omega
  omega
theorem six_cells {w : World} {b : Nat} {t : TypeId} {x0 x1 x2 x3 x4 x5 : Value} (h : w.heap[b]? = some (.cells #[x0, x1, x2, x3, x4, x5] t (0, 0))) (j : Nat) : w.cell? ⟨b, j, none⟩ = [x0, x1, x2, x3, x4, x5][j]? := by
  unfold World.cell?
  simp only [h]
  simp
theorem rd_two (w1 : World) (x y : Int) : RdI (w1.alloc (.cells #[.int .i64 x, .int .i64 y] 3)) (.slice (some ⟨w1.heap.size, 0, none⟩) 2 2) [x, y] := by
  refine ⟨rfl, _, _, rfl, ⟨Nat.le_refl _, fun e => by cases e⟩, fun _ => ⟨w1.heap.size, 0, rfl, by simp, fun j hj => ?_⟩⟩
  obtain ⟨e0, e1, _, _⟩ := two_cells (at_new (w := w1) (o := .cells #[.int .i64 x, .int .i64 y] 3) rfl)
  rcases (show j = 0 ∨ j = 1 by simp at hj; omega) with rfl | rfl
  · exact e0
  · exact e1

theorem applyL_len (us : List Se) : (applyL (upsL us)).length ≤ 2 * us.length + 4 := by
  have h1 := flushL_len ((upsL us).map (·.at_))
  have h2 := flushL_len ((cnt 0).map (·.at_))
  simp only [List.length_map, upsL_len] at h1 h2
  simp only [applyL, seg, List.length_append, List.length_map, upsL_len]
  simp only [cnt, List.length_cons, List.length_nil] at h2 ⊢
  omega

end Go.Proofs.Ytpgdpachomdfhaa
