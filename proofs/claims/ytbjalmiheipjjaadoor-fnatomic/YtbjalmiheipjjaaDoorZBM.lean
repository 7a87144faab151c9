/- Several texts laid together: JrR, JrJ, UpL. -/
import Derived.Test.YtbjalmiheipjjaaDoorJrQ
import Derived.Test.YtbjalmiheipjjaaDoorZAB
import Derived.Deep.RegionWith
namespace Go.Proofs.YtbjalmiheipjjaaDoor
open Go.RowKit
theorem jrn_snoc (u : St) : ∀ (l : List St) (i : Nat), jrn i (l ++ [u]) = jrn i l ++ [⟨9 + 2 * ((i + l.length : Nat) : Int), u.at_, false⟩, ⟨9 + 2 * ((i + l.length : Nat) : Int) + 1, u.val, false⟩]
  | [], i => by simp [jrn]
  | x :: l, i => by
    rw [List.cons_append, jrn, jrn_snoc u l (i + 1), jrn, show i + 1 + l.length = i + (x :: l).length by simp; omega]
    rfl
theorem jrn_len : ∀ (l : List St) (i : Nat), (jrn i l).length = 2 * l.length
  | [], i => rfl
  | x :: l, i => by rw [jrn]; simp [jrn_len l (i + 1)]; omega
def jlM (us : List Se) (m : Nat) : List Mi := (jrn 0 ((upsL us).take m)).map stM
theorem jlM_len (us : List Se) (m : Nat) : (jlM us m).length ≤ 2 * m := by simp [jlM, jrn_len]; omega
theorem take_len {us : List Se} {m : Nat} (h : m ≤ us.length) : ((upsL us).take m).length = m := by rw [List.length_take, upsL_len]; omega
theorem jlM_succ (us : List Se) (m : Nat) (h : m < us.length) : jlM us (m + 1) = jlM us m ++ [⟨1, 9 + 2 * (m : Int), us[m].at_⟩, ⟨1, 9 + 2 * (m : Int) + 1, us[m].val⟩] := by
  unfold jlM; rw [take_next _ _ _ (upsL_at us m h), jrn_snoc, take_len (by omega), List.map_append, Nat.zero_add]; rfl
theorem jlM_all (us : List Se) : jlM us us.length = (jrn 0 (upsL us)).map stM := by unfold jlM; rw [List.take_of_length_le (by rw [upsL_len]; omega)]
theorem jrn_place : ∀ (l : List St) (i : Nat), ∀ s ∈ jrn i l, 9 + 2 * (i : Int) ≤ s.at_ ∧ s.at_ < 9 + 2 * ((i + l.length : Nat) : Int)
  | [], i => by simp [jrn]
  | x :: l, i => by
    intro s hs
    rw [jrn] at hs
    simp only [List.mem_cons] at hs
    rcases hs with rfl | rfl | hs
    · simp only [List.length_cons]; omega
    · simp only [List.length_cons]; omega
    · have := jrn_place l (i + 1) s hs
      simp only [List.length_cons]
      omega
theorem six_cells {w : World} {b : Nat} {t : TypeId} {x0 x1 x2 x3 x4 x5 : Value} (h : w.heap[b]? = some (.cells #[x0, x1, x2, x3, x4, x5] t (0, 0))) (j : Nat) : w.cell? ⟨b, j, none⟩ = [x0, x1, x2, x3, x4, x5][j]? := by
  unfold World.cell?
  simp only [h]
  simp
theorem rd_mic2 (w1 : World) (k a x k2 a2 x2 : Int) : Rd (w1.alloc (.cells #[.int .i64 k, .int .i64 a, .int .i64 x, .int .i64 k2, .int .i64 a2, .int .i64 x2] 61)) 3 (.slice (some ⟨w1.heap.size, 0, none⟩) 2 2) 2 (mis [⟨k, a, x⟩, ⟨k2, a2, x2⟩]) := by
  refine ⟨rfl, _, _, rfl, ⟨Nat.le_refl _, fun e => by cases e⟩, fun _ => ⟨w1.heap.size, 0, rfl, by simp, fun j hj => ?_⟩⟩
  rw [Nat.zero_add, six_cells (at_new (w := w1) rfl)]
  rfl
theorem applyL_len (us : List Se) : (applyL (upsL us)).length ≤ 2 * us.length + 4 := by
  have h1 := flushL_len ((upsL us).map (·.at_))
  have h2 := flushL_len ((cnt 0).map (·.at_))
  simp only [List.length_map, upsL_len] at h1 h2
  simp only [applyL, seg, List.length_append, List.length_map, upsL_len]
  simp only [cnt, List.length_cons, List.length_nil] at h2 ⊢
  omega
end Go.Proofs.YtbjalmiheipjjaaDoor

namespace Go.Proofs.YtbjalmiheipjjaaDoor
open Go.RowKit
theorem RdE.shapeN {w : World} {v : Value} {ps : List Se} (h : RdE w v ps) {n : Nat} (hn : ps.length = n) : ∃ ao cap, v = .slice ao n cap := by
  obtain ⟨ao, cap, e, _⟩ := h.shape
  exact ⟨ao, cap, hn ▸ e⟩
theorem planL_len (us : List Se) : (planL (upsL us)).length ≤ 6 * us.length + 8 := by
  have h1 := flushL_len ((jrn 0 (upsL us)).map (·.at_))
  have h2 := flushL_len ((cnt (us.length : Int)).map (·.at_))
  have h3 := applyL_len us
  simp only [List.length_map, upsL_len, jrn_len] at h1
  simp only [cnt, List.length_map, List.length_cons, List.length_nil] at h2
  rw [planL]
  split
  · simp
  · simp only [seg, cnt, List.length_append, List.length_map, upsL_len, jrn_len, List.length_cons, List.length_nil] at *
    omega
def jpC (us : List Se) : Int := if 4096 < us.length then 2 else if 16 < us.length then 6 else if upsB us = true then 0 else 1
def jpL (us : List Se) : List Mi := if jpC us = 0 then planL (upsL us) else []
theorem jp_cases (us : List Se) : (4096 < us.length ∧ jpC us = 2 ∧ jpL us = []) ∨ (¬ 4096 < us.length ∧ 16 < us.length ∧ jpC us = 6 ∧ jpL us = []) ∨ (¬ 4096 < us.length ∧ ¬ 16 < us.length ∧ upsB us = false ∧ jpC us = 1 ∧ jpL us = []) ∨ (¬ 4096 < us.length ∧ ¬ 16 < us.length ∧ upsB us = true ∧ jpC us = 0 ∧ jpL us = planL (upsL us)) := by
  by_cases c1 : 4096 < us.length
  · have e : jpC us = 2 := by unfold jpC; rw [if_pos c1]
    exact .inl ⟨c1, e, by unfold jpL; rw [e]; rfl⟩
  · by_cases c2 : 16 < us.length
    · have e : jpC us = 6 := by unfold jpC; rw [if_neg c1, if_pos c2]
      exact .inr (.inl ⟨c1, c2, e, by unfold jpL; rw [e]; rfl⟩)
    · by_cases c3 : upsB us = true
      · have e : jpC us = 0 := by unfold jpC; rw [if_neg c1, if_neg c2, if_pos c3]
        exact .inr (.inr (.inr ⟨c1, c2, c3, e, by unfold jpL; rw [e]; rfl⟩))
      · have c3' : upsB us = false := by simpa using c3
        have e : jpC us = 1 := by unfold jpC; rw [if_neg c1, if_neg c2, c3']; rfl
        exact .inr (.inr (.inl ⟨c1, c2, c3', e, by unfold jpL; rw [e]; rfl⟩))
end Go.Proofs.YtbjalmiheipjjaaDoor

namespace Go.Proofs.YtbjalmiheipjjaaDoor
open Go.RowKit
theorem infoUp : (Tryd.prog.info? 50).map (fun i => (i.zero, i.size, i.bytes)) = some (some (.agg #[.int .i64 0, .int .i64 0]), 2, 16) := by kernel_rfl
end Go.Proofs.YtbjalmiheipjjaaDoor
