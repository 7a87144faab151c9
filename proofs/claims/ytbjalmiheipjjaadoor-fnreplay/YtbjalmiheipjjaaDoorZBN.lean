/- Several texts laid together: JrJ, UpL, JrE. -/
import Derived.Test.YtbjalmiheipjjaaDoorZBM
import Derived.Test.YtbjalmiheipjjaaDoorZAB
import Derived.Deep.RegionWith
import Derived.Test.YtbjalmiheipjjaaDoorZBL
namespace Go.Proofs.YtbjalmiheipjjaaDoor
open Go.RowKit
theorem RdE.shapeN {w : World} {v : Value} {ps : List Se} (h : RdE w v ps) {n : Nat} (hn : ps.length = n) : ∃ ao cap, v = .slice ao n cap := by
  obtain ⟨ao, cap, e, _⟩ := h.shape
  exact ⟨ao, cap, hn ▸ e⟩
theorem planL_len (us : List Se) : (planL (upsL us)).length ≤ 6 * us.length + 8 := by
  have h1 := flushL_len ((jrn 0 (upsL us)).map (·.at_))
  have h2 := flushL_len ((cnt (us.length : Int)).map (·.at_))
  have h3 := applyL_len us
  simp only [List.length_map, upsL_len, jrn_len] at h1
  simp only [cnt, List.length_map, List.length_cons, List.length_nil] at h2
  rw [planL]
  split
  · simp
  · simp only [seg, cnt, List.length_append, List.length_map, upsL_len, jrn_len, List.length_cons, List.length_nil] at *
    omega
def jpC (us : List Se) : Int := if 4096 < us.length then 2 else if 16 < us.length then 6 else if upsB us = true then 0 else 1
def jpL (us : List Se) : List Mi := if jpC us = 0 then planL (upsL us) else []
theorem jp_cases (us : List Se) : (4096 < us.length ∧ jpC us = 2 ∧ jpL us = []) ∨ (¬ 4096 < us.length ∧ 16 < us.length ∧ jpC us = 6 ∧ jpL us = []) ∨ (¬ 4096 < us.length ∧ ¬ 16 < us.length ∧ upsB us = false ∧ jpC us = 1 ∧ jpL us = []) ∨ (¬ 4096 < us.length ∧ ¬ 16 < us.length ∧ upsB us = true ∧ jpC us = 0 ∧ jpL us = planL (upsL us)) := by
  by_cases c1 : 4096 < us.length
  · have e : jpC us = 2 := by unfold jpC; rw [if_pos c1]
    exact .inl ⟨c1, e, by unfold jpL; rw [e]; rfl⟩
  · by_cases c2 : 16 < us.length
    · have e : jpC us = 6 := by unfold jpC; rw [if_neg c1, if_pos c2]
      exact .inr (.inl ⟨c1, c2, e, by unfold jpL; rw [e]; rfl⟩)
    · by_cases c3 : upsB us = true
      · have e : jpC us = 0 := by unfold jpC; rw [if_neg c1, if_neg c2, if_pos c3]
        exact .inr (.inr (.inr ⟨c1, c2, c3, e, by unfold jpL; rw [e]; rfl⟩))
      · have c3' : upsB us = false := by simpa using c3
        have e : jpC us = 1 := by unfold jpC; rw [if_neg c1, if_neg c2, c3']; rfl
        exact .inr (.inr (.inl ⟨c1, c2, c3', e, by unfold jpL; rw [e]; rfl⟩))
end Go.Proofs.YtbjalmiheipjjaaDoor

namespace Go.Proofs.YtbjalmiheipjjaaDoor
open Go.RowKit
theorem infoUp : (Tryd.prog.info? 50).map (fun i => (i.zero, i.size, i.bytes)) = some (some (.agg #[.int .i64 0, .int .i64 0]), 2, 16) := by kernel_rfl
end Go.Proofs.YtbjalmiheipjjaaDoor

namespace Go.Proofs.YtbjalmiheipjjaaDoor
open Go.RowKit
def rdL (ws : List Int) (ps : List St) (m : Nat) : List Se := (List.range m).map (fun i => ⟨ldW ws ps (9 + 2 * i), ldW ws ps (9 + 2 * i + 1)⟩)
theorem rdL_len (ws : List Int) (ps : List St) (m : Nat) : (rdL ws ps m).length = m := by simp [rdL]
theorem rdL_succ (ws : List Int) (ps : List St) (m : Nat) : rdL ws ps (m + 1) = rdL ws ps m ++ [⟨ldW ws ps (9 + 2 * m), ldW ws ps (9 + 2 * m + 1)⟩] := by
  unfold rdL; rw [List.range_succ, List.map_append]; rfl
theorem rd_up (w1 : World) (x y : Int) : Rd (w1.alloc (.cells #[.int .i64 x, .int .i64 y] 50)) 2 (.slice (some ⟨w1.heap.size, 0, none⟩) 1 1) 1 (ses [⟨x, y⟩]) := by
  refine ⟨rfl, _, _, rfl, ⟨Nat.le_refl _, fun e => by cases e⟩, fun _ => ⟨w1.heap.size, 0, rfl, by simp, fun j hj => ?_⟩⟩
  obtain ⟨e0, e1, _, _⟩ := two_cells (at_new (w := w1) (o := .cells #[.int .i64 x, .int .i64 y] 50) rfl)
  rcases (show j = 0 ∨ j = 1 by omega) with rfl | rfl
  · exact e0
  · exact e1
theorem ses_one_ (l : List Se) : ∀ u ∈ ses l, u.oneCell' = true := by
  intro u hu
  simp only [ses, List.mem_flatMap] at hu
  obtain ⟨m, _, hm⟩ := hu
  simp [Se.cells] at hm
  rcases hm with rfl | rfl <;> rfl
theorem ses_append_ (l l' : List Se) : ses (l ++ l') = ses l ++ ses l' := by simp [ses]
structure ReI (W w : World) (vL : Value) (ls : List Se) : Prop where
  l : w.ownsRow W.heap.size 50 2 vL ls.length (ses ls)
  b : Below W.heap.size W w
theorem ReI.z {W w : World} {vL : Value} {ls : List Se} (h : ReI W w vL ls) : W.heap.size ≤ w.heap.size := h.b.size
theorem ReI.below {W w w' : World} {vL : Value} {ls : List Se} (h : ReI W w vL ls) (hb : Below w.heap.size w w') : ReI W w' vL ls :=
  ⟨((own_block h.l).below hb (Nat.le_refl _)).1, below_trans h.b hb h.z⟩
theorem ReI.grow {W w w' : World} {vL v' : Value} {ls : List Se} (h : ReI W w vL ls) (ms : List Se) (ho : w'.ownsRow W.heap.size 50 2 v' (ls.length + ms.length) (ses ls ++ ses ms)) (hg : w.grownBy w' vL.ownBlock) : ReI W w' v' (ls ++ ms) :=
  ⟨by rw [ses_append_, List.length_append]; exact ho, h.b.grown hg h.z (fun q hq => (h.l.lt q hq).1)⟩
end Go.Proofs.YtbjalmiheipjjaaDoor
