/- Several texts laid together: ImB, UpL, ImC. -/
import Derived.Test.YtipklbnfobckaaaDoorZAM
import Derived.Test.YtipklbnfobckaaaDoorWt
import Derived.Test.YtipklbnfobckaaaDoorSecT
import Derived.Deep.RegionHeld3
import Derived.Laws.OwnMore
namespace Go.Proofs.YtipklbnfobckaaaDoor
open Go.RowKit

/-- One entry of a map, at its place. -/
def entB (i : Nat) (z size : Int) : Bool := tieB z && (z == 0 || decide ((i : Int) < size))
/-- The map of an inode is right from its start on, so far. -/
def mapTo (zs : List Int) (size : Int) (k : Nat) : Prop := ∀ i, i < k → entB i (zs.getD i 0) size = true
def mapB (zs : List Int) (size : Int) : Bool := (List.range 8).all fun i => entB i (zs.getD i 0) size
theorem mapB_of {zs : List Int} {size : Int} (h : mapTo zs size 8) : mapB zs size = true := by
  unfold mapB
  rw [List.all_eq_true]
  intro i hi
  exact h i (List.mem_range.1 hi)
theorem mapB_to {zs : List Int} {size : Int} (h : mapB zs size = true) : mapTo zs size 8 := by
  unfold mapB at h
  rw [List.all_eq_true] at h
  intro i hi
  exact h i (List.mem_range.2 hi)
/-- What the kind asks. -/
def kindB (x : Ino) : Bool := if x.kind = 0 then decide (x.size = 0 ∧ x.links = 0 ∧ x.map = [0, 0, 0, 0, 0, 0, 0, 0]) else if x.kind = 2 then x.size == 0 && x.links == 1 else decide (0 < x.links)
/-- An inode that is right. -/
def inoB (x : Ino) : Bool := decide (0 ≤ x.kind ∧ x.kind ≤ 2) && (decide (0 ≤ x.size ∧ x.size ≤ 8) && (decide (0 ≤ x.links ∧ x.links ≤ 24) && (mapB x.map x.size && kindB x)))
/-- Its numbers are of the machine. -/
def Ino.R (x : Ino) : Prop := ∀ z ∈ x.map, -9223372036854775808 ≤ z ∧ z ≤ 9223372036854775807
theorem Ino.len (x : Ino) : x.map.length = 8 := rfl
theorem Ino.at (x : Ino) (k : Nat) (hk : k < 8) : x.cs[3 + k]? = some (.int .i64 (x.map.getD k 0)) := by
  rcases (show k = 0 ∨ k = 1 ∨ k = 2 ∨ k = 3 ∨ k = 4 ∨ k = 5 ∨ k = 6 ∨ k = 7 by omega) with rfl | rfl | rfl | rfl | rfl | rfl | rfl | rfl <;> rfl
theorem Ino.R.at {x : Ino} (h : x.R) (k : Nat) (hk : k < 8) : -9223372036854775808 ≤ x.map.getD k 0 ∧ x.map.getD k 0 ≤ 9223372036854775807 := by
  have e : x.map.getD k 0 = x.map[k]'(by rw [x.len]; exact hk) := by rw [List.getD_eq_getElem?_getD, List.getElem?_eq_getElem (by rw [x.len]; exact hk)]; rfl
  rw [e]
  exact h _ (List.getElem_mem _)

set_option maxRecDepth 100000 in
set_option maxHeartbeats 2000000 in
@[go_sem] theorem eqZero8 (m0 m1 m2 m3 m4 m5 m6 m7 : Int) (w : World) : (Op.equalIn 9999 55 (.agg #[.int .i64 m0, .int .i64 m1, .int .i64 m2, .int .i64 m3, .int .i64 m4, .int .i64 m5, .int .i64 m6, .int .i64 m7]) (.agg #[.int .i64 0, .int .i64 0, .int .i64 0, .int .i64 0, .int .i64 0, .int .i64 0, .int .i64 0, .int .i64 0])).run Tryd.prog w = .ok (decide ([m0, m1, m2, m3, m4, m5, m6, m7] = [0, 0, 0, 0, 0, 0, 0, 0])) w := by
  have u3 := Tryd.underlying3
  have a3 := Tryd.isAgg3
  have z3 := Tryd.sizeOf3
  rw [show (9999 : Nat) = 9998 + 1 from rfl, Op.equalIn]
  simp only [Sem.run_bind, run_underlying Tryd.underlying55, Result.andThen_ok]
  simp only [Std.Legacy.Range.forIn_eq_forIn_range', Std.Legacy.Range.size, Nat.sub_zero, Nat.add_sub_cancel, Nat.div_one, List.range'_succ, List.range'_zero, List.forIn_cons, List.forIn_nil]
  go_simp
  by_cases h0 : m0 = 0
  case neg => simp [h0]
  by_cases h1 : m1 = 0
  case neg => simp [h0, h1]
  by_cases h2 : m2 = 0
  case neg => simp [h0, h1, h2]
  by_cases h3 : m3 = 0
  case neg => simp [h0, h1, h2, h3]
  by_cases h4 : m4 = 0
  case neg => simp [h0, h1, h2, h3, h4]
  by_cases h5 : m5 = 0
  case neg => simp [h0, h1, h2, h3, h4, h5]
  by_cases h6 : m6 = 0
  case neg => simp [h0, h1, h2, h3, h4, h5, h6]
  by_cases h7 : m7 = 0
  case neg => simp [h0, h1, h2, h3, h4, h5, h6, h7]
  simp [h0, h1, h2, h3, h4, h5, h6, h7]

end Go.Proofs.YtipklbnfobckaaaDoor

namespace Go.Proofs.YtipklbnfobckaaaDoor
open Go.RowKit

theorem infoUp : (Tryd.prog.info? 59).map (fun i => (i.zero, i.size, i.bytes)) = some (some (.agg #[.int .i64 0, .int .i64 0]), 2, 16) := by kernel_rfl

end Go.Proofs.YtipklbnfobckaaaDoor

namespace Go.Proofs.YtipklbnfobckaaaDoor
open Go.RowKit

theorem rd_upd (w1 : World) (x y : Int) : Rd (w1.alloc (.cells #[.int .i64 x, .int .i64 y] 59)) 2 (.slice (some ⟨w1.heap.size, 0, none⟩) 1 1) 1 (ses [⟨x, y⟩]) := by
  refine ⟨rfl, _, _, rfl, ⟨Nat.le_refl _, fun e => by cases e⟩, fun _ => ⟨w1.heap.size, 0, rfl, by simp, fun j hj => ?_⟩⟩
  obtain ⟨e0, e1, _, _⟩ := two_cells (at_new (w := w1) (o := .cells #[.int .i64 x, .int .i64 y] 59) rfl)
  rcases (show j = 0 ∨ j = 1 by omega) with rfl | rfl
  · exact e0
  · exact e1
theorem ses_ones (l : List Se) : ∀ u ∈ ses l, u.oneCell' = true := by
  intro u hu
  simp only [ses, List.mem_flatMap] at hu
  obtain ⟨m, _, hm⟩ := hu
  simp [Se.cells] at hm
  rcases hm with rfl | rfl <;> rfl
theorem ses_app (l l' : List Se) : ses (l ++ l') = ses l ++ ses l' := by simp [ses]
/-- A row of updates that grows. -/
structure UpI (W w : World) (vL : Value) (ls : List Se) : Prop where
  l : w.ownsRow W.heap.size 59 2 vL ls.length (ses ls)
  b : Below W.heap.size W w
theorem UpI.z {W w : World} {vL : Value} {ls : List Se} (h : UpI W w vL ls) : W.heap.size ≤ w.heap.size := h.b.size
theorem UpI.below {W w w' : World} {vL : Value} {ls : List Se} (h : UpI W w vL ls) (hb : Below w.heap.size w w') : UpI W w' vL ls :=
  ⟨((own_block h.l).below hb (Nat.le_refl _)).1, below_trans h.b hb h.z⟩
theorem UpI.grow {W w w' : World} {vL v' : Value} {ls : List Se} (h : UpI W w vL ls) (ms : List Se) (ho : w'.ownsRow W.heap.size 59 2 v' (ls.length + ms.length) (ses ls ++ ses ms)) (hg : w.grownBy w' vL.ownBlock) : UpI W w' v' (ls ++ ms) :=
  ⟨by rw [ses_app, List.length_append]; exact ho, h.b.grown hg h.z (fun q hq => (h.l.lt q hq).1)⟩
/-- The first words of an inode: three, and k of its map. -/
def wrL (i : Int) (x : Ino) (k : Nat) : List Se := [⟨48 + 12 * i, x.kind⟩, ⟨48 + 12 * i + 1, x.size⟩, ⟨48 + 12 * i + 2, x.links⟩] ++ (List.range k).map (fun j => ⟨48 + 12 * i + (3 + (j : Int)), x.map.getD j 0⟩)
end Go.Proofs.YtipklbnfobckaaaDoor
