/- Several texts laid together: JrP, JrQ, JrR. -/
import Derived.Test.YtjkdmhdehihcbaaGreatDoorZBK
import Derived.Test.YtjkdmhdehihcbaaGreatDoorZAD
import Derived.Deep.RegionHeld3
namespace Go.Proofs.YtjkdmhdehihcbaaGreatDoor
open Go.RowKit
def upsB (us : List Se) : Bool := decide (∀ k (h : k < us.length), (48 ≤ us[k].at_ ∧ us[k].at_ < 336) ∧ 0 ≤ us[k].val ∧ us[k].val < 1099511627776)
end Go.Proofs.YtjkdmhdehihcbaaGreatDoor

namespace Go.Proofs.YtjkdmhdehihcbaaGreatDoor
open Go.RowKit
def upsL (us : List Se) : List St := us.map (fun s => up s.at_ s.val)
theorem upsL_len (us : List Se) : (upsL us).length = us.length := by simp [upsL]
theorem upsL_at (us : List Se) (k : Nat) (h : k < us.length) : (upsL us)[k]? = some (up us[k].at_ us[k].val) := by simp [upsL, h]
def apM (us : List Se) (m : Nat) : List Mi := ((upsL us).take m).map stM
theorem apM_len (us : List Se) (m : Nat) : (apM us m).length ≤ m := by simp [apM]; omega
theorem take_next {α : Type} (l : List α) (m : Nat) (x : α) (h : l[m]? = some x) : l.take (m + 1) = l.take m ++ [x] := by
  rw [List.take_add_one, h]; rfl
theorem apM_succ (us : List Se) (m : Nat) (h : m < us.length) : apM us (m + 1) = apM us m ++ [⟨1, us[m].at_, us[m].val⟩] := by
  unfold apM; rw [take_next _ _ _ (upsL_at us m h), List.map_append]; rfl
theorem apM_all (us : List Se) : apM us us.length = (upsL us).map stM := by unfold apM; rw [List.take_of_length_le (by rw [upsL_len]; omega)]
structure PlI (w0 w : World) (vL vP : Value) (ls : List Mi) (ps : List Int) : Prop where
  l : w.ownsRow w0.heap.size 41 3 vL ls.length (mis ls)
  p : w.ownsRow w0.heap.size 3 1 vP ps.length (ints ps)
  b : Below w0.heap.size w0 w
  z : w0.heap.size ≤ w.heap.size
theorem ty_ne : (3 : Nat) ≠ 41 := by decide
theorem PlI.below {w0 w w' : World} {vL vP : Value} {ls : List Mi} {ps : List Int} (h : PlI w0 w vL vP ls ps) (hb : Below w.heap.size w w') : PlI w0 w' vL vP ls ps :=
  ⟨((own_block h.l).below hb (Nat.le_refl _)).1, ((own_block h.p).below hb (Nat.le_refl _)).1, below_trans h.b hb h.z, Nat.le_trans h.z hb.size⟩
theorem PlI.growL {w0 w w' : World} {vL vP v' : Value} {ls : List Mi} {ps : List Int} (h : PlI w0 w vL vP ls ps) (ms : List Mi) (ho : w'.ownsRow w0.heap.size 41 3 v' (ls.length + ms.length) (mis ls ++ mis ms)) (hg : w.grownBy w' vL.ownBlock) : PlI w0 w' v' vP (ls ++ ms) ps :=
  ⟨by rw [mis_append, List.length_append]; exact ho, (Row.apart (own_block h.p) (own_block h.l) ty_ne hg).1, h.b.grown hg h.z (fun q hq => (h.l.lt q hq).1), Nat.le_trans h.z hg.size⟩
theorem PlI.growP {w0 w w' : World} {vL vP v' : Value} {ls : List Mi} {ps : List Int} (h : PlI w0 w vL vP ls ps) (ks : List Int) (ho : w'.ownsRow w0.heap.size 3 1 v' (ps.length + ks.length) (ints ps ++ ints ks)) (hg : w.grownBy w' vP.ownBlock) : PlI w0 w' vL v' ls (ps ++ ks) :=
  ⟨(Row.apart (own_block h.l) (own_block h.p) (Ne.symm ty_ne) hg).1, by rw [List.length_append, show ints (ps ++ ks) = ints ps ++ ints ks by simp [ints]]; exact ho, h.b.grown hg h.z (fun q hq => (h.p.lt q hq).1), Nat.le_trans h.z hg.size⟩
theorem rd_oneJ (w1 : World) (x : Int) : RdI (w1.alloc (.cells #[.int .i64 x] 3)) (.slice (some ⟨w1.heap.size, 0, none⟩) 1 1) [x] := by
  refine ⟨rfl, _, _, rfl, ⟨Nat.le_refl _, fun e => by cases e⟩, fun _ => ⟨w1.heap.size, 0, rfl, by simp, fun j hj => ?_⟩⟩
  obtain rfl : j = 0 := by simp at hj; omega
  have e := at_new (w := w1) (o := .cells #[.int .i64 x] 3) rfl
  unfold World.cell?
  simp only [e]
  rfl
theorem mis_one_ (m : Mi) : mis [m] = m.cells := by simp [mis]
end Go.Proofs.YtjkdmhdehihcbaaGreatDoor

namespace Go.Proofs.YtjkdmhdehihcbaaGreatDoor
open Go.RowKit
theorem jrn_snoc (u : St) : ∀ (l : List St) (i : Nat), jrn i (l ++ [u]) = jrn i l ++ [⟨9 + 2 * ((i + l.length : Nat) : Int), u.at_, false⟩, ⟨9 + 2 * ((i + l.length : Nat) : Int) + 1, u.val, false⟩]
  | [], i => by simp [jrn]
  | x :: l, i => by
    rw [List.cons_append, jrn, jrn_snoc u l (i + 1), jrn, show i + 1 + l.length = i + (x :: l).length by simp; omega]
    rfl
theorem jrn_len : ∀ (l : List St) (i : Nat), (jrn i l).length = 2 * l.length
  | [], i => rfl
  | x :: l, i => by rw [jrn]; simp [jrn_len l (i + 1)]; omega
def jlM (us : List Se) (m : Nat) : List Mi := (jrn 0 ((upsL us).take m)).map stM
theorem jlM_len (us : List Se) (m : Nat) : (jlM us m).length ≤ 2 * m := by simp [jlM, jrn_len]; omega
theorem take_len {us : List Se} {m : Nat} (h : m ≤ us.length) : ((upsL us).take m).length = m := by rw [List.length_take, upsL_len]; omega
theorem jlM_succ (us : List Se) (m : Nat) (h : m < us.length) : jlM us (m + 1) = jlM us m ++ [⟨1, 9 + 2 * (m : Int), us[m].at_⟩, ⟨1, 9 + 2 * (m : Int) + 1, us[m].val⟩] := by
  unfold jlM; rw [take_next _ _ _ (upsL_at us m h), jrn_snoc, take_len (by omega), List.map_append, Nat.zero_add]; rfl
theorem jlM_all (us : List Se) : jlM us us.length = (jrn 0 (upsL us)).map stM := by unfold jlM; rw [List.take_of_length_le (by rw [upsL_len]; omega)]
theorem jrn_place : ∀ (l : List St) (i : Nat), ∀ s ∈ jrn i l, 9 + 2 * (i : Int) ≤ s.at_ ∧ s.at_ < 9 + 2 * ((i + l.length : Nat) : Int)
  | [], i => by simp [jrn]
  | x :: l, i => by
    intro s hs
    rw [jrn] at hs
    simp only [List.mem_cons] at hs
    rcases hs with rfl | rfl | hs
    · simp only [List.length_cons]; omega
    · simp only [List.length_cons]; omega
    · have := jrn_place l (i + 1) s hs
      simp only [List.length_cons]
      omega
theorem six_cells {w : World} {b : Nat} {t : TypeId} {x0 x1 x2 x3 x4 x5 : Value} (h : w.heap[b]? = some (.cells #[x0, x1, x2, x3, x4, x5] t (0, 0))) (j : Nat) : w.cell? ⟨b, j, none⟩ = [x0, x1, x2, x3, x4, x5][j]? := by
  unfold World.cell?
  simp only [h]
  simp
theorem rd_mic2 (w1 : World) (k a x k2 a2 x2 : Int) : Rd (w1.alloc (.cells #[.int .i64 k, .int .i64 a, .int .i64 x, .int .i64 k2, .int .i64 a2, .int .i64 x2] 41)) 3 (.slice (some ⟨w1.heap.size, 0, none⟩) 2 2) 2 (mis [⟨k, a, x⟩, ⟨k2, a2, x2⟩]) := by
  refine ⟨rfl, _, _, rfl, ⟨Nat.le_refl _, fun e => by cases e⟩, fun _ => ⟨w1.heap.size, 0, rfl, by simp, fun j hj => ?_⟩⟩
  rw [Nat.zero_add, six_cells (at_new (w := w1) rfl)]
  rfl
theorem applyL_len (us : List Se) : (applyL (upsL us)).length ≤ 2 * us.length + 4 := by
  have h1 := flushL_len ((upsL us).map (·.at_))
  have h2 := flushL_len ((cnt 0).map (·.at_))
  simp only [List.length_map, upsL_len] at h1 h2
  simp only [applyL, seg, List.length_append, List.length_map, upsL_len]
  simp only [cnt, List.length_cons, List.length_nil] at h2 ⊢
  omega
end Go.Proofs.YtjkdmhdehihcbaaGreatDoor
