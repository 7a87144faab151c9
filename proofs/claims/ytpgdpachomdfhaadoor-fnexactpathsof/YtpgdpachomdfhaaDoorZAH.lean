/- Several texts laid together: SecS, SecT, UpL, ImC, ImD. -/
import Derived.Test.YtpgdpachomdfhaaDoorZAD
import Derived.Deep.RegionWith
import Derived.Test.YtpgdpachomdfhaaDoorImB
import Derived.Deep.RegionHeld3
import Derived.Laws.OwnMore
import Derived.Test.YtpgdpachomdfhaaDoorZAC
namespace Go.Proofs.YtpgdpachomdfhaaDoor
open Go.RowKit

/-- A write that is not sure: where, and what. -/
structure Se where
  at_ : Int
  val : Int
deriving DecidableEq

def Se.cells (s : Se) : List Value := [.int .i64 s.at_, .int .i64 s.val]
def ses (ps : List Se) : List Value := ps.flatMap Se.cells

theorem Se.cells_len (s : Se) : s.cells.length = 2 := rfl
theorem ses_len (ps : List Se) : (ses ps).length = ps.length * 2 := flatMap_len _ 2 Se.cells_len ps
theorem ses_at0 (ps : List Se) (k : Nat) (h : k < ps.length) : (ses ps)[k * 2]? = some (.int .i64 ps[k].at_) := flatMap_at _ 2 Se.cells_len ps k 0 h (by omega)
theorem ses_at1 (ps : List Se) (k : Nat) (h : k < ps.length) : (ses ps)[k * 2 + 1]? = some (.int .i64 ps[k].val) := flatMap_at _ 2 Se.cells_len ps k 1 h (by omega)

/-- A slice of writes that can be read. -/
def RdE (w : World) (v : Value) (ps : List Se) : Prop := Rd w 2 v ps.length (ses ps)
theorem RdE.shape {w : World} {v : Value} {ps : List Se} (h : RdE w v ps) : ∃ ao cap, v = .slice ao ps.length cap ∧ ps.length ≤ cap ∧ (0 < ps.length → ∃ b o, ao = some ⟨b, o, none⟩ ∧ b < w.heap.size ∧
    ∀ k (h : k < ps.length), w.cell? ⟨b, o + k * 2, none⟩ = some (.int .i64 ps[k].at_) ∧ w.cell? ⟨b, o + k * 2 + 1, none⟩ = some (.int .i64 ps[k].val)) := by
  obtain ⟨_, ao, cap, rfl, h2, h3⟩ := h
  refine ⟨ao, cap, rfl, h2.1, fun hn => ?_⟩
  obtain ⟨b, o, rfl, hb, hc⟩ := h3 hn
  exact ⟨b, o, rfl, hb, fun k hk => ⟨(hc (k * 2) (by omega)).trans (ses_at0 ps k hk), (hc (k * 2 + 1) (by omega)).trans (ses_at1 ps k hk)⟩⟩

/-- Two cells laid at element k. -/
def put2 (ys : List Value) (k : Nat) (a b : Value) : List Value := (ys.set (k * 2) a).set (k * 2 + 1) b
theorem put2_len (ys : List Value) (k : Nat) (a b : Value) : (put2 ys k a b).length = ys.length := by simp [put2]
theorem put2_at {ys : List Value} {k : Nat} {a b : Value} {j : Nat} (hj : j < ys.length) : (put2 ys k a b)[j]? = if j = k * 2 + 1 then some b else if j = k * 2 then some a else ys[j]? := by
  unfold put2
  rw [set_at (by simpa using hj), set_at hj]
theorem put2_step {ys : List Value} {ps : List Se} {k : Nat} (hk : k < ps.length) (hl : ys.length = ps.length * 2) (h : ∀ j, j < k * 2 → ys[j]? = (ses ps)[j]?) :
    ∀ j, j < (k + 1) * 2 → (put2 ys k (.int .i64 ps[k].at_) (.int .i64 ps[k].val))[j]? = (ses ps)[j]? := by
  intro j hj
  rw [put2_at (by omega)]
  split
  · rename_i e; rw [e, ses_at1 ps k hk]
  · split
    · rename_i e; rw [e, ses_at0 ps k hk]
    · exact h j (by omega)
theorem ses_all {ys : List Value} {ps : List Se} (hl : ys.length = ps.length * 2) (h : ∀ j, j < ps.length * 2 → ys[j]? = (ses ps)[j]?) : ys = ses ps := by
  apply List.ext_getElem?
  intro j
  by_cases hj : j < ps.length * 2
  · exact h j hj
  · rw [List.getElem?_eq_none (by omega), List.getElem?_eq_none (by rw [ses_len]; omega)]
theorem Row.put2 {w : World} {e : TypeId} {lo hi : Nat} {b n cap : Nat} {ys : List Value} (h : Row w e 2 lo hi (.slice (some ⟨b, 0, none⟩) n cap) n ys) (k : Nat) (x y : Value) :
    Row ((w.setCell ⟨b, k * 2, none⟩ x).setCell ⟨b, k * 2 + 1, none⟩ y) e 2 lo hi (.slice (some ⟨b, 0, none⟩) n cap) n (put2 ys k x y) :=
  (h.stored (k * 2) x).stored (k * 2 + 1) y

end Go.Proofs.YtpgdpachomdfhaaDoor

namespace Go.Proofs.YtpgdpachomdfhaaDoor
open Go.RowKit

/-- The i-th of the marks from k on. -/
def markE (k : Int) (i : Nat) : Se := ⟨k + 2 * (i : Int), k + 2 * (i : Int) + 1⟩
def marksE (k : Int) (n : Nat) : List Se := (List.range n).map (markE k)
theorem marksE_len (k : Int) (n : Nat) : (marksE k n).length = n := by simp [marksE]
theorem marksE_at (k : Int) (n i : Nat) (h : i < (marksE k n).length) : (marksE k n)[i] = markE k i := by simp [marksE]

/-- Cells of writes: numbers. -/
def IsSes (xs : List Value) (n : Nat) : Prop := ∀ k, k < n → ∃ a b, xs[k * 2]? = some (.int .i64 a) ∧ xs[k * 2 + 1]? = some (.int .i64 b)
theorem isSes (ps : List Se) : IsSes (ses ps) ps.length := fun k hk => ⟨_, _, ses_at0 ps k hk, ses_at1 ps k hk⟩
theorem IsSes.put2 {ys : List Value} {n : Nat} (h : IsSes ys n) (hl : ys.length = n * 2) (k : Nat) (a b : Int) : IsSes (put2 ys k (.int .i64 a) (.int .i64 b)) n := by
  intro j hj
  rw [put2_at (by omega), put2_at (by omega)]
  by_cases e : j = k
  · subst e
    exact ⟨a, b, by simp, by simp⟩
  · obtain ⟨x, y, h0, h1⟩ := h j hj
    refine ⟨x, y, ?_, ?_⟩
    · rw [if_neg (by omega), if_neg (by omega)]; exact h0
    · rw [if_neg (by omega), if_neg (by omega)]; exact h1

end Go.Proofs.YtpgdpachomdfhaaDoor

namespace Go.Proofs.YtpgdpachomdfhaaDoor
open Go.RowKit

end Go.Proofs.YtpgdpachomdfhaaDoor

namespace Go.Proofs.YtpgdpachomdfhaaDoor
open Go.RowKit

theorem ses_ones (l : List Se) : ∀ u ∈ ses l, u.oneCell' = true := by
  intro u hu
  simp only [ses, List.mem_flatMap] at hu
  obtain ⟨m, _, hm⟩ := hu
  simp [Se.cells] at hm
  rcases hm with rfl | rfl <;> rfl
theorem ses_app (l l' : List Se) : ses (l ++ l') = ses l ++ ses l' := by simp [ses]
/-- The first words of an inode: three, and k of its map. -/
def wrL (i : Int) (x : Ino) (k : Nat) : List Se := [⟨48 + 12 * i, x.kind⟩, ⟨48 + 12 * i + 1, x.size⟩, ⟨48 + 12 * i + 2, x.links⟩] ++ (List.range k).map (fun j => ⟨48 + 12 * i + (3 + (j : Int)), x.map.getD j 0⟩)
theorem wrL_len (i : Int) (x : Ino) (k : Nat) : (wrL i x k).length = 3 + k := by simp [wrL]; omega
theorem wrL_succ (i : Int) (x : Ino) (k : Nat) : wrL i x (k + 1) = wrL i x k ++ [⟨48 + 12 * i + (3 + (k : Int)), x.map.getD k 0⟩] := by
  unfold wrL; rw [List.range_succ, List.map_append, List.append_assoc]; rfl

end Go.Proofs.YtpgdpachomdfhaaDoor

namespace Go.Proofs.YtpgdpachomdfhaaDoor
open Go.RowKit

/-- The updates of an inode: the code, and the list. -/
def iuC (i : Int) (x : Ino) : Int := if 0 ≤ i ∧ i ≤ 15 then (if inoB x = true then 0 else 1) else 4
def iuL (i : Int) (x : Ino) : List Se := if 0 ≤ i ∧ i ≤ 15 then (if inoB x = true then wrL i x 8 else []) else []
theorem iu_cases (i : Int) (x : Ino) : (¬ (0 ≤ i ∧ i ≤ 15) ∧ iuC i x = 4 ∧ iuL i x = []) ∨ ((0 ≤ i ∧ i ≤ 15) ∧ inoB x = false ∧ iuC i x = 1 ∧ iuL i x = []) ∨ ((0 ≤ i ∧ i ≤ 15) ∧ inoB x = true ∧ iuC i x = 0 ∧ iuL i x = wrL i x 8) := by
  unfold iuC iuL
  by_cases h : 0 ≤ i ∧ i ≤ 15
  · cases q : inoB x
    · exact .inr (.inl ⟨h, rfl, by rw [if_pos h, if_neg (by decide)], by rw [if_pos h, if_neg (by decide)]⟩)
    · exact .inr (.inr ⟨h, rfl, by rw [if_pos h, if_pos rfl], by rw [if_pos h, if_pos rfl]⟩)
  · exact .inl ⟨h, by rw [if_neg h], by rw [if_neg h]⟩
theorem iuL_len (i : Int) (x : Ino) : (iuL i x).length ≤ 11 := by
  rcases iu_cases i x with ⟨_, _, e⟩ | ⟨_, _, _, e⟩ | ⟨_, _, _, e⟩ <;> rw [e]
  · simp
  · simp
  · rw [wrL_len]; omega
theorem row_none (w : World) (t : TypeId) (size : Nat) : Row (w.alloc (.cells #[] t)) t size w.heap.size (w.alloc (.cells #[] t)).heap.size (.slice (some ⟨w.heap.size, 0, none⟩) 0 0) 0 [] :=
  own_block (World.ownsRow_lit w #[] 0 (Nat.le_refl _) (by simp [maxLen]) (by simp))
theorem Ino.all {x : Ino} {w' : World} {b : Nat} (h : ∀ j, w'.cell? ⟨b, j, none⟩ = x.cs[j]?) : w'.cell? ⟨b, 0, none⟩ = some (.int .i64 x.kind) ∧ w'.cell? ⟨b, 1, none⟩ = some (.int .i64 x.size) ∧ w'.cell? ⟨b, 2, none⟩ = some (.int .i64 x.links) ∧ w'.cell? ⟨b, 3, none⟩ = some (.int .i64 x.m0) ∧ w'.cell? ⟨b, 4, none⟩ = some (.int .i64 x.m1) ∧ w'.cell? ⟨b, 5, none⟩ = some (.int .i64 x.m2) ∧ w'.cell? ⟨b, 6, none⟩ = some (.int .i64 x.m3) ∧ w'.cell? ⟨b, 7, none⟩ = some (.int .i64 x.m4) ∧ w'.cell? ⟨b, 8, none⟩ = some (.int .i64 x.m5) ∧ w'.cell? ⟨b, 9, none⟩ = some (.int .i64 x.m6) ∧ w'.cell? ⟨b, 10, none⟩ = some (.int .i64 x.m7) := ⟨h 0, h 1, h 2, h 3, h 4, h 5, h 6, h 7, h 8, h 9, h 10⟩

end Go.Proofs.YtpgdpachomdfhaaDoor
