/- Several texts laid together: MiL, JrQ, Blk, DtA, Dev, PlD. -/
import Derived.Test.YtcilodgoognmnaaGreatDoorZAH
import Derived.Test.YtcilodgoognmnaaGreatDoorZBJ
import Derived.Test.YtcilodgoognmnaaGreatDoorZAF
import Derived.Deep.RegionHeld3
import Derived.BigRegion
import Derived.BigQuiet
import Derived.Deep.QuietTactic
import Derived.Deep.DeepCutAuto
import Derived.Deep.RegionWith
import Derived.Test.YtcilodgoognmnaaGreatDoorZBI
import Derived.Test.YtcilodgoognmnaaGreatDoorZAB
import Derived.Test.YtcilodgoognmnaaGreatDoorZAP
import Derived.Test.YtcilodgoognmnaaGreatDoorPiJ
import Derived.Deep.RegionLaw
namespace Go.Proofs.YtcilodgoognmnaaGreatDoor
open Go.RowKit

def Mi.cells (s : Mi) : List Value := [.int .i64 s.kind, .int .i64 s.at_, .int .i64 s.val]
def mis (ps : List Mi) : List Value := ps.flatMap Mi.cells

theorem Mi.cells_len (s : Mi) : s.cells.length = 3 := rfl
theorem mis_at0 (ps : List Mi) (k : Nat) (h : k < ps.length) : (mis ps)[k * 3]? = some (.int .i64 ps[k].kind) := flatMap_at _ 3 Mi.cells_len ps k 0 h (by omega)
theorem mis_at1 (ps : List Mi) (k : Nat) (h : k < ps.length) : (mis ps)[k * 3 + 1]? = some (.int .i64 ps[k].at_) := flatMap_at _ 3 Mi.cells_len ps k 1 h (by omega)
theorem mis_at2 (ps : List Mi) (k : Nat) (h : k < ps.length) : (mis ps)[k * 3 + 2]? = some (.int .i64 ps[k].val) := flatMap_at _ 3 Mi.cells_len ps k 2 h (by omega)

/-- A slice of steps that can be read. -/
def RdM (w : World) (v : Value) (ps : List Mi) : Prop := Rd w 3 v ps.length (mis ps)
theorem RdM.shape {w : World} {v : Value} {ps : List Mi} (h : RdM w v ps) : ∃ ao cap, v = .slice ao ps.length cap ∧ ps.length ≤ cap ∧ (0 < ps.length → ∃ b o, ao = some ⟨b, o, none⟩ ∧ b < w.heap.size ∧
    ∀ k (h : k < ps.length), w.cell? ⟨b, o + k * 3, none⟩ = some (.int .i64 ps[k].kind) ∧ w.cell? ⟨b, o + k * 3 + 1, none⟩ = some (.int .i64 ps[k].at_) ∧ w.cell? ⟨b, o + k * 3 + 2, none⟩ = some (.int .i64 ps[k].val)) := by
  obtain ⟨_, ao, cap, rfl, h2, h3⟩ := h
  refine ⟨ao, cap, rfl, h2.1, fun hn => ?_⟩
  obtain ⟨b, o, rfl, hb, hc⟩ := h3 hn
  exact ⟨b, o, rfl, hb, fun k hk => ⟨(hc (k * 3) (by omega)).trans (mis_at0 ps k hk), (hc (k * 3 + 1) (by omega)).trans (mis_at1 ps k hk), (hc (k * 3 + 2) (by omega)).trans (mis_at2 ps k hk)⟩⟩

end Go.Proofs.YtcilodgoognmnaaGreatDoor

namespace Go.Proofs.YtcilodgoognmnaaGreatDoor
open Go.RowKit

/-- Steps and places that are under way. -/
structure PlI (w0 w : World) (vL vP : Value) (ls : List Mi) (ps : List Int) : Prop where
  l : w.ownsRow w0.heap.size 118 3 vL ls.length (mis ls)
  p : w.ownsRow w0.heap.size 3 1 vP ps.length (ints ps)
  b : Below w0.heap.size w0 w
  z : w0.heap.size ≤ w.heap.size

theorem PlI.below {w0 w w' : World} {vL vP : Value} {ls : List Mi} {ps : List Int} (h : PlI w0 w vL vP ls ps) (hb : Below w.heap.size w w') : PlI w0 w' vL vP ls ps :=
  ⟨((own_block h.l).below hb (Nat.le_refl _)).1, ((own_block h.p).below hb (Nat.le_refl _)).1, below_trans h.b hb h.z, Nat.le_trans h.z hb.size⟩
end Go.Proofs.YtcilodgoognmnaaGreatDoor

namespace Go.Proofs.YtcilodgoognmnaaGreatDoor
open Go.RowKit

/-- A device that can be read: its words, and its writes. -/
def RdBlk (w : World) (v : Value) (ws : List Int) (ps : List Se) : Prop := ∃ vW vP, v = .agg #[vW, vP] ∧ RdI w vW ws ∧ RdE w vP ps
/-- A slice of numbers of a call's own, in a block of numbers or in an array's. -/
def RowZ (w : World) (lo hi : Nat) (v : Value) (n : Nat) (xs : List Value) : Prop := ∃ e, e ≠ 200 ∧ Row w e 1 lo hi v n xs
theorem RowZ.rd {w : World} {lo hi : Nat} {v : Value} {n : Nat} {xs : List Value} (h : RowZ w lo hi v n xs) : Rd w 1 v n xs := by
  obtain ⟨_, _, h⟩ := h
  exact h.rd
theorem RowZ.same {w w' : World} {lo hi : Nat} {v : Value} {n : Nat} {xs : List Value} (h : RowZ w lo hi v n xs) (hs : ∀ b, lo ≤ b → b < hi → w'.heap[b]? = w.heap[b]?) : RowZ w' lo hi v n xs := by
  obtain ⟨e, he, h⟩ := h
  exact ⟨e, he, h.same hs⟩
theorem RowZ.below {w w' : World} {lo hi : Nat} {v : Value} {n : Nat} {xs : List Value} (h : RowZ w lo hi v n xs) {B : Nat} (hb : Below B w w') (hB : hi ≤ B) : RowZ w' lo hi v n xs := by
  obtain ⟨e, he, h⟩ := h
  exact ⟨e, he, h.below hb hB⟩
theorem RowZ.outside {w w' : World} {lo hi : Nat} {v : Value} {n : Nat} {xs : List Value} (h : RowZ w lo hi v n xs) {lo' hi' : Nat} (ho : Outside lo' hi' w w') (hd : hi ≤ lo' ∨ hi' ≤ lo) (hz : hi ≤ w.heap.size) : RowZ w' lo hi v n xs := by
  obtain ⟨e, he, h⟩ := h
  exact ⟨e, he, h.outside ho hd hz⟩
theorem RowZ.wide {w : World} {lo hi : Nat} {v : Value} {n : Nat} {xs : List Value} (h : RowZ w lo hi v n xs) {lo' hi' : Nat} (h1 : lo' ≤ lo) (h2 : hi ≤ hi') : RowZ w lo' hi' v n xs := by
  obtain ⟨e, he, h⟩ := h
  exact ⟨e, he, h.wide h1 h2⟩
theorem RowZ.nil (w : World) (lo hi : Nat) : RowZ w lo hi (.slice none 0 0) 0 [] := ⟨3, by decide, Row.nil _ _ _ _ _⟩
theorem Row.z {w : World} {lo hi : Nat} {v : Value} {n : Nat} {xs : List Value} (h : Row w 3 1 lo hi v n xs) : RowZ w lo hi v n xs := ⟨3, by decide, h⟩
/-- A device of a call's own. -/
def RowBlk (w : World) (lo hi : Nat) (v : Value) (ws : List Int) (ps : List Se) : Prop := ∃ vW vP, v = .agg #[vW, vP] ∧ RowZ w lo hi vW ws.length (ints ws) ∧ Row w 200 2 lo hi vP ps.length (ses ps)

theorem RowBlk.rd {w : World} {lo hi : Nat} {v : Value} {ws : List Int} {ps : List Se} (h : RowBlk w lo hi v ws ps) : RdBlk w v ws ps := by
  obtain ⟨vW, vP, rfl, h1, h2⟩ := h
  exact ⟨vW, vP, rfl, h1.rd, h2.rd⟩
theorem RdBlk.below {w w' : World} {v : Value} {ws : List Int} {ps : List Se} (h : RdBlk w v ws ps) (hb : Below w.heap.size w w') : RdBlk w' v ws ps := by
  obtain ⟨vW, vP, rfl, h1, h2⟩ := h
  exact ⟨vW, vP, rfl, Rd.below h1 hb, Rd.below h2 hb⟩
theorem RowBlk.below {w w' : World} {lo hi : Nat} {v : Value} {ws : List Int} {ps : List Se} (h : RowBlk w lo hi v ws ps) {B : Nat} (hb : Below B w w') (hB : hi ≤ B) : RowBlk w' lo hi v ws ps := by
  obtain ⟨vW, vP, rfl, h1, h2⟩ := h
  exact ⟨vW, vP, rfl, h1.below hb hB, h2.below hb hB⟩
theorem RowBlk.outside {w w' : World} {lo hi : Nat} {v : Value} {ws : List Int} {ps : List Se} (h : RowBlk w lo hi v ws ps) {lo' hi' : Nat} (ho : Outside lo' hi' w w') (hd : hi ≤ lo' ∨ hi' ≤ lo) (hz : hi ≤ w.heap.size) : RowBlk w' lo hi v ws ps := by
  obtain ⟨vW, vP, rfl, h1, h2⟩ := h
  exact ⟨vW, vP, rfl, h1.outside ho hd hz, h2.outside ho hd hz⟩
theorem RowBlk.wide {w : World} {lo hi : Nat} {v : Value} {ws : List Int} {ps : List Se} (h : RowBlk w lo hi v ws ps) {lo' hi' : Nat} (h1 : lo' ≤ lo) (h2 : hi ≤ hi') : RowBlk w lo' hi' v ws ps := by
  obtain ⟨vW, vP, rfl, a, b⟩ := h
  exact ⟨vW, vP, rfl, a.wide h1 h2, b.wide h1 h2⟩

end Go.Proofs.YtcilodgoognmnaaGreatDoor

namespace Go.Proofs.YtcilodgoognmnaaGreatDoor
open Go.RowKit

/-- The file of a path. -/
def flI (ns : List Ino) (ds : List Den) (s : ByteArray) : Int × Int := if (lkI ns ds s).2 = 0 then (if kindAt ns (lkI ns ds s).1 = 1 then ((lkI ns ds s).1, 0) else (0, 9)) else (0, (lkI ns ds s).2)
/-- A file is cut: its size, and the pages that go, up to the k-th. -/
def cuT (zs : List Int) (i : Int) (n k : Nat) : List Se := ((List.range k).filter fun j => decide (n ≤ j) && !(zs.getD j 0 == 0)).map fun (j : Nat) => ⟨48 + 12 * i + (3 + (j : Int)), 0⟩
def cuU (zs : List Int) (i : Int) (n k : Nat) : List Se := ⟨48 + 12 * i + 1, (n : Int)⟩ :: cuT zs i n k
def cuF (ns : List Ino) (i size : Int) : List Se × Int := if 0 ≤ size ∧ size ≤ 8 then (cuU (inoAt ns i.toNat).map i size.toNat 8, 0) else ([], 4)
def cuI (ns : List Ino) (ds : List Den) (s : ByteArray) (size : Int) : List Se × Int := if (flI ns ds s).2 = 0 then cuF ns (flI ns ds s).1 size else ([], (flI ns ds s).2)
def cuR (ns : List Ino) (ds : List Den) (s : ByteArray) (size : Int) : List Se × Int := if 65536 < s.size then ([], 2) else if imgB ns ds = true then cuI ns ds s size else ([], 1)
theorem cuT_yes {zs : List Int} {i : Int} {n k : Nat} (h : n ≤ k) (e : ¬ zs.getD k 0 = 0) : cuT zs i n (k + 1) = cuT zs i n k ++ [⟨48 + 12 * i + (3 + (k : Int)), 0⟩] := by
  unfold cuT
  rw [List.range_succ, List.filter_append, List.map_append]
  congr 1
  rw [List.filter_cons_of_pos (by rw [decide_eq_true h]; simpa using e)]
  rfl
theorem cuT_no {zs : List Int} {i : Int} {n k : Nat} (e : zs.getD k 0 = 0) : cuT zs i n (k + 1) = cuT zs i n k := by
  unfold cuT
  rw [List.range_succ, List.filter_append, List.map_append, List.filter_cons_of_neg (by rw [e]; simp)]
  simp
theorem cuT_start (zs : List Int) (i : Int) (n : Nat) : cuT zs i n n = [] := by
  unfold cuT
  rw [List.filter_eq_nil_iff.2 (fun j hj => by have := List.mem_range.1 hj; simp; omega)]
  rfl
theorem cuT_len (zs : List Int) (i : Int) (n k : Nat) : (cuT zs i n k).length ≤ k := by
  unfold cuT
  rw [List.length_map]
  refine Nat.le_trans (List.length_filter_le _ _) ?_
  rw [List.length_range]
  exact Nat.le_refl _
/-- A file that is told is one. -/
theorem fl_file {ns : List Ino} {ds : List Den} {s : ByteArray} (I : Img ns ds) (h : (flI ns ds s).2 = 0) : ∃ i : Nat, i < 16 ∧ (flI ns ds s).1 = (i : Int) ∧ (inoAt ns i).kind = 1 := by
  unfold flI at h ⊢
  by_cases c : (lkI ns ds s).2 = 0
  · rw [if_pos c] at h ⊢
    by_cases d : kindAt ns (lkI ns ds s).1 = 1
    · rw [if_pos d]
      obtain ⟨i, e, hi, _, k⟩ := lk_plain I c (by rw [d]; omega)
      exact ⟨i, hi, e, k⟩
    · rw [if_neg d] at h
      simp at h
  · rw [if_neg c] at h
    exact absurd h c
end Go.Proofs.YtcilodgoognmnaaGreatDoor

namespace Go.Proofs.YtcilodgoognmnaaGreatDoor
open Go.RowKit

/-- The devices as they can be read. -/
def RdDev (w : World) (v : Value) (ws : List Int) (ps : List St) (es : List Int) (qs : List Se) : Prop := ∃ vW vP vS vQ, v = .agg #[vW, vP, vS, vQ] ∧ RdPm w (.agg #[vW, vP]) ws ps ∧ RdBlk w (.agg #[vS, vQ]) es qs
/-- The devices of a call's own: each lies in blocks of its own. -/
def RowDev (w : World) (lo hi : Nat) (v : Value) (ws : List Int) (ps : List St) (es : List Int) (qs : List Se) : Prop :=
  ∃ vW vP vS vQ l1 h1 l2 h2, v = .agg #[vW, vP, vS, vQ] ∧ RowPm w l1 h1 (.agg #[vW, vP]) ws ps ∧ RowBlk w l2 h2 (.agg #[vS, vQ]) es qs ∧ (lo ≤ l1 ∧ h1 ≤ hi ∧ lo ≤ l2 ∧ h2 ≤ hi ∧ (h1 ≤ l2 ∨ h2 ≤ l1))
theorem RowDev.rd {w : World} {lo hi : Nat} {v : Value} {ws : List Int} {ps : List St} {es : List Int} {qs : List Se} (h : RowDev w lo hi v ws ps es qs) : RdDev w v ws ps es qs := by
  obtain ⟨vW, vP, vS, vQ, _, _, _, _, e, h1, h2, _⟩ := h
  exact ⟨vW, vP, vS, vQ, e, h1.rd, h2.rd⟩
theorem RdDev.below {w w' : World} {v : Value} {ws : List Int} {ps : List St} {es : List Int} {qs : List Se} (h : RdDev w v ws ps es qs) (hb : Below w.heap.size w w') : RdDev w' v ws ps es qs := by
  obtain ⟨vW, vP, vS, vQ, e, h1, h2⟩ := h
  exact ⟨vW, vP, vS, vQ, e, h1.below hb, h2.below hb⟩
theorem RowDev.below {w w' : World} {lo hi : Nat} {v : Value} {ws : List Int} {ps : List St} {es : List Int} {qs : List Se} (h : RowDev w lo hi v ws ps es qs) {B : Nat} (hb : Below B w w') (hB : hi ≤ B) : RowDev w' lo hi v ws ps es qs := by
  obtain ⟨vW, vP, vS, vQ, l1, h1, l2, h2, e, r1, r2, c⟩ := h
  exact ⟨vW, vP, vS, vQ, l1, h1, l2, h2, e, r1.below hb (by omega), r2.below hb (by omega), c⟩
theorem RowDev.outside {w w' : World} {lo hi : Nat} {v : Value} {ws : List Int} {ps : List St} {es : List Int} {qs : List Se} (h : RowDev w lo hi v ws ps es qs) {lo' hi' : Nat} (ho : Outside lo' hi' w w') (hd : hi ≤ lo' ∨ hi' ≤ lo) (hz : hi ≤ w.heap.size) : RowDev w' lo hi v ws ps es qs := by
  obtain ⟨vW, vP, vS, vQ, l1, h1, l2, h2, e, r1, r2, c⟩ := h
  exact ⟨vW, vP, vS, vQ, l1, h1, l2, h2, e, r1.outside ho (by omega) (by omega), r2.outside ho (by omega) (by omega), c⟩
theorem RowDev.wide {w : World} {lo hi : Nat} {v : Value} {ws : List Int} {ps : List St} {es : List Int} {qs : List Se} (h : RowDev w lo hi v ws ps es qs) {lo' hi' : Nat} (a : lo' ≤ lo) (b : hi ≤ hi') : RowDev w lo' hi' v ws ps es qs := by
  obtain ⟨vW, vP, vS, vQ, l1, h1, l2, h2, e, r1, r2, c⟩ := h
  exact ⟨vW, vP, vS, vQ, l1, h1, l2, h2, e, r1, r2, by omega⟩
theorem RowDev.alloc {w : World} {lo hi : Nat} {v : Value} {ws : List Int} {ps : List St} {es : List Int} {qs : List Se} (h : RowDev w lo hi v ws ps es qs) (hz : hi ≤ w.heap.size) (o : Obj) : RowDev (w.alloc o) lo hi v ws ps es qs := h.below ((Below.refl _ _).alloc (Nat.le_refl _) o) hz
end Go.Proofs.YtcilodgoognmnaaGreatDoor

namespace Go.Proofs.YtcilodgoognmnaaGreatDoor
open Go.RowKit

set_option maxRecDepth 100000 in
set_option maxHeartbeats 2000000 in
theorem inodeUpdate_any (i f x : Int) (w : World) (hi : 0 ≤ i ∧ i < 16) (hf : 0 ≤ f ∧ f < 11) :
    Calls Tryz.prog 178 #[.int .i64 i, .int .i64 f, .int .i64 x] w fun e w' => e = .returned (.agg #[.int .i64 (48 + 12 * i + f), .int .i64 x]) ∧ Below w.heap.size w w' := by
  obtain ⟨k1, k2⟩ := ino_in hi hf
  have K1 := hideIt k1
  have K2 := hideIt k2
  clear k1 k2
  generalize 48 + 12 * i + f = at_ at *
  have BW := hideIt ((Below.refl w.heap.size w).alloc (Nat.le_refl _) (.cells #[.int .i64 0, .int .i64 0] 130))
  go_enter Tryz.func178, Tryz.ntmps178
  go_wp2_with fail
  refine (implInode_any _ _ _).mono ?_
  rw [K1.out, K2.out]
  rintro e w' ⟨rfl, hw'⟩
  subst w'
  go_wp2
  refine bodyPost_ret (v := .agg #[.int .i64 at_, .int .i64 x]) (by simp [results, Tryz.results178, go_sem]) rfl ⟨rfl, ?_⟩
  repeat (first | exact BW.out | exact Below.refl _ _ | refine Below.setCell ?_ (by exact Nat.le_refl _) _ | refine Below.alloc ?_ (by simp) _)

end Go.Proofs.YtcilodgoognmnaaGreatDoor
