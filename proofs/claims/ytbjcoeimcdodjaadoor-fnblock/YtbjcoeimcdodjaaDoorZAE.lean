/- Several texts laid together: SecS, Blk. -/
import Derived.Test.YtbjcoeimcdodjaaDoorIntS
import Derived.Deep.RegionWith
namespace Go.Proofs.YtbjcoeimcdodjaaDoor
open Go.RowKit
structure Se where
  at_ : Int
  val : Int
deriving DecidableEq
def Se.cells (s : Se) : List Value := [.int .i64 s.at_, .int .i64 s.val]
def ses (ps : List Se) : List Value := ps.flatMap Se.cells
theorem Se.cells_len (s : Se) : s.cells.length = 2 := rfl
theorem ses_at0 (ps : List Se) (k : Nat) (h : k < ps.length) : (ses ps)[k * 2]? = some (.int .i64 ps[k].at_) := flatMap_at _ 2 Se.cells_len ps k 0 h (by omega)
theorem ses_at1 (ps : List Se) (k : Nat) (h : k < ps.length) : (ses ps)[k * 2 + 1]? = some (.int .i64 ps[k].val) := flatMap_at _ 2 Se.cells_len ps k 1 h (by omega)
def RdE (w : World) (v : Value) (ps : List Se) : Prop := Rd w 2 v ps.length (ses ps)
theorem RdE.shape {w : World} {v : Value} {ps : List Se} (h : RdE w v ps) : ∃ ao cap, v = .slice ao ps.length cap ∧ ps.length ≤ cap ∧ (0 < ps.length → ∃ b o, ao = some ⟨b, o, none⟩ ∧ b < w.heap.size ∧
    ∀ k (h : k < ps.length), w.cell? ⟨b, o + k * 2, none⟩ = some (.int .i64 ps[k].at_) ∧ w.cell? ⟨b, o + k * 2 + 1, none⟩ = some (.int .i64 ps[k].val)) := by
  obtain ⟨_, ao, cap, rfl, h2, h3⟩ := h
  refine ⟨ao, cap, rfl, h2.1, fun hn => ?_⟩
  obtain ⟨b, o, rfl, hb, hc⟩ := h3 hn
  exact ⟨b, o, rfl, hb, fun k hk => ⟨(hc (k * 2) (by omega)).trans (ses_at0 ps k hk), (hc (k * 2 + 1) (by omega)).trans (ses_at1 ps k hk)⟩⟩
theorem infoSec : (Tryd.prog.info? 59).map (fun i => (i.zero, i.size, i.bytes)) = some (some (.agg #[.int .i64 0, .int .i64 0]), 2, 16) := by kernel_rfl
end Go.Proofs.YtbjcoeimcdodjaaDoor

namespace Go.Proofs.YtbjcoeimcdodjaaDoor
open Go.RowKit
def RdBlk (w : World) (v : Value) (ws : List Int) (ps : List Se) : Prop := ∃ vW vP, v = .agg #[vW, vP] ∧ RdI w vW ws ∧ RdE w vP ps
def RowZ (w : World) (lo hi : Nat) (v : Value) (n : Nat) (xs : List Value) : Prop := ∃ e, e ≠ 59 ∧ Row w e 1 lo hi v n xs
theorem RowZ.rd {w : World} {lo hi : Nat} {v : Value} {n : Nat} {xs : List Value} (h : RowZ w lo hi v n xs) : Rd w 1 v n xs := by
  obtain ⟨_, _, h⟩ := h
  exact h.rd
theorem RowZ.same {w w' : World} {lo hi : Nat} {v : Value} {n : Nat} {xs : List Value} (h : RowZ w lo hi v n xs) (hs : ∀ b, lo ≤ b → b < hi → w'.heap[b]? = w.heap[b]?) : RowZ w' lo hi v n xs := by
  obtain ⟨e, he, h⟩ := h
  exact ⟨e, he, h.same hs⟩
theorem RowZ.below {w w' : World} {lo hi : Nat} {v : Value} {n : Nat} {xs : List Value} (h : RowZ w lo hi v n xs) {B : Nat} (hb : Below B w w') (hB : hi ≤ B) : RowZ w' lo hi v n xs := by
  obtain ⟨e, he, h⟩ := h
  exact ⟨e, he, h.below hb hB⟩
theorem RowZ.wide {w : World} {lo hi : Nat} {v : Value} {n : Nat} {xs : List Value} (h : RowZ w lo hi v n xs) {lo' hi' : Nat} (h1 : lo' ≤ lo) (h2 : hi ≤ hi') : RowZ w lo' hi' v n xs := by
  obtain ⟨e, he, h⟩ := h
  exact ⟨e, he, h.wide h1 h2⟩
theorem RowZ.nil (w : World) (lo hi : Nat) : RowZ w lo hi (.slice none 0 0) 0 [] := ⟨3, by decide, Row.nil _ _ _ _ _⟩
theorem Row.z {w : World} {lo hi : Nat} {v : Value} {n : Nat} {xs : List Value} (h : Row w 3 1 lo hi v n xs) : RowZ w lo hi v n xs := ⟨3, by decide, h⟩
def RowBlk (w : World) (lo hi : Nat) (v : Value) (ws : List Int) (ps : List Se) : Prop := ∃ vW vP, v = .agg #[vW, vP] ∧ RowZ w lo hi vW ws.length (ints ws) ∧ Row w 59 2 lo hi vP ps.length (ses ps)
theorem RowBlk.rd {w : World} {lo hi : Nat} {v : Value} {ws : List Int} {ps : List Se} (h : RowBlk w lo hi v ws ps) : RdBlk w v ws ps := by
  obtain ⟨vW, vP, rfl, h1, h2⟩ := h
  exact ⟨vW, vP, rfl, h1.rd, h2.rd⟩
theorem RdBlk.below {w w' : World} {v : Value} {ws : List Int} {ps : List Se} (h : RdBlk w v ws ps) (hb : Below w.heap.size w w') : RdBlk w' v ws ps := by
  obtain ⟨vW, vP, rfl, h1, h2⟩ := h
  exact ⟨vW, vP, rfl, Rd.below h1 hb, Rd.below h2 hb⟩
theorem RowBlk.below {w w' : World} {lo hi : Nat} {v : Value} {ws : List Int} {ps : List Se} (h : RowBlk w lo hi v ws ps) {B : Nat} (hb : Below B w w') (hB : hi ≤ B) : RowBlk w' lo hi v ws ps := by
  obtain ⟨vW, vP, rfl, h1, h2⟩ := h
  exact ⟨vW, vP, rfl, h1.below hb hB, h2.below hb hB⟩
theorem RowBlk.wide {w : World} {lo hi : Nat} {v : Value} {ws : List Int} {ps : List Se} (h : RowBlk w lo hi v ws ps) {lo' hi' : Nat} (h1 : lo' ≤ lo) (h2 : hi ≤ hi') : RowBlk w lo' hi' v ws ps := by
  obtain ⟨vW, vP, rfl, a, b⟩ := h
  exact ⟨vW, vP, rfl, a.wide h1 h2, b.wide h1 h2⟩
end Go.Proofs.YtbjcoeimcdodjaaDoor
