/- New devices: where they lie. -/
import Derived.Test.YtihmihkhkmadmaaDoorPiE
import Derived.Test.YtihmihkhkmadmaaDoorZBC
import Derived.Deep.DeepCutAuto
import Derived.Deep.RegionWith
import Derived.BigRegion
namespace Go.Proofs.YtihmihkhkmadmaaDoor
open Go.RowKit
def zs336 : List Int := List.replicate 336 0
def zs32 : List Int := List.replicate 32 0
theorem zs336_len : zs336.length = 336 := List.length_replicate ..
theorem zs32_len : zs32.length = 32 := List.length_replicate ..
def ndW : List Int := ((zs336.set 0 7).set 48 2).set 50 1
def n336 : Array Value := (ints zs336).toArray
def n32 : Array Value := (ints zs32).toArray
theorem made336N : madeCells #[Value.int .i64 0] (336 * 1) = n336 := by kernel_rfl
theorem made32 : madeCells #[Value.int .i64 0] (32 * 1) = n32 := by kernel_rfl
theorem run_make336N (w : World) : (Instr.makeSlice 40 (.int .i64 336) (.int .i64 336)).run Tryd.prog w = .ok (.slice (some ⟨w.heap.size, 0, none⟩) 336 336) (w.alloc (.cells n336 3)) := by
  rw [← made336N]
  exact run_make_rows (P := Tryd.prog) 40 3 (.int .i64 0) 1 8 Tryd.underlying40 info3 .i64 .i64 336 (by decide) (by decide) w
theorem run_make32 (w : World) : (Instr.makeSlice 40 (.int .i64 32) (.int .i64 32)).run Tryd.prog w = .ok (.slice (some ⟨w.heap.size, 0, none⟩) 32 32) (w.alloc (.cells n32 3)) := by
  rw [← made32]
  exact run_make_rows (P := Tryd.prog) 40 3 (.int .i64 0) 1 8 Tryd.underlying40 info3 .i64 .i64 32 (by decide) (by decide) w
structure NDc (w0 wx : World) (bw bs bx : Nat) (vP vQ : Value) (W : List Int) : Prop where
  hw : wx.heap[bw]? = some (.cells (ints W).toArray 3 (0, 0))
  hs : wx.heap[bs]? = some (.cells n32 3 (0, 0))
  hx : wx.heap[bx]? = some (.cells #[.slice (some ⟨bw, 0, none⟩) 336 336, vP, .slice (some ⟨bs, 0, none⟩) 32 32, vQ] 48 (0, 0))
  d1 : ¬ bw = bs
  d2 : ¬ bw = bx
  d3 : ¬ bs = bx
  l1 : w0.heap.size ≤ bw
  l2 : w0.heap.size ≤ bs
  l3 : w0.heap.size ≤ bx
  b : Below w0.heap.size w0 wx
theorem NDc.drew {w0 wx : World} {bw bs bx : Nat} {vP vQ : Value} {W : List Int} (h : NDc w0 wx bw bs bx vP vQ W) : NDc w0 wx.drew bw bs bx vP vQ W :=
  ⟨h.hw, h.hs, h.hx, h.d1, h.d2, h.d3, h.l1, h.l2, h.l3, h.b.drew⟩
theorem NDc.mk0 {w0 wx : World} {bw bs bx : Nat} {vP vQ : Value} (hx : wx.heap[bx]? = some (.cells #[.slice (some ⟨bw, 0, none⟩) 336 336, vP, .slice (some ⟨bs, 0, none⟩) 32 32, vQ] 48 (0, 0)))
    (hw : wx.heap[bw]? = some (.cells n336 3 (0, 0))) (hs : wx.heap[bs]? = some (.cells n32 3 (0, 0))) (d1 : ¬ bw = bs) (d2 : ¬ bw = bx) (d3 : ¬ bs = bx) (l1 : w0.heap.size ≤ bw) (l2 : w0.heap.size ≤ bs) (l3 : w0.heap.size ≤ bx) (b : Below w0.heap.size w0 wx) : NDc w0 wx bw bs bx vP vQ zs336 := ⟨hw, hs, hx, d1, d2, d3, l1, l2, l3, b⟩
theorem NDc.store {w0 wx : World} {bw bs bx : Nat} {vP vQ : Value} {W : List Int} (h : NDc w0 wx bw bs bx vP vQ W) (j : Nat) (x : Int) : NDc w0 (wx.setCell ⟨bw, j, none⟩ (.int .i64 x)) bw bs bx vP vQ (W.set j x) := by
  have d1 := h.d1
  have d2 := h.d2
  refine ⟨?_, (Below.heap_setCell _ _ _ _ (by simp only; omega)).trans h.hs, (Below.heap_setCell _ _ _ _ (by simp only; omega)).trans h.hx, h.d1, h.d2, h.d3, h.l1, h.l2, h.l3, h.b.setCell h.l1 _⟩
  rw [← ints_set]
  exact eight_set h.hw j _
theorem NDc.below {w0 wx wy : World} {bw bs bx : Nat} {vP vQ : Value} {W : List Int} (h : NDc w0 wx bw bs bx vP vQ W) (hb : Below wx.heap.size wx wy) : NDc w0 wy bw bs bx vP vQ W :=
  ⟨(hb.block _ (Array.getElem?_eq_some_iff.1 h.hw).1).trans h.hw, (hb.block _ (Array.getElem?_eq_some_iff.1 h.hs).1).trans h.hs, (hb.block _ (Array.getElem?_eq_some_iff.1 h.hx).1).trans h.hx, h.d1, h.d2, h.d3, h.l1, h.l2, h.l3, below_trans h.b hb h.b.size⟩
theorem NDc.at {w0 wx : World} {bw bs bx : Nat} {vP vQ : Value} {W : List Int} (h : NDc w0 wx bw bs bx vP vQ W) (j : Nat) (hj : j < W.length) : wx.cell? ⟨bw, j, none⟩ = some (.int .i64 W[j]) ∧ wx.frozen? ⟨bw, j, none⟩ = false := by
  obtain ⟨a, b⟩ := eight_at h.hw j
  exact ⟨a.trans (ints_at W j hj), b⟩
theorem row_cells {w : World} {b n : Nat} {zs : List Int} (h : w.heap[b]? = some (.cells (ints zs).toArray 3 (0, 0))) (hn : zs.length = n) (hm : n ≤ maxLen) : Row w 3 1 b (b + 1) (.slice (some ⟨b, 0, none⟩) n n) n (ints zs) := by
  subst hn
  refine ⟨⟨by rw [ints_len, Nat.mul_one], .inr ⟨b, zs.length, (ints zs).toArray, rfl, Nat.le_refl _, h, Nat.le_refl _, hm, ?_, ?_⟩⟩, fun k hk => by cases hk; exact Nat.lt_succ_self _⟩
  · rw [List.size_toArray, ints_len, Nat.mul_one]
  · rw [Nat.mul_one, List.take_of_length_le (by rw [ints_len]; exact Nat.le_refl _)]
theorem ndW_len : ndW.length = 336 := by unfold ndW; rw [List.length_set, List.length_set, List.length_set, zs336_len]
theorem NDc.rowDev {w0 wx : World} {bw bs bx : Nat} (h : NDc w0 wx bw bs bx (.slice none 0 0) (.slice none 0 0) ndW) {lo : Nat} (hlo : lo ≤ w0.heap.size) : RowDev wx lo wx.heap.size (.agg #[.slice (some ⟨bw, 0, none⟩) 336 336, .slice none 0 0, .slice (some ⟨bs, 0, none⟩) 32 32, .slice none 0 0]) ndW [] zs32 [] := by
  have l1 := h.l1
  have l2 := h.l2
  have d1 := h.d1
  have u1 := (Array.getElem?_eq_some_iff.1 h.hw).1
  have u2 := (Array.getElem?_eq_some_iff.1 h.hs).1
  have r1 := row_cells h.hw ndW_len (by simp [maxLen])
  have r2 := row_cells h.hs zs32_len (by simp [maxLen])
  exact ⟨_, _, _, _, bw, bw + 1, bs, bs + 1, rfl, ⟨_, _, rfl, by rw [ndW_len]; exact r1, Row.nil _ _ _ _ _⟩, ⟨_, _, rfl, by rw [zs32_len]; exact r2.z, Row.nil _ _ _ _ _⟩, by omega, by omega, by omega, by omega, by omega⟩
end Go.Proofs.YtihmihkhkmadmaaDoor
