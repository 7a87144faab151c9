/- Several texts laid together: AnL, OpL, BlkBar, MicO, DevC. -/
import Derived.Test.YtcilodgoognmnaaGreatDoorZBW
import Derived.Test.YtcilodgoognmnaaGreatDoorZAD
import Derived.Test.YtcilodgoognmnaaGreatDoorZBK
import Derived.Deep.RegionLaw
import Derived.Test.YtcilodgoognmnaaGreatDoorZAX
import Derived.Test.YtcilodgoognmnaaGreatDoorZAU
import Derived.Test.YtcilodgoognmnaaGreatDoorZAT
import Derived.Deep.RegionWith
import Derived.Deep.DeepCutAuto
namespace Go.Proofs.YtcilodgoognmnaaGreatDoor
open Go.RowKit

set_option maxRecDepth 100000 in
set_option maxHeartbeats 4000000 in
theorem eqAnswer_same (c v : Int) (va vb : Value) (ss : List ByteArray) (w : World) (ha : RdT w va ss) (hb : RdT w vb ss) (hn : ss.length ≤ 2147483648) :
    Calls Tryz.prog 32 #[.agg #[.int .i64 c, .int .i64 v, va], .agg #[.int .i64 c, .int .i64 v, vb]] w fun e w' => e = .returned (.bool true) ∧ Below w.heap.size w w' := by
  have LE := hideIt (fun w1 (h : Below w.heap.size w w1) => eqStringS_same va vb ss w1 (Rd.below ha h) (Rd.below hb h) hn)
  obtain ⟨-, aa, ca, rfl, -⟩ := ha
  obtain ⟨-, ab, cb, rfl, -⟩ := hb
  have BW : Hid (Below w.heap.size w ((w.alloc (.cells #[.int .i64 c, .int .i64 v, .slice aa ss.length ca] 75)).alloc (.cells #[.int .i64 c, .int .i64 v, .slice ab ss.length cb] 75))) := ((Below.refl _ _).alloc (Nat.le_refl _) _).alloc (by simp) _
  go_enter Tryz.func32, Tryz.ntmps32
  go_wp2_with fail
  refine (LE.out _ BW.out).mono ?_
  rintro e w1 ⟨rfl, hb1⟩
  have B1 := hideIt (below_trans BW.out hb1 BW.out.size)
  clear hb1
  go_wp2
  go_ret
  exact ⟨rfl, B1.out⟩
set_option maxRecDepth 100000 in
set_option maxHeartbeats 4000000 in
theorem markAnswer_any (c v : Int) (vN : Value) (ss : List ByteArray) (k0 : Int) (lo hi : Nat) (w : World) (h : Row w 9 1 lo hi vN ss.length (strs ss)) (hz : hi ≤ w.heap.size) (hn : ss.length ≤ 16777216) (h0 : 0 ≤ k0) (h1 : k0 ≤ 1099511627776) :
    Calls Tryz.prog 33 #[.agg #[.int .i64 c, .int .i64 v, vN], .int .i64 k0] w fun e w' => e = .returned (.int .i64 (k0 + ss.length)) ∧ Row w' 9 1 lo hi vN ss.length (strs (marksT k0 ss.length)) ∧ ∃ wa, Below w.heap.size w wa ∧ hi ≤ wa.heap.size ∧ wa.grownBy w' vN.ownBlock := by
  obtain ⟨-, aa, ca, rfl, -⟩ := h.rd
  have BW : Hid (Below w.heap.size w (w.alloc (.cells #[.int .i64 c, .int .i64 v, .slice aa ss.length ca] 75))) := (Below.refl _ _).alloc (Nat.le_refl _) _
  have LM := hideIt (markStringS_any (.slice aa ss.length ca) ss k0 lo hi (w.alloc (.cells #[.int .i64 c, .int .i64 v, .slice aa ss.length ca] 75)) (h.below BW.out hz) (Nat.le_trans hz BW.out.size) hn h0 h1)
  have hz2 : hi ≤ (w.alloc (.cells #[.int .i64 c, .int .i64 v, .slice aa ss.length ca] 75)).heap.size := Nat.le_trans hz BW.out.size
  have Z2 := hideIt hz2
  clear h hz hz2
  go_enter Tryz.func33, Tryz.ntmps33
  go_wp2_with fail
  refine LM.out.mono ?_
  rintro e w1 ⟨rfl, hr1, hg1, -⟩
  have R1 := hideIt hr1
  have G1 := hideIt hg1
  clear hr1 hg1 LM
  go_wp2
  go_ret
  exact ⟨rfl, R1.out, _, BW.out, Z2.out, G1.out⟩
set_option maxRecDepth 100000 in
set_option maxHeartbeats 4000000 in
theorem heldAnswer_any (c v : Int) (vN : Value) (n : Nat) (k0 : Int) (w : World) (h : RdT w vN (marksT k0 n)) (hn : n ≤ 16777216) (h0 : 0 ≤ k0) (h1 : k0 ≤ 1099511627776) :
    Calls Tryz.prog 34 #[.agg #[.int .i64 c, .int .i64 v, vN], .int .i64 k0] w fun e w' => e = .returned (.int .i64 (k0 + n)) ∧ Below w.heap.size w w' := by
  have LH := hideIt (fun w1 (hb : Below w.heap.size w w1) => heldStringS_any vN n k0 w1 (Rd.below h hb) hn h0 h1)
  obtain ⟨-, aa, ca, e, -⟩ := h
  rw [marksT_len] at e
  subst e
  have BW : Hid (Below w.heap.size w (w.alloc (.cells #[.int .i64 c, .int .i64 v, .slice aa n ca] 75))) := (Below.refl _ _).alloc (Nat.le_refl _) _
  have q : ¬ k0 + (n : Int) < 0 := by omega
  go_enter Tryz.func34, Tryz.ntmps34
  go_wp2_with fail
  refine (LH.out _ BW.out).mono ?_
  rintro e w1 ⟨rfl, hb1⟩
  have B1 := hideIt (below_trans BW.out hb1 BW.out.size)
  clear hb1
  go_wp2
  go_ret
  exact ⟨rfl, B1.out⟩
/-- A box of another kind stays while a row grows. -/
theorem grown_box {w w' : World} {base : Nat} {e t : TypeId} {size : Nat} {v : Value} {n : Nat} {xs : List Value} {b : Nat} {c : Array Value} {fr : Nat × Nat} (h : w.ownsRow base e size v n xs) (hb : w.heap[b]? = some (.cells c t fr)) (hne : e ≠ t) (hg : w.grownBy w' v.ownBlock) : w'.heap[b]? = some (.cells c t fr) :=
  (hg.block b (Array.getElem?_eq_some_iff.1 hb).1 (fun q => own_type h hb hne q.symm)).trans hb
/-- Steps and an answer that a region has made: the answer's box, and the rows. -/
structure CutO (w0 wx : World) (vS vN : Value) (bx : Nat) (A : OpA) : Prop where
  t : OpT w0 wx vS vN A.steps A.names
  bx0 : w0.heap.size ≤ bx
  box : wx.heap[bx]? = some (.cells #[.int .i64 A.code, .int .i64 A.val, vN] 75 (0, 0))
theorem OpT.drew {w w1 : World} {vS vN : Value} {L : List Mi} {ss : List ByteArray} (h : OpT w w1 vS vN L ss) : OpT w w1.drew vS vN L ss := h.below ((Below.refl w1.heap.size w1).drew)
theorem CutO.drew {w0 wx : World} {vS vN : Value} {bx : Nat} {A : OpA} (h : CutO w0 wx vS vN bx A) : CutO w0 wx.drew vS vN bx A := ⟨h.t.drew, h.bx0, h.box⟩
theorem CutO.new {w0 wf : World} {vS vN : Value} {A : OpA} (h : OpT w0 wf vS vN A.steps A.names) : CutO w0 (wf.alloc (.cells #[.int .i64 A.code, .int .i64 A.val, vN] 75)) vS vN wf.heap.size A :=
  ⟨h.below ((Below.refl _ _).alloc (Nat.le_refl _) _), h.b.size, at_new rfl⟩
theorem CutO.old {w0 wf : World} {vS vN : Value} {bx : Nat} {A : OpA} {x y z : Value} (h : OpT w0 wf vS vN A.steps A.names) (hb : wf.heap[bx]? = some (.cells #[x, y, z] 75 (0, 0))) (hx : w0.heap.size ≤ bx) : CutO w0 (((wf.setCell ⟨bx, 0, none⟩ (.int .i64 A.code)).setCell ⟨bx, 1, none⟩ (.int .i64 A.val)).setCell ⟨bx, 2, none⟩ vN) vS vN bx A :=
  ⟨((h.set hb hx 0 _).set (puA hb _) hx 1 _).set (puB (puA hb _) _) hx 2 _, hx, puC (puB (puA hb _) _) _⟩
end Go.Proofs.YtcilodgoognmnaaGreatDoor

namespace Go.Proofs.YtcilodgoognmnaaGreatDoor
open Go.RowKit

set_option maxRecDepth 100000 in
set_option maxHeartbeats 2000000 in
theorem toOp_any (k : Int) (p t : ByteArray) (g x : Int) (w : World) : Calls Tryz.prog 30 #[.agg #[.int .i64 k, .string p, .string t, .int .i64 g, .int .i64 x]] w fun e w' => e = .returned (.agg #[.int .i64 k, .string p, .string t, .int .i64 g, .int .i64 x]) ∧ Below w.heap.size w w' := by
  go_enter Tryz.func30, Tryz.ntmps30
  go_wp2
  refine bodyPost_ret (v := .agg #[.int .i64 k, .string p, .string t, .int .i64 g, .int .i64 x]) (by simp [results, Tryz.results30, go_sem]) rfl ⟨rfl, ?_⟩
  repeat (first | exact Below.refl _ _ | refine Below.setCell ?_ (by simp only; omega) _ | refine Below.alloc ?_ (by simp <;> omega) _)
/-- What is left behind the texts; -1 where they are too long. -/
def opZ (p t : ByteArray) (left : Int) : Int := if left < (p.size : Int) + (t.size : Int) then -1 else left - (p.size : Int) - (t.size : Int)
set_option maxRecDepth 100000 in
set_option maxHeartbeats 2000000 in
theorem szOp_any (k : Int) (p t : ByteArray) (g x left : Int) (w : World) (hp : p.size ≤ maxLen) (ht : t.size ≤ maxLen) (h0 : 0 ≤ left) (h1 : left ≤ 1048576) : Calls Tryz.prog 28 #[.agg #[.int .i64 k, .string p, .string t, .int .i64 g, .int .i64 x], .int .i64 left] w fun e w' => e = .returned (.int .i64 (opZ p t left)) ∧ Below w.heap.size w w' := by
  unfold maxLen at hp ht
  have EO := hideIt (show opZ p t left = if left < (p.size : Int) + (t.size : Int) then -1 else left - (p.size : Int) - (t.size : Int) from rfl)
  have BW := hideIt ((Below.refl w.heap.size w).alloc (Nat.le_refl _) (.cells #[.int .i64 k, .string p, .string t, .int .i64 g, .int .i64 x] 71))
  generalize opZ p t left = r at *
  by_cases c : left < (p.size : Int)
  · rw [if_pos (by omega)] at EO
    obtain rfl := EO.out
    have c' : left - (p.size : Int) < 0 := by omega
    go_enter Tryz.func28, Tryz.ntmps28
    go_wp2
    go_ret
    exact ⟨rfl, BW.out⟩
  have c' : ¬ left - (p.size : Int) < 0 := by omega
  by_cases d : left < (p.size : Int) + (t.size : Int)
  · rw [if_pos d] at EO
    obtain rfl := EO.out
    have d' : left - (p.size : Int) - (t.size : Int) < 0 := by omega
    go_enter Tryz.func28, Tryz.ntmps28
    go_wp2
    go_ret
    exact ⟨rfl, BW.out⟩
  · rw [if_neg d] at EO
    obtain rfl := EO.out
    have d' : ¬ left - (p.size : Int) - (t.size : Int) < 0 := by omega
    go_enter Tryz.func28, Tryz.ntmps28
    go_wp2
    go_ret
    exact ⟨rfl, BW.out⟩
end Go.Proofs.YtcilodgoognmnaaGreatDoor

namespace Go.Proofs.YtcilodgoognmnaaGreatDoor
open Go.RowKit

/-- The sectors with the writes laid one after the other. -/
def layE (ws : List Int) (ps : List Se) : List Int := ps.foldl (fun acc p => acc.set p.at_.toNat p.val) ws
/-- In the midst of a barrier: the sectors so far, and the writes. -/
structure BarInv (w wr : World) (eZ : TypeId) (ws : List Int) (ps : List Se) (lo hi : Nat) (vW vP : Value) (m : Nat) : Prop where
  words : Row wr eZ 1 lo hi vW ws.length (ints (layE ws (ps.take m)))
  pend : Row wr 200 2 lo hi vP ps.length (ses ps)
  box : wr.heap[w.heap.size]? = some (.cells #[vW, vP] 39 (0, 0))
  res : wr.heap[w.heap.size + 1]? = some (.cells #[.slice none 0 0, .slice none 0 0] 39 (0, 0))
  below : Below w.heap.size w wr
  size : hi ≤ wr.heap.size
theorem BarInv.drew {w wr : World} {eZ : TypeId} {ws : List Int} {ps : List Se} {lo hi : Nat} {vW vP : Value} {m : Nat} (h : BarInv w wr eZ ws ps lo hi vW vP m) : BarInv w wr.drew eZ ws ps lo hi vW vP m := by
  obtain ⟨h1, h2, h4, h5, h6, h7⟩ := h
  exact ⟨h1.same (fun _ _ _ => rfl), h2.same (fun _ _ _ => rfl), h4, h5, h6.drew, h7⟩

end Go.Proofs.YtcilodgoognmnaaGreatDoor

namespace Go.Proofs.YtcilodgoognmnaaGreatDoor
open Go.RowKit

/-- The answer's box, filled. -/
def putR (w : World) (bR : Nat) (a b c d : Value) : World := (((w.setCell ⟨bR, 0, none⟩ a).setCell ⟨bR, 1, none⟩ b).setCell ⟨bR, 2, none⟩ c).setCell ⟨bR, 3, none⟩ d
theorem putR_out (w : World) (bR : Nat) (a b c d : Value) : Outside bR (bR + 1) w (putR w bR a b c d) := by
  unfold putR
  repeat (refine Outside.setCell ?_ (by simp only; omega) (by simp only; omega) _)
  exact Outside.refl _ _ _
theorem putR_size (w : World) (bR : Nat) (a b c d : Value) : (putR w bR a b c d).heap.size = w.heap.size := by simp [putR, World.setCell]

end Go.Proofs.YtcilodgoognmnaaGreatDoor

namespace Go.Proofs.YtcilodgoognmnaaGreatDoor
open Go.RowKit

theorem below_allocD {a w : World} (h : Below a.heap.size a w) (o : Obj) : Below a.heap.size a (w.alloc o) := h.alloc h.size o
/-- The devices that a region has made: their box, and the blocks that they lie in. -/
structure CutD (w0 wx : World) (v0 v1 v2 v3 : Value) (W : List Int) (P : List St) (E : List Int) (Q : List Se) (bx lo hi : Nat) : Prop where
  lo0 : w0.heap.size ≤ lo
  hi1 : hi ≤ wx.heap.size
  bx0 : w0.heap.size ≤ bx
  bx1 : bx < wx.heap.size
  apart : bx < lo ∨ hi ≤ bx
  box : wx.heap[bx]? = some (.cells #[v0, v1, v2, v3] 41 (0, 0))
  row : RowDev wx lo hi (.agg #[v0, v1, v2, v3]) W P E Q
  below : Below w0.heap.size w0 wx
theorem CutD.drew {w0 wx : World} {v0 v1 v2 v3 : Value} {W : List Int} {P : List St} {E : List Int} {Q : List Se} {bx lo hi : Nat} (h : CutD w0 wx v0 v1 v2 v3 W P E Q bx lo hi) : CutD w0 wx.drew v0 v1 v2 v3 W P E Q bx lo hi :=
  ⟨h.lo0, h.hi1, h.bx0, h.bx1, h.apart, h.box, h.row.below ((Below.refl _ _).drew) h.hi1, h.below.drew⟩
theorem CutD.new {w0 wf : World} {v0 v1 v2 v3 : Value} {W : List Int} {P : List St} {E : List Int} {Q : List Se} {lo hi : Nat} (hr : RowDev wf lo hi (.agg #[v0, v1, v2, v3]) W P E Q) (hlo : w0.heap.size ≤ lo) (hhi : hi ≤ wf.heap.size) (hb : Below w0.heap.size w0 wf) : CutD w0 (wf.alloc (.cells #[v0, v1, v2, v3] 41)) v0 v1 v2 v3 W P E Q wf.heap.size lo hi :=
  ⟨hlo, by simp; omega, hb.size, by simp, .inr hhi, at_new rfl, hr.alloc hhi _, below_allocD hb _⟩
theorem CutD.old {w0 wf : World} {v0 v1 v2 v3 : Value} {W : List Int} {P : List St} {E : List Int} {Q : List Se} {bx lo hi : Nat} (hlt : bx < lo) (hr : RowDev wf lo hi (.agg #[v0, v1, v2, v3]) W P E Q) (hlo : w0.heap.size ≤ lo) (hhi : hi ≤ wf.heap.size) (hb : Below w0.heap.size w0 wf) (hx : w0.heap.size ≤ bx) (hv : wf.heap[bx]? = some (.cells #[.slice none 0 0, .slice none 0 0, .slice none 0 0, .slice none 0 0] 41 (0, 0))) : CutD w0 (putR wf bx v0 v1 v2 v3) v0 v1 v2 v3 W P E Q bx lo hi :=
  ⟨hlo, by rw [putR_size]; exact hhi, hx, by rw [putR_size]; exact (Array.getElem?_eq_some_iff.1 hv).1, .inl hlt, by simp [putR, World.setCell, Array.getElem?_modify, hv], hr.outside (putR_out wf bx v0 v1 v2 v3) (by omega) hhi, hb.trans ((putR_out wf bx v0 v1 v2 v3).below hx hb.size)⟩
end Go.Proofs.YtcilodgoognmnaaGreatDoor
