/- Several texts laid together: NdA, SameW, ImgW, FsC. -/
import Derived.Test.YtbbmljakfbhnpaaGreatDoorZAF
import Derived.Test.YtbbmljakfbhnpaaGreatDoorZAS
import Derived.Deep.DeepCutAuto
import Derived.Deep.RegionWith
import Derived.BigRegion
import Derived.Test.YtbbmljakfbhnpaaGreatDoorZAD
import Derived.Test.YtbbmljakfbhnpaaGreatDoorZAB
import Derived.Test.YtbbmljakfbhnpaaGreatDoorZAX
import Derived.Test.YtbbmljakfbhnpaaGreatDoorZAG
import Derived.Deep.RegionHeld3
import Derived.Test.YtbbmljakfbhnpaaGreatDoorZBJ
import Derived.Test.YtbbmljakfbhnpaaGreatDoorZBK
import Derived.Test.YtbbmljakfbhnpaaGreatDoorZAW
import Derived.Test.YtbbmljakfbhnpaaGreatDoorZAK
namespace Go.Proofs.YtbbmljakfbhnpaaGreatDoor
open Go.RowKit

def zeu : List Int := List.replicate 336 0
def zs32 : List Int := List.replicate 32 0
theorem zcs : zeu.length = 336 := List.length_replicate ..
theorem zli : zs32.length = 32 := List.length_replicate ..
/-- The words of new devices. -/
def ndW : List Int := ((zeu.set 0 7).set 48 2).set 50 1
def n336 : Array Value := (zco zeu).toArray
def n32 : Array Value := (zco zs32).toArray
theorem made336N : madeCells #[Value.int .i64 0] (336 * 1) = n336 := by kernel_rfl
theorem made32 : madeCells #[Value.int .i64 0] (32 * 1) = n32 := by kernel_rfl
theorem zkm (w : World) : (Instr.makeSlice 28 (.int .i64 336) (.int .i64 336)).run Tryz.prog w = .ok (.slice (some ⟨w.heap.size, 0, none⟩) 336 336) (w.alloc (.cells n336 3)) := by
 rw [← made336N]
 exact zjh (P := Tryz.prog) 28 3 (.int .i64 0) 1 8 Tryz.underlying28 zjk .i64 .i64 336 (by decide) (by decide) w
theorem zou (w : World) : (Instr.makeSlice 28 (.int .i64 32) (.int .i64 32)).run Tryz.prog w = .ok (.slice (some ⟨w.heap.size, 0, none⟩) 32 32) (w.alloc (.cells n32 3)) := by
 rw [← made32]
 exact zjh (P := Tryz.prog) 28 3 (.int .i64 0) 1 8 Tryz.underlying28 zjk .i64 .i64 32 (by decide) (by decide) w
/-- The blocks of new devices: words, sectors, and the box. -/
structure NDc (w0 wx : World) (bw bs bx : Nat) (vP vQ : Value) (W : List Int) : Prop where
 hw : wx.heap[bw]? = some (.cells (zco W).toArray 3 (0, 0))
 hs : wx.heap[bs]? = some (.cells n32 3 (0, 0))
 hx : wx.heap[bx]? = some (.cells #[.slice (some ⟨bw, 0, none⟩) 336 336, vP, .slice (some ⟨bs, 0, none⟩) 32 32, vQ] 36 (0, 0))
 d1 : ¬ bw = bs
 d2 : ¬ bw = bx
 d3 : ¬ bs = bx
 l1 : w0.heap.size ≤ bw
 l2 : w0.heap.size ≤ bs
 l3 : w0.heap.size ≤ bx
 b : Below w0.heap.size w0 wx
theorem NDc.drew {w0 wx : World} {bw bs bx : Nat} {vP vQ : Value} {W : List Int} (h : NDc w0 wx bw bs bx vP vQ W) : NDc w0 wx.drew bw bs bx vP vQ W :=
 ⟨h.hw, h.hs, h.hx, h.d1, h.d2, h.d3, h.l1, h.l2, h.l3, h.b.drew⟩
theorem NDc.mk0 {w0 wx : World} {bw bs bx : Nat} {vP vQ : Value} (hx : wx.heap[bx]? = some (.cells #[.slice (some ⟨bw, 0, none⟩) 336 336, vP, .slice (some ⟨bs, 0, none⟩) 32 32, vQ] 36 (0, 0)))
  (hw : wx.heap[bw]? = some (.cells n336 3 (0, 0))) (hs : wx.heap[bs]? = some (.cells n32 3 (0, 0))) (d1 : ¬ bw = bs) (d2 : ¬ bw = bx) (d3 : ¬ bs = bx) (l1 : w0.heap.size ≤ bw) (l2 : w0.heap.size ≤ bs) (l3 : w0.heap.size ≤ bx) (b : Below w0.heap.size w0 wx) : NDc w0 wx bw bs bx vP vQ zeu := ⟨hw, hs, hx, d1, d2, d3, l1, l2, l3, b⟩
theorem NDc.store {w0 wx : World} {bw bs bx : Nat} {vP vQ : Value} {W : List Int} (h : NDc w0 wx bw bs bx vP vQ W) (j : Nat) (x : Int) : NDc w0 (wx.setCell ⟨bw, j, none⟩ (.int .i64 x)) bw bs bx vP vQ (W.set j x) := by
 have d1 := h.d1
 have d2 := h.d2
 refine ⟨?_, (Below.heap_setCell _ _ _ _ (by simp only; omega)).trans h.hs, (Below.heap_setCell _ _ _ _ (by simp only; omega)).trans h.hx, h.d1, h.d2, h.d3, h.l1, h.l2, h.l3, h.b.setCell h.l1 _⟩
 rw [← zft]
 exact zbh h.hw j _
theorem NDc.below {w0 wx wy : World} {bw bs bx : Nat} {vP vQ : Value} {W : List Int} (h : NDc w0 wx bw bs bx vP vQ W) (hb : Below wx.heap.size wx wy) : NDc w0 wy bw bs bx vP vQ W :=
 ⟨(hb.block _ (Array.getElem?_eq_some_iff.1 h.hw).1).trans h.hw, (hb.block _ (Array.getElem?_eq_some_iff.1 h.hs).1).trans h.hs, (hb.block _ (Array.getElem?_eq_some_iff.1 h.hx).1).trans h.hx, h.d1, h.d2, h.d3, h.l1, h.l2, h.l3, zab h.b hb h.b.size⟩
theorem NDc.at {w0 wx : World} {bw bs bx : Nat} {vP vQ : Value} {W : List Int} (h : NDc w0 wx bw bs bx vP vQ W) (j : Nat) (hj : j < W.length) : wx.cell? ⟨bw, j, none⟩ = some (.int .i64 W[j]) ∧ wx.frozen? ⟨bw, j, none⟩ = false := by
 obtain ⟨a, b⟩ := zao h.hw j
 exact ⟨a.trans (zcq W j hj), b⟩
/-- New devices lie somewhere. -/
def NDr (w0 : World) (s : Value) (wx : World) : Prop := ∃ (bw bs bx : Nat) (aP aQ : Option Addr), s = .pointer (some ⟨bx, 0, none⟩) ∧ NDc w0 wx bw bs bx (.slice aP 0 0) (.slice aQ 0 0) zeu
theorem NDr.mk {w0 wx : World} {bw bs bx : Nat} {aP aQ : Option Addr} (h : NDc w0 wx bw bs bx (.slice aP 0 0) (.slice aQ 0 0) zeu) : NDr w0 (.pointer (some ⟨bx, 0, none⟩)) wx := ⟨bw, bs, bx, aP, aQ, rfl, h⟩
/-- Numbers in a block of their own. -/
theorem rd_cells {w : World} {b n : Nat} {zs : List Int} (h : w.heap[b]? = some (.cells (zco zs).toArray 3 (0, 0))) (hn : zs.length = n) : RdI w (.slice (some ⟨b, 0, none⟩) n n) zs := by
 subst hn
 refine ⟨by rw [zda, Nat.mul_one], some ⟨b, 0, none⟩, zs.length, rfl, ⟨Nat.le_refl _, fun e => by cases e⟩, fun _ => ⟨b, 0, rfl, (Array.getElem?_eq_some_iff.1 h).1, fun j hj => ?_⟩⟩
 rw [Nat.zero_add]
 exact (zao (xs := zco zs) h j).1
theorem zub {w : World} {b n : Nat} {zs : List Int} (h : w.heap[b]? = some (.cells (zco zs).toArray 3 (0, 0))) (hn : zs.length = n) (hm : n ≤ maxLen) : Row w 3 1 b (b + 1) (.slice (some ⟨b, 0, none⟩) n n) n (zco zs) := by
 subst hn
 refine ⟨⟨by rw [zda, Nat.mul_one], .inr ⟨b, zs.length, (zco zs).toArray, rfl, Nat.le_refl _, h, Nat.le_refl _, hm, ?_, ?_⟩⟩, fun k hk => by cases hk; exact Nat.lt_succ_self _⟩
 ·rw [List.size_toArray, zda, Nat.mul_one]
 ·rw [Nat.mul_one, List.take_of_length_le (by rw [zda]; exact Nat.le_refl _)]
theorem rd_empty (w : World) (size : Nat) (a : Option Addr) : Rd w size (.slice a 0 0) 0 [] := ⟨by simp, a, 0, rfl, ⟨Nat.le_refl _, fun _ => rfl⟩, fun h => absurd h (by omega)⟩
theorem zjw : ndW.length = 336 := by unfold ndW; rw [List.length_set, List.length_set, List.length_set, zcs]
theorem NDc.rowDev {w0 wx : World} {bw bs bx : Nat} (h : NDc w0 wx bw bs bx (.slice none 0 0) (.slice none 0 0) ndW) {lo : Nat} (hlo : lo ≤ w0.heap.size) : RowDev wx lo wx.heap.size (.agg #[.slice (some ⟨bw, 0, none⟩) 336 336, .slice none 0 0, .slice (some ⟨bs, 0, none⟩) 32 32, .slice none 0 0]) ndW [] zs32 [] := by
 have l1 := h.l1
 have l2 := h.l2
 have d1 := h.d1
 have u1 := (Array.getElem?_eq_some_iff.1 h.hw).1
 have u2 := (Array.getElem?_eq_some_iff.1 h.hs).1
 have r1 := zub h.hw zjw (by simp [maxLen])
 have r2 := zub h.hs zli (by simp [maxLen])
 exact ⟨_, _, _, _, bw, bw + 1, bs, bs + 1, rfl, ⟨_, _, rfl, by rw [zjw]; exact r1, Row.nil _ _ _ _ _⟩, ⟨_, _, rfl, by rw [zli]; exact r2.z, Row.nil _ _ _ _ _⟩, by omega, by omega, by omega, by omega, by omega⟩
end Go.Proofs.YtbbmljakfbhnpaaGreatDoor

namespace Go.Proofs.YtbbmljakfbhnpaaGreatDoor
open Go.RowKit

theorem zjc {c w' : World} {b : Nat} {o : Obj} {B : Nat} (h : c.heap[b]? = some o) (hb : Below B c w') (hB : b < B) : w'.heap[b]? = some o := (hb.block b hB).trans h
theorem zoo {c : World} {b : Nat} {o : Obj} (h : c.heap[b]? = some o) : b < c.heap.size := (Array.getElem?_eq_some_iff.1 h).1
set_option maxHeartbeats 1000000 in
theorem zgg (va vb : Value) (l : List Se) (w : World) (ha : RdE w va l) (hb : RdE w vb l) (hn : l.length ≤ 2147483648) :
  Calls Tryz.prog 11 #[va, vb] w fun e w' => e = .returned (.bool true) ∧ Below w.heap.size w w' := by
 obtain ⟨ao, cap, rfl, hcap, hc⟩ := ha.shape
 obtain ⟨ao2, cap2, rfl, hcap2, hc2⟩ := hb.shape
 clear ha hb
 go_enter Tryz.func11, Tryz.ntmps11
 go_wp2
 go_loopw [5] (fun i wr => ∃ k : Nat, k ≤ l.length ∧ i = .int .i64 k ∧ Below w.heap.size w wr) (fun i _ => l.length - (intOf i).toNat)
 case atStart => exact ⟨0, by omega, rfl, Below.refl _ _⟩
 case round =>
  obtain ⟨k, hk, rfl, hbw⟩ := hrel
  by_cases hlt : k < l.length
  ·obtain ⟨b, o, rfl, hbl, hcell⟩ := hc (by omega)
   obtain ⟨b2, o2, rfl, hbl2, hcell2⟩ := hc2 (by omega)
   obtain ⟨c0, c1⟩ := hcell k hlt
   obtain ⟨d0, d1⟩ := hcell2 k hlt
   have e0 := (hbw.cell (p := ⟨b, o + k * 2, none⟩) hbl).trans c0
   have e1 := (hbw.cell (p := ⟨b, o + k * 2 + 1, none⟩) hbl).trans c1
   have f0 := (hbw.cell (p := ⟨b2, o2 + k * 2, none⟩) hbl2).trans d0
   have f1 := (hbw.cell (p := ⟨b2, o2 + k * 2 + 1, none⟩) hbl2).trans d1
   have hlt' : (k : Int) < (l.length : Int) := by omega
   have hge : (0 : Int) ≤ (k : Int) := by omega
   clear hcell hcell2 hc hc2 c0 c1 d0 d1
   go_wp2
   go_quiet (fail)
   go_wp2
   go_roundw
   case rel => exact ⟨k + 1, by omega, by go_num, Below.drewN'' hbw _⟩
   case measure => simp [intOf]; omega
  ·go_wp2
   go_ret
   exact ⟨rfl, hbw⟩
set_option maxRecDepth 100000 in
set_option maxHeartbeats 16000000 in
theorem zok (va vb : Value) (ns : List Ino) (ds : List Den) (w : World) (ha : RdIm w va ns ds) (hb : RdIm w vb ns ds) (hn : ns.length ≤ 1048576) (hd : ds.length ≤ 1048576) :
  Calls Tryz.prog 15 #[va, vb] w fun e w' => e = .returned (.bool true) ∧ Below w.heap.size w w' := by
 obtain ⟨vW, vP, rfl, h1, h2⟩ := ha
 obtain ⟨uW, uP, rfl, k1, k2⟩ := hb
 obtain ⟨a1, c1, rfl, -, g1⟩ := h1.shape
 obtain ⟨a2, c2, rfl, -, g2⟩ := h2.shape
 obtain ⟨a3, c3, rfl, -, g3⟩ := k1.shape
 obtain ⟨a4, c4, rfl, -, g4⟩ := k2.shape
 clear h1 h2 k1 k2
 obtain ⟨V, hV⟩ : ∃ V, V = (w.alloc (.cells #[.slice a1 ns.length c1, .slice a2 ds.length c2] 26)).alloc (.cells #[.slice a3 ns.length c3, .slice a4 ds.length c4] 26) := ⟨_, rfl⟩
 have BV : Hid (Below w.heap.size w V) := by rw [hV]; exact ((Below.refl _ _).alloc (Nat.le_refl _) _).alloc (by simp) _
 have MB : Hid (∀ w', Below V.heap.size V w' → w'.heap[w.heap.size]? = some (.cells #[.slice a1 ns.length c1, .slice a2 ds.length c2] 26 (0, 0)) ∧ w'.heap[w.heap.size + 1]? = some (.cells #[.slice a3 ns.length c3, .slice a4 ds.length c4] 26 (0, 0))) := fun w' hb => by
  have e1 : V.heap[w.heap.size]? = some (.cells #[.slice a1 ns.length c1, .slice a2 ds.length c2] 26 (0, 0)) := by rw [hV]; exact zaj (zag rfl)
  have e2 : V.heap[w.heap.size + 1]? = some (.cells #[.slice a3 ns.length c3, .slice a4 ds.length c4] 26 (0, 0)) := by rw [hV]; exact zag (by simp)
  exact ⟨zjc e1 hb (zoo e1), zjc e2 hb (zoo e2)⟩
 have GI : Hid (∀ k (h : k < ns.length), ∃ b o b2 o2, a1 = some ⟨b, o, none⟩ ∧ a3 = some ⟨b2, o2, none⟩ ∧ ∀ w', Below V.heap.size V w' → (w'.cell? ⟨b, o + k * 11, none⟩ = some (.int .i64 ns[k].kind) ∧ w'.cell? ⟨b, o + k * 11 + 1, none⟩ = some (.int .i64 ns[k].size) ∧ w'.cell? ⟨b, o + k * 11 + 2, none⟩ = some (.int .i64 ns[k].links) ∧ w'.cell? ⟨b, o + k * 11 + 3, none⟩ = some (.int .i64 ns[k].m0) ∧ w'.cell? ⟨b, o + k * 11 + 4, none⟩ = some (.int .i64 ns[k].m1) ∧ w'.cell? ⟨b, o + k * 11 + 5, none⟩ = some (.int .i64 ns[k].m2) ∧ w'.cell? ⟨b, o + k * 11 + 6, none⟩ = some (.int .i64 ns[k].m3) ∧ w'.cell? ⟨b, o + k * 11 + 7, none⟩ = some (.int .i64 ns[k].m4) ∧ w'.cell? ⟨b, o + k * 11 + 8, none⟩ = some (.int .i64 ns[k].m5) ∧ w'.cell? ⟨b, o + k * 11 + 9, none⟩ = some (.int .i64 ns[k].m6) ∧ w'.cell? ⟨b, o + k * 11 + 10, none⟩ = some (.int .i64 ns[k].m7)) ∧ (w'.cell? ⟨b2, o2 + k * 11, none⟩ = some (.int .i64 ns[k].kind) ∧ w'.cell? ⟨b2, o2 + k * 11 + 1, none⟩ = some (.int .i64 ns[k].size) ∧ w'.cell? ⟨b2, o2 + k * 11 + 2, none⟩ = some (.int .i64 ns[k].links) ∧ w'.cell? ⟨b2, o2 + k * 11 + 3, none⟩ = some (.int .i64 ns[k].m0) ∧ w'.cell? ⟨b2, o2 + k * 11 + 4, none⟩ = some (.int .i64 ns[k].m1) ∧ w'.cell? ⟨b2, o2 + k * 11 + 5, none⟩ = some (.int .i64 ns[k].m2) ∧ w'.cell? ⟨b2, o2 + k * 11 + 6, none⟩ = some (.int .i64 ns[k].m3) ∧ w'.cell? ⟨b2, o2 + k * 11 + 7, none⟩ = some (.int .i64 ns[k].m4) ∧ w'.cell? ⟨b2, o2 + k * 11 + 8, none⟩ = some (.int .i64 ns[k].m5) ∧ w'.cell? ⟨b2, o2 + k * 11 + 9, none⟩ = some (.int .i64 ns[k].m6) ∧ w'.cell? ⟨b2, o2 + k * 11 + 10, none⟩ = some (.int .i64 ns[k].m7))) := fun k h => by
  obtain ⟨b, o, e1, l1, s1⟩ := g1 (by omega)
  obtain ⟨b2, o2, e2, l2, s2⟩ := g3 (by omega)
  refine ⟨b, o, b2, o2, e1, e2, fun w' hb' => ?_⟩
  have hb := zab BV.out hb' BV.out.size
  obtain ⟨p0, p1, p2, p3, p4, p5, p6, p7, p8, p9, p10⟩ := s1 k h
  obtain ⟨q0, q1, q2, q3, q4, q5, q6, q7, q8, q9, q10⟩ := s2 k h
  exact ⟨⟨(hb.cell (p := ⟨b, o + k * 11, none⟩) l1).trans p0, (hb.cell (p := ⟨b, o + k * 11 + 1, none⟩) l1).trans p1, (hb.cell (p := ⟨b, o + k * 11 + 2, none⟩) l1).trans p2, (hb.cell (p := ⟨b, o + k * 11 + 3, none⟩) l1).trans p3, (hb.cell (p := ⟨b, o + k * 11 + 4, none⟩) l1).trans p4, (hb.cell (p := ⟨b, o + k * 11 + 5, none⟩) l1).trans p5, (hb.cell (p := ⟨b, o + k * 11 + 6, none⟩) l1).trans p6, (hb.cell (p := ⟨b, o + k * 11 + 7, none⟩) l1).trans p7, (hb.cell (p := ⟨b, o + k * 11 + 8, none⟩) l1).trans p8, (hb.cell (p := ⟨b, o + k * 11 + 9, none⟩) l1).trans p9, (hb.cell (p := ⟨b, o + k * 11 + 10, none⟩) l1).trans p10⟩, (hb.cell (p := ⟨b2, o2 + k * 11, none⟩) l2).trans q0, (hb.cell (p := ⟨b2, o2 + k * 11 + 1, none⟩) l2).trans q1, (hb.cell (p := ⟨b2, o2 + k * 11 + 2, none⟩) l2).trans q2, (hb.cell (p := ⟨b2, o2 + k * 11 + 3, none⟩) l2).trans q3, (hb.cell (p := ⟨b2, o2 + k * 11 + 4, none⟩) l2).trans q4, (hb.cell (p := ⟨b2, o2 + k * 11 + 5, none⟩) l2).trans q5, (hb.cell (p := ⟨b2, o2 + k * 11 + 6, none⟩) l2).trans q6, (hb.cell (p := ⟨b2, o2 + k * 11 + 7, none⟩) l2).trans q7, (hb.cell (p := ⟨b2, o2 + k * 11 + 8, none⟩) l2).trans q8, (hb.cell (p := ⟨b2, o2 + k * 11 + 9, none⟩) l2).trans q9, (hb.cell (p := ⟨b2, o2 + k * 11 + 10, none⟩) l2).trans q10⟩
 have GD : Hid (∀ k (h : k < ds.length), ∃ b o b2 o2, a2 = some ⟨b, o, none⟩ ∧ a4 = some ⟨b2, o2, none⟩ ∧ ∀ w', Below V.heap.size V w' → (w'.cell? ⟨b, o + k * 3, none⟩ = some (.int .i64 ds[k].dir) ∧ w'.cell? ⟨b, o + k * 3 + 1, none⟩ = some (.string ds[k].name) ∧ w'.cell? ⟨b, o + k * 3 + 2, none⟩ = some (.int .i64 ds[k].child)) ∧ (w'.cell? ⟨b2, o2 + k * 3, none⟩ = some (.int .i64 ds[k].dir) ∧ w'.cell? ⟨b2, o2 + k * 3 + 1, none⟩ = some (.string ds[k].name) ∧ w'.cell? ⟨b2, o2 + k * 3 + 2, none⟩ = some (.int .i64 ds[k].child))) := fun k h => by
  obtain ⟨b, o, e1, l1, s1⟩ := g2 (by omega)
  obtain ⟨b2, o2, e2, l2, s2⟩ := g4 (by omega)
  refine ⟨b, o, b2, o2, e1, e2, fun w' hb' => ?_⟩
  have hb := zab BV.out hb' BV.out.size
  obtain ⟨p0, p1, p2⟩ := s1 k h
  obtain ⟨q0, q1, q2⟩ := s2 k h
  exact ⟨⟨(hb.cell (p := ⟨b, o + k * 3, none⟩) l1).trans p0, (hb.cell (p := ⟨b, o + k * 3 + 1, none⟩) l1).trans p1, (hb.cell (p := ⟨b, o + k * 3 + 2, none⟩) l1).trans p2⟩, (hb.cell (p := ⟨b2, o2 + k * 3, none⟩) l2).trans q0, (hb.cell (p := ⟨b2, o2 + k * 3 + 1, none⟩) l2).trans q1, (hb.cell (p := ⟨b2, o2 + k * 3 + 2, none⟩) l2).trans q2⟩
 clear g1 g2 g3 g4
 obtain ⟨y1, y2⟩ := MB.out V (Below.refl _ _)
 obtain ⟨y10, y11, -⟩ := zad y1
 obtain ⟨y20, y21, -⟩ := zad y2
 go_enter Tryz.func15, Tryz.ntmps15
 go_upto_region 1 with fail
 rw [← hV]
 clear hV y1 y2
 go_wp2_with fail
 clear y10 y11 y20 y21
 go_loopw [5] (fun i wr => ∃ k : Nat, k ≤ ns.length ∧ i = .int .i64 k ∧ Hid (Below V.heap.size V wr)) (fun i _ => ns.length - (intOf i).toNat)
 case atStart => exact ⟨0, by omega, rfl, Below.refl _ _⟩
 case round =>
  obtain ⟨k, hk, rfl, J⟩ := hrel
  obtain ⟨y1, y2⟩ := MB.out wr J.out
  obtain ⟨y10, y11, -⟩ := zad y1
  obtain ⟨y20, y21, -⟩ := zad y2
  clear y1 y2
  by_cases hlt : k < ns.length
  ·obtain ⟨b, o, b2, o2, e1, e3, hc⟩ := GI.out k hlt
   subst e1
   subst e3
   obtain ⟨⟨p0, p1, p2, p3, p4, p5, p6, p7, p8, p9, p10⟩, q0, q1, q2, q3, q4, q5, q6, q7, q8, q9, q10⟩ := hc wr J.out
   generalize ns[k] = x at *
   have hlt' : (k : Int) < (ns.length : Int) := by omega
   have hge : (0 : Int) ≤ (k : Int) := by omega
   have J1 : Hid (∀ n, Below V.heap.size V (wr.drewN n)) := fun n => Below.drewN'' J.out n
   have EA : zpt [x.kind, x.size, x.links, x.m0, x.m1, x.m2, x.m3, x.m4, x.m5, x.m6, x.m7] [x.kind, x.size, x.links, x.m0, x.m1, x.m2, x.m3, x.m4, x.m5, x.m6, x.m7] = true := zvj rfl
   clear hc GI GD MB J
   go_wp2_with fail
   go_quiet (fail)
   go_wp2
   go_roundw
   case rel => exact ⟨k + 1, by omega, by go_num, J1.out _⟩
   case measure => simp [intOf]; omega
  ·have hlt' : ¬ (k : Int) < (ns.length : Int) := by omega
   go_wp2_with fail
   clear y10 y11 y20 y21
   go_loopw [6] (fun i wr2 => ∃ k : Nat, k ≤ ds.length ∧ i = .int .i64 k ∧ Hid (Below V.heap.size V wr2)) (fun i _ => ds.length - (intOf i).toNat)
   case atStart => exact ⟨0, by omega, rfl, J⟩
   case round =>
    obtain ⟨m, hm, rfl, J2⟩ := hrel
    rename World => wr2
    obtain ⟨y1, y2⟩ := MB.out wr2 J2.out
    obtain ⟨y10, y11, -⟩ := zad y1
    obtain ⟨y20, y21, -⟩ := zad y2
    clear y1 y2
    by_cases hmt : m < ds.length
    ·obtain ⟨b, o, b2, o2, e1, e3, hc⟩ := GD.out m hmt
     subst e1
     subst e3
     obtain ⟨⟨p0, p1, p2⟩, q0, q1, q2⟩ := hc wr2 J2.out
     generalize ds[m] = x at *
     have hmt' : (m : Int) < (ds.length : Int) := by omega
     have hge : (0 : Int) ≤ (m : Int) := by omega
     have J1 : Hid (∀ n, Below V.heap.size V (wr2.drewN n)) := fun n => Below.drewN'' J2.out n
     have EA : zii x.dir x.name x.child x.dir x.name x.child = true := by unfold zii; simp
     clear hc GI GD MB J J2
     go_wp2_with fail
     go_quiet (fail)
     go_wp2
     go_roundw
     case rel => exact ⟨m + 1, by omega, by go_num, J1.out _⟩
     case measure => simp [intOf]; omega
    ·have hmt' : ¬ (m : Int) < (ds.length : Int) := by omega
     go_wp2
     go_ret
     exact ⟨rfl, zab BV.out J2.out BV.out.size⟩
end Go.Proofs.YtbbmljakfbhnpaaGreatDoor

namespace Go.Proofs.YtbbmljakfbhnpaaGreatDoor
open Go.RowKit

theorem idle_RG {ws es : List Int} {ns : List Ino} {ds : List Den} (h : Idle ws es ns ds) : (∀ k (h : k < ns.length), ns[k].R) ∧ ∀ k (h : k < ds.length), ds[k].name.size ≤ maxLen := by
 have q := inosOf_R h.pm 16
 have r := zmf (zck ws []) 24
 rw [show zbc (zck ws []) 16 = ns from h.wi.inos] at q
 rw [show zbe (zck ws []) 24 = ds from h.wi.dens] at r
 exact ⟨q, r⟩
theorem zqj : ndW = (((List.replicate 336 (0 : Int)).set 0 7).set 48 2).set 50 1 := by unfold ndW zeu; rfl
theorem fr_fil : Fil ndW (zbc ndW 16) (zbe ndW 24) := ⟨zjw, by rw [zqj]; kernel_rfl, by rw [zqj]; kernel_rfl, rfl, rfl⟩
theorem fr_pm : pmB ndW [] = true := by rw [zqj]; kernel_rfl
theorem fr_word : ∀ x ∈ ndW, zbb x = true := (zgv.1 fr_pm).2.2.1
theorem upd_take (ls : List Int) {l : List Se} {k : Nat} (h : k < l.length) : zbx ls (l.take (k + 1)) = (zbx ls (l.take k)).set l[k].at_.toNat l[k].val := by
 unfold zbx
 rw [List.take_add_one, List.getElem?_eq_getElem h, List.foldl_append]
 rfl
theorem upd_all (ls : List Int) (l : List Se) : zbx ls (l.take l.length) = zbx ls l := by rw [List.take_length]
theorem wrL_at {i : Nat} (hi : i < 16) (x : Ino) : ∀ u ∈ wrL (i : Int) x 8, 0 ≤ u.at_ ∧ u.at_ < 336 := by
 intro u hu
 unfold wrL at hu
 simp only [List.cons_append, List.nil_append, List.mem_cons, List.mem_map, List.mem_range] at hu
 rcases hu with rfl | rfl | rfl | ⟨j, hj, rfl⟩ <;> exact ⟨by simp only; omega, by simp only; omega⟩
theorem enL_at {k : Nat} (hk : k < 24) (x : Den) : ∀ u ∈ enL (k : Int) x, 0 ≤ u.at_ ∧ u.at_ < 336 := by
 intro u hu
 unfold enL at hu
 simp only [List.mem_cons, List.not_mem_nil, or_false] at hu
 rcases hu with rfl | rfl | rfl <;> exact ⟨by simp only; omega, by simp only; omega⟩
theorem den_okB {ns : List Ino} {ds : List Den} (h : Img ns ds) {k : Nat} (hk : k < 24) : (zaq ds k).okB = true := by
 rcases h.ent k hk with e | ⟨e1, e2, e3, -, -⟩
 ·rw [e]; kernel_rfl
 ·unfold Den.okB
  rw [Bool.or_eq_true]
  right
  simp only [Bool.and_eq_true, decide_eq_true_eq]
  exact ⟨⟨by omega, by omega⟩, ⟨by omega, by omega⟩, e3⟩
/-- What an inode is updated to, where the image is right. -/
theorem iu_yes {ns : List Ino} {ds : List Den} (h : Img ns ds) {i : Nat} (hi : i < 16) (hl : i < ns.length) : iuC (i : Int) ns[i] = 0 ∧ iuL (i : Int) ns[i] = wrL (i : Int) (zal ns i) 8 := by
 have ok := h.ok i hi
 rw [zbq hl] at ok ⊢
 unfold iuC iuL
 rw [ok]
 simp only [if_true]
 rw [if_pos (by omega), if_pos (by omega)]
 exact ⟨rfl, rfl⟩
theorem du_yes {ns : List Ino} {ds : List Den} (h : Img ns ds) {k : Nat} (hk : k < 24) (hl : k < ds.length) : duC (k : Int) ds[k] = 0 ∧ duL (k : Int) ds[k] = enL (k : Int) (zaq ds k) := by
 have ok := den_okB h hk
 rw [zbw hl] at ok ⊢
 unfold duC duL
 rw [ok]
 simp only [if_true]
 rw [if_pos (by omega), if_pos (by omega)]
 exact ⟨rfl, rfl⟩
/-- All words written: the memory is right, and tells the image. -/
theorem fill_read {ws es : List Int} {ns : List Ino} {ds : List Den} (h : Idle ws es ns ds) : (zgp (zet ndW ns 16) ds 24).length = 336 ∧ riC (zgp (zet ndW ns 16) ds 24) [] = 0 ∧ riN (zgp (zet ndW ns 16) ds 24) [] = ns ∧ riD (zgp (zet ndW ns 16) ds 24) [] = ds := by
 have W := fil_image fr_fil h.img
 have p := fill_pm fr_word h W.len
 generalize zgp (zet ndW ns 16) ds 24 = F at *
 have c : riC F [] = 0 := by
  unfold riC
  rw [if_pos p, if_pos (show riB (zck F []) = true from W.ri)]
 refine ⟨W.len, c, ?_, ?_⟩
 ·unfold riN; rw [if_pos c]; exact W.inos
 ·unfold riD; rw [if_pos c]; exact W.dens
theorem Row.narrow {w : World} {e : TypeId} {size lo hi g n cap : Nat} {xs : List Value} (h : Row w e size lo hi (.slice (some ⟨g, 0, none⟩) n cap) n xs) : Row w e size g (g + 1) (.slice (some ⟨g, 0, none⟩) n cap) n xs := by
 refine ⟨⟨h.1.1, ?_⟩, fun k hk => by cases hk; exact Nat.lt_succ_self _⟩
 rcases h.1.2 with ⟨q, -⟩ | ⟨g2, cp, cur, q, -, r⟩
 ·cases q
 ·cases q
  exact .inr ⟨g, cap, cur, rfl, Nat.le_refl _, r⟩
/-- The words that are written: their row, their box; nothing else of before is changed. -/
def ImI (g pb cap : Nat) (W : World) (ls : List Int) (wr : World) : Prop := Below W.heap.size W wr ∧ Row wr 3 1 g (g + 1) (.slice (some ⟨g, 0, none⟩) 336 cap) 336 (zco ls) ∧ wr.heap[pb]? = some (.cells #[.slice (some ⟨g, 0, none⟩) 336 cap, .slice none 0 0] 31 (0, 0))
theorem ImI.below {g pb cap : Nat} {W wr w' : World} {ls : List Int} (h : ImI g pb cap W ls wr) (hb : Below wr.heap.size wr w') : ImI g pb cap W ls w' :=
 ⟨zab h.1 hb h.1.size, h.2.1.below hb (by have := h.2.1.at; omega), zjc h.2.2 hb (zoo h.2.2)⟩
theorem ImI.put {g pb cap : Nat} {W wr : World} {ls : List Int} (h : ImI g pb cap W ls wr) (hW : W.heap.size ≤ g) (ne : g < pb) (j : Nat) (u : Int) : ImI g pb cap W (ls.set j u) (wr.setCell ⟨g, j, none⟩ (.int .i64 u)) := by
 refine ⟨h.1.setCell hW _, ?_, ?_⟩
 ·rw [← zft]
  exact h.2.1.stored j _
 ·have O : Outside g (g + 1) wr (wr.setCell ⟨g, j, none⟩ (.int .i64 u)) := (Outside.refl _ _ _).setCell (a := ⟨g, j, none⟩) (Nat.le_refl _) (Nat.lt_succ_self _) _
  exact (O.block pb (zoo h.2.2) (by omega)).trans h.2.2
end Go.Proofs.YtbbmljakfbhnpaaGreatDoor

namespace Go.Proofs.YtbbmljakfbhnpaaGreatDoor
open Go.RowKit

def isIB : Value → Bool
 | .int _ _ => true
 | _ => false
def isSB : Value → Bool
 | .string _ => true
 | _ => false
/-- Cells that hold no text, and no three numbers one behind the other. -/
def zjl : List Value → Bool
 | [] => true
 | [a] => !isSB a
 | [a, b] => !isSB a && !isSB b
 | a :: b :: c :: t => !isSB a && !(isIB a && isIB b && isIB c) && zjl (b :: c :: t)
theorem zoe {a : Value} {l : List Value} (h : zjl (a :: l) = true) : isSB a = false ∧ zjl l = true := by
 match l with
 | [] => simp [zjl] at h; exact ⟨h, rfl⟩
 | [b] => simp [zjl] at h; exact ⟨h.1, by simp [zjl, h.2]⟩
 | b :: c :: t =>
  simp only [zjl, Bool.and_eq_true, Bool.not_eq_true'] at h
  exact ⟨h.1.1, h.2⟩
theorem zta : ∀ {l : List Value}, zjl l = true → ∀ (j : Nat) (v : Value), l[j]? = some v → isSB v = false
 | [], _, j, v, e => by cases e
 | a :: l, h, 0, v, e => by
  simp only [List.getElem?_cons_zero, Option.some.injEq] at e
  rw [← e]
  exact (zoe h).1
 | a :: l, h, j + 1, v, e => zta (zoe h).2 j v (by simpa using e)
theorem zov : ∀ {l : List Value}, zjl l = true → ∀ (j : Nat) (a b c : Value), l[j]? = some a → l[j + 1]? = some b → l[j + 2]? = some c → ¬ (isIB a = true ∧ isIB b = true ∧ isIB c = true)
 | [], _, j, _, _, _, e, _, _ => by cases e
 | x :: l, h, 0, a, b, c, e1, e2, e3 => by
  match l, h, e2, e3 with
  | [], _, e2, _ => simp at e2
  | [y], _, _, e3 => simp at e3
  | y :: z :: t, h, e2, e3 =>
   simp only [List.getElem?_cons_zero, List.getElem?_cons_succ, Option.some.injEq] at e1 e2 e3
   subst e1 e2 e3
   simp only [zjl, Bool.and_eq_true, Bool.not_eq_true'] at h
   intro q
   have := h.1.2
   rw [q.1, q.2.1, q.2.2] at this
   cases this
 | x :: l, h, j + 1, a, b, c, e1, e2, e3 => zov (zoe h).2 j a b c (by simpa using e1) (by simpa using e2) (by simpa using e3)
/-- What cannot lie in a box. -/
def Hard (xs : List Value) : Prop := (∃ (j : Nat) (v : Value), xs[j]? = some v ∧ isSB v = true) ∨ ∃ (j : Nat) (a b c : Value), xs[j]? = some a ∧ xs[j + 1]? = some b ∧ xs[j + 2]? = some c ∧ isIB a = true ∧ isIB b = true ∧ isIB c = true
/-- Boxes alone are turned. -/
structure Soft (w w' : World) : Prop where
 size : w.heap.size ≤ w'.heap.size
 blk : ∀ j, j < w.heap.size → w'.heap[j]? = w.heap[j]? ∨ ∃ cs t fr, w.heap[j]? = some (.cells cs t fr) ∧ zjl cs.toList = true
theorem Soft.refl (w : World) : Soft w w := ⟨Nat.le_refl _, fun _ _ => .inl rfl⟩
theorem Soft.trans {a b c : World} (h : Soft a b) (k : Soft b c) : Soft a c :=
 ⟨Nat.le_trans h.size k.size, fun j hj => by
  rcases h.blk j hj with e | e
  ·rcases k.blk j (Nat.lt_of_lt_of_le hj h.size) with f | f
   ·exact .inl (f.trans e)
   ·rw [e] at f
    exact .inr f
  ·exact .inr e⟩
theorem Soft.of_below {w w' : World} (h : Below w.heap.size w w') : Soft w w' := ⟨h.size, fun j hj => .inl (h.block j hj)⟩
theorem Soft.alloc {a w : World} (h : Soft a w) (o : Obj) : Soft a (w.alloc o) := h.trans (.of_below ((Below.refl _ _).alloc (Nat.le_refl _) _))
theorem Soft.drew {a w : World} (h : Soft a w) : Soft a w.drew := h.trans (.of_below (Below.refl _ _).drew)
theorem Soft.set {a w : World} (h : Soft a w) {b : Nat} {cs : Array Value} {t : TypeId} {fr : Nat × Nat} (hb : w.heap[b]? = some (.cells cs t fr)) (hs : zjl cs.toList = true) (j : Nat) (u : Value) : Soft a (w.setCell ⟨b, j, none⟩ u) :=
 h.trans ⟨by simp [World.setCell], fun k _ => by
  by_cases e : k = b
  ·subst e
   exact .inr ⟨cs, t, fr, hb, hs⟩
  ·exact .inl (Below.heap_setCell _ _ _ _ e)⟩
theorem Soft.outside {w w' : World} {b : Nat} {cs : Array Value} {t : TypeId} {fr : Nat × Nat} (h : Outside b (b + 1) w w') (hb : w.heap[b]? = some (.cells cs t fr)) (hs : zjl cs.toList = true) : Soft w w' :=
 ⟨h.size, fun k hk => by
  by_cases e : k = b
  ·subst e
   exact .inr ⟨cs, t, fr, hb, hs⟩
  ·exact .inl (h.block k hk (by omega))⟩
theorem Rd.soft {w w' : World} {size : Nat} {v : Value} {n : Nat} {xs : List Value} (h : Rd w size v n xs) (hs : Soft w w') (hd : 0 < n * size → Hard xs) : Rd w' size v n xs := by
 by_cases hn : 0 < n * size
 ·refine h.same hs.size (fun j hj he => ?_)
  rcases hs.blk j hj with e | ⟨cs, t, fr, hb, sf⟩
  ·exact e
  ·exfalso
   obtain ⟨hl, ao, cap, rfl, _, hc⟩ := h
   have hn' : 0 < n := by
    rcases Nat.eq_zero_or_pos n with e | e
    ·subst e; simp at hn
    ·exact e
   obtain ⟨b', o, rfl, _, hc⟩ := hc hn'
   simp only [Value.ownBlock, Option.some.injEq] at he
   subst he
   have C : ∀ k u, xs[k]? = some u → cs.toList[o + k]? = some u := fun k u e => by
    have hk : k < n * size := by
     have := (List.getElem?_eq_some_iff.1 e).1
     omega
    have := hc k hk
    rw [e] at this
    simp only [World.cell?, hb] at this
    simpa using this
   rcases hd hn with ⟨k, u, e, f⟩ | ⟨k, a, b, c, e1, e2, e3, f1, f2, f3⟩
   ·have := zta sf _ _ (C k u e)
    rw [f] at this
    cases this
   ·exact zov sf (o + k) a b c (C k a e1) (C (k + 1) b e2) (C (k + 2) c e3) ⟨f1, f2, f3⟩
 ·obtain ⟨h3, ao, cap, rfl, h4, h5⟩ := h
  refine ⟨h3, ao, cap, rfl, h4, fun hp => ?_⟩
  obtain ⟨b', o, e, hlt, hc⟩ := h5 hp
  exact ⟨b', o, e, Nat.lt_of_lt_of_le hlt hs.size, fun j hj => absurd (Nat.lt_of_le_of_lt (Nat.zero_le _) hj) hn⟩
theorem hard_ints {zs : List Int} (h : 3 ≤ zs.length) : Hard (zco zs) := .inr ⟨0, _, _, _, zcq zs 0 (by omega), zcq zs 1 (by omega), zcq zs 2 (by omega), rfl, rfl, rfl⟩
theorem RdI.soft {w w' : World} {v : Value} {zs : List Int} (h : RdI w v zs) (hs : Soft w w') (h3 : 3 ≤ zs.length) : RdI w' v zs := Rd.soft h hs (fun _ => hard_ints h3)
theorem hard_mis {l : List Mi} (h : 0 < l.length) : Hard (mis l) := by
 have a := mis_at0 l 0 h
 have b := mis_at1 l 0 h
 have c := mis_at2 l 0 h
 rw [Nat.zero_mul] at a b c
 exact .inr ⟨0, _, _, _, a, b, c, rfl, rfl, rfl⟩
theorem RdM.soft {w w' : World} {v : Value} {l : List Mi} (h : RdM w v l) (hs : Soft w w') : RdM w' v l := Rd.soft h hs (fun hn => hard_mis (by omega))
theorem hard_strs {l : List ByteArray} (h : 0 < l.length) : Hard (zex l) := .inl ⟨0, .string l[0], by simp [zex, h], rfl⟩
theorem RdT.soft {w w' : World} {v : Value} {l : List ByteArray} (h : RdT w v l) (hs : Soft w w') : RdT w' v l := Rd.soft h hs (fun hn => hard_strs (by omega))
theorem Rd.softNil {w w' : World} {size : Nat} {v : Value} (h : Rd w size v 0 []) (hs : Soft w w') : Rd w' size v 0 [] := Rd.soft h hs (fun hn => by simp at hn)
theorem RdDev.soft {w w' : World} {v : Value} {ws es : List Int} (h : RdDev w v ws [] es []) (hs : Soft w w') (h1 : 3 ≤ ws.length) (h2 : 3 ≤ es.length) : RdDev w' v ws [] es [] := by
 obtain ⟨vW, vP, vS, vQ, rfl, ⟨_, _, e1, a, b⟩, ⟨_, _, e2, c, d⟩⟩ := h
 cases e1
 cases e2
 exact ⟨_, _, _, _, rfl, ⟨_, _, rfl, RdI.soft a hs h1, Rd.softNil b hs⟩, ⟨_, _, rfl, RdI.soft c hs h2, Rd.softNil d hs⟩⟩
theorem hard_inos {l : List Ino} (h : 0 < l.length) : Hard (inos l) := .inr ⟨0, _, _, _, by have := zdf l 0 0 h (by omega); rw [Nat.zero_mul] at this; exact this, by have := zdf l 0 1 h (by omega); rw [Nat.zero_mul] at this; exact this, by have := zdf l 0 2 h (by omega); rw [Nat.zero_mul] at this; exact this, rfl, rfl, rfl⟩
theorem RdN.soft {w w' : World} {v : Value} {l : List Ino} (h : RdN w v l) (hs : Soft w w') : RdN w' v l := Rd.soft h hs (fun hn => hard_inos (by omega))
theorem RdD.soft {w w' : World} {v : Value} {l : List Den} (h : RdD w v l) (hs : Soft w w') : RdD w' v l := Rd.soft h hs (fun hn => by
 have h0 : 0 < l.length := by omega
 exact .inl ⟨1, .string l[0].name, by have := dens_at1 l 0 h0; rw [Nat.zero_mul] at this; exact this, rfl⟩)
theorem RdIm.soft {w w' : World} {v : Value} {ns : List Ino} {ds : List Den} (h : RdIm w v ns ds) (hs : Soft w w') : RdIm w' v ns ds := by
 obtain ⟨a, b, rfl, c, d⟩ := h
 exact ⟨a, b, rfl, c.soft hs, d.soft hs⟩
end Go.Proofs.YtbbmljakfbhnpaaGreatDoor
