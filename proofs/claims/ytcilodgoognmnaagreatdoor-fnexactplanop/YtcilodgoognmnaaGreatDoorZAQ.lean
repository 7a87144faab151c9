/- Several texts laid together: Dev, PlD. -/
import Derived.Test.YtcilodgoognmnaaGreatDoorZAM
import Derived.Test.YtcilodgoognmnaaGreatDoorZAP
import Derived.Test.YtcilodgoognmnaaGreatDoorZAE
import Derived.Test.YtcilodgoognmnaaGreatDoorZAF
namespace Go.Proofs.YtcilodgoognmnaaGreatDoor
open Go.RowKit
theorem zaw {w : World} {b : Nat} {t : TypeId} {x y z u : Value} (h : w.heap[b]? = some (.cells #[x, y, z, u] t (0, 0))) :
  w.cell? ⟨b, 0, none⟩ = some x ∧ w.cell? ⟨b, 1, none⟩ = some y ∧ w.cell? ⟨b, 2, none⟩ = some z ∧ w.cell? ⟨b, 3, none⟩ = some u ∧ w.frozen? ⟨b, 0, none⟩ = false ∧ w.frozen? ⟨b, 1, none⟩ = false ∧ w.frozen? ⟨b, 2, none⟩ = false ∧ w.frozen? ⟨b, 3, none⟩ = false := by
 simp [World.cell?, World.frozen?, h]
theorem four_set01 {w : World} {b : Nat} {t : TypeId} {x y z u : Value} (h : w.heap[b]? = some (.cells #[x, y, z, u] t (0, 0))) (x' y' : Value) : ((w.setCell ⟨b, 0, none⟩ x').setCell ⟨b, 1, none⟩ y').heap[b]? = some (.cells #[x', y', z, u] t (0, 0)) := by
 simp [World.setCell, Array.getElem?_modify, h]
theorem zws (w : World) (b i j : Nat) (x y : Value) (k : Nat) (hk : ¬ k = b) : ((w.setCell ⟨b, i, none⟩ x).setCell ⟨b, j, none⟩ y).heap[k]? = w.heap[k]? := by
 rw [Below.heap_setCell _ _ _ _ hk, Below.heap_setCell _ _ _ _ hk]
theorem size_set2 (w : World) (b i j : Nat) (x y : Value) : ((w.setCell ⟨b, i, none⟩ x).setCell ⟨b, j, none⟩ y).heap.size = w.heap.size := by simp [World.setCell]
def RdDev (w : World) (v : Value) (ws : List Int) (ps : List St) (es : List Int) (qs : List Se) : Prop := ∃ vW vP vS vQ, v = .agg #[vW, vP, vS, vQ] ∧ RdPm w (.agg #[vW, vP]) ws ps ∧ RdBlk w (.agg #[vS, vQ]) es qs
def RowDev (w : World) (lo hi : Nat) (v : Value) (ws : List Int) (ps : List St) (es : List Int) (qs : List Se) : Prop :=
 ∃ vW vP vS vQ l1 h1 l2 h2, v = .agg #[vW, vP, vS, vQ] ∧ RowPm w l1 h1 (.agg #[vW, vP]) ws ps ∧ RowBlk w l2 h2 (.agg #[vS, vQ]) es qs ∧ (lo ≤ l1 ∧ h1 ≤ hi ∧ lo ≤ l2 ∧ h2 ≤ hi ∧ (h1 ≤ l2 ∨ h2 ≤ l1))
theorem RowDev.rd {w : World} {lo hi : Nat} {v : Value} {ws : List Int} {ps : List St} {es : List Int} {qs : List Se} (h : RowDev w lo hi v ws ps es qs) : RdDev w v ws ps es qs := by
 obtain ⟨vW, vP, vS, vQ, _, _, _, _, e, h1, h2, _⟩ := h
 exact ⟨vW, vP, vS, vQ, e, h1.rd, h2.rd⟩
theorem RdDev.below {w w' : World} {v : Value} {ws : List Int} {ps : List St} {es : List Int} {qs : List Se} (h : RdDev w v ws ps es qs) (hb : Below w.heap.size w w') : RdDev w' v ws ps es qs := by
 obtain ⟨vW, vP, vS, vQ, e, h1, h2⟩ := h
 exact ⟨vW, vP, vS, vQ, e, h1.below hb, h2.below hb⟩
theorem RowDev.below {w w' : World} {lo hi : Nat} {v : Value} {ws : List Int} {ps : List St} {es : List Int} {qs : List Se} (h : RowDev w lo hi v ws ps es qs) {B : Nat} (hb : Below B w w') (hB : hi ≤ B) : RowDev w' lo hi v ws ps es qs := by
 obtain ⟨vW, vP, vS, vQ, l1, h1, l2, h2, e, r1, r2, c⟩ := h
 exact ⟨vW, vP, vS, vQ, l1, h1, l2, h2, e, r1.below hb (by omega), r2.below hb (by omega), c⟩
theorem RdDev.form {w : World} {v : Value} {ws : List Int} {ps : List St} {es : List Int} {qs : List Se} (h : RdDev w v ws ps es qs) : ∃ aW cW aP cP aS cS aQ cQ, v = .agg #[.slice aW ws.length cW, .slice aP ps.length cP, .slice aS es.length cS, .slice aQ qs.length cQ] ∧ RdPm w (.agg #[.slice aW ws.length cW, .slice aP ps.length cP]) ws ps ∧ RdBlk w (.agg #[.slice aS es.length cS, .slice aQ qs.length cQ]) es qs := by
 obtain ⟨vW, vP, vS, vQ, rfl, ⟨_, _, e1, h1, h2⟩, ⟨_, _, e2, h3, h4⟩⟩ := h
 cases e1
 cases e2
 obtain ⟨aW, cW, rfl, _⟩ := h1.shape
 obtain ⟨aP, cP, rfl, _⟩ := h2.shape
 obtain ⟨aS, cS, rfl, _⟩ := h3.shape
 obtain ⟨aQ, cQ, rfl, _⟩ := h4.shape
 exact ⟨aW, cW, aP, cP, aS, cS, aQ, cQ, rfl, ⟨_, _, rfl, h1, h2⟩, ⟨_, _, rfl, h3, h4⟩⟩
theorem RowPm.form {w : World} {lo hi : Nat} {v : Value} {ws : List Int} {ps : List St} (h : RowPm w lo hi v ws ps) : ∃ aW cW aP cP, v = .agg #[.slice aW ws.length cW, .slice aP ps.length cP] := by
 obtain ⟨vW, vP, rfl, h1, h2⟩ := h.rd
 obtain ⟨aW, cW, rfl, _⟩ := h1.shape
 obtain ⟨aP, cP, rfl, _⟩ := h2.shape
 exact ⟨aW, cW, aP, cP, rfl⟩
theorem RowBlk.form {w : World} {lo hi : Nat} {v : Value} {ws : List Int} {ps : List Se} (h : RowBlk w lo hi v ws ps) : ∃ aW cW aP cP, v = .agg #[.slice aW ws.length cW, .slice aP ps.length cP] := by
 obtain ⟨vW, vP, rfl, h1, h2⟩ := h.rd
 obtain ⟨aW, cW, rfl, _⟩ := h1.shape
 obtain ⟨aP, cP, rfl, _⟩ := h2.shape
 exact ⟨aW, cW, aP, cP, rfl⟩
set_option maxHeartbeats 2000000 in
theorem zlq (v : Value) (ws : List Int) (ps : List St) (es : List Int) (qs : List Se) (w : World) (h : RdDev w v ws ps es qs) (hw : ws.length ≤ 1048576) (hp : ps.length ≤ 1048576) (he : es.length ≤ 1048576) (hq : qs.length ≤ 1048576) :
  Calls Tryz.prog 89 #[v] w fun e w' => e = .returned (.bool (pmB ws ps && zin es qs)) ∧ Below w.heap.size w w' := by
 obtain ⟨aW, cW, aP, cP, aS, cS, aQ, cQ, rfl, h1, h2⟩ := h.form
 have H1 := zaa h1
 have H2 := zaa h2
 clear h h1 h2
 have hb0 : Below w.heap.size w (w.alloc (.cells #[.slice aW ws.length cW, .slice aP ps.length cP, .slice aS es.length cS, .slice aQ qs.length cQ] 41)) := (Below.refl _ _).alloc (Nat.le_refl _) _
 by_cases c : pmB ws ps = true
 ·have C := zaa c
  rw [c]
  clear c
  go_enter Tryz.func89, Tryz.ntmps89
  go_wp2_with fail
  refine (zhw _ ws ps _ (H1.out.below hb0) hw hp).mono ?_
  rw [C.out]
  rintro e w1 ⟨rfl, hb1⟩
  obtain ⟨x0, x1, x2, x3, -, -, -, -⟩ := zaw ((hb1.block w.heap.size (by simp)).trans (zah rfl))
  have B1 := zaa (zab hb0 hb1 (by simp))
  clear hb0 hb1
  go_wp2_with fail
  refine (zsf _ es qs _ (H2.out.below B1.out) he hq).mono ?_
  rintro e w2 ⟨rfl, hb2⟩
  have B2 := zaa (zab B1.out hb2 B1.out.size)
  clear hb2
  go_wp2
  go_ret
  exact ⟨rfl, B2.out⟩
 ·have c' : pmB ws ps = false := by simpa using c
  have C := zaa c'
  rw [c']
  clear c c'
  go_enter Tryz.func89, Tryz.ntmps89
  go_wp2_with fail
  refine (zhw _ ws ps _ (H1.out.below hb0) hw hp).mono ?_
  rw [C.out]
  rintro e w1 ⟨rfl, hb1⟩
  have B1 := zaa (zab hb0 hb1 (by simp))
  clear hb0 hb1
  go_wp2
  go_ret
  exact ⟨rfl, B1.out⟩
set_option maxHeartbeats 2000000 in
theorem zei (v : Value) (ws : List Int) (ps : List St) (es : List Int) (qs : List Se) (w : World) (h : RdDev w v ws ps es qs) (hw : ws.length ≤ 1048576) (hp : ps.length ≤ 1048576) (he : es.length ≤ 1048576) (hq : qs.length ≤ 1048576) :
  Calls Tryz.prog 10 #[v] w fun e w' => ∃ v', e = .returned v' ∧ RowDev w' w.heap.size w'.heap.size v' ws ps es qs ∧ Below w.heap.size w w' := by
 obtain ⟨aW, cW, aP, cP, aS, cS, aQ, cQ, rfl, h1, h2⟩ := h.form
 have H1 := zaa h1
 have H2 := zaa h2
 clear h h1 h2
 have hb0 : Below w.heap.size w (((w.alloc (.cells #[.slice aW ws.length cW, .slice aP ps.length cP, .slice aS es.length cS, .slice aQ qs.length cQ] 30)).alloc (.cells #[.slice none 0 0, .slice none 0 0, .slice none 0 0, .slice none 0 0] 41)).alloc (.cells #[.slice none 0 0, .slice none 0 0, .slice none 0 0, .slice none 0 0] 41)) := by
  repeat (refine Below.alloc ?_ (by simp <;> omega) _)
  exact Below.refl _ _
 go_enter Tryz.func10, Tryz.ntmps10
 go_wp2_with fail
 refine (toPm_any _ ws ps _ (H1.out.below hb0) hw hp).mono ?_
 rintro e w1 ⟨v1, rfl, hr1, hb1⟩
 obtain ⟨aW1, cW1, aP1, cP1, rfl⟩ := hr1.form
 have hz1 : w.heap.size + 3 ≤ w1.heap.size := by have := hb1.size; simp at this; omega
 have V0 := (hb1.block w.heap.size (by simp <;> omega)).trans (zau (zau (zah rfl)))
 have V1 := (hb1.block (w.heap.size + 1) (by simp <;> omega)).trans (zau (zah (by simp)))
 have V2 := (hb1.block (w.heap.size + 1 + 1) (by simp <;> omega)).trans (zah (by simp))
 have B1 := zaa (zab hb0 hb1 (by simp <;> omega))
 have R1 : Hid (RowPm w1 (w.heap.size + 3) w1.heap.size (.agg #[.slice aW1 ws.length cW1, .slice aP1 ps.length cP1]) ws ps) := hr1.wide (by simp only [World.size_alloc]; omega) (Nat.le_refl _)
 obtain ⟨x0, x1, x2, x3, -, -, -, -⟩ := zaw V0
 obtain ⟨y0, y1, y2, y3, y4, y5, y6, y7⟩ := zaw V2
 have VH := zaa (And.intro V0 (And.intro V1 V2))
 clear hb0 hb1 hr1 V0 V1 V2
 have B1' := zaa ((B1.out.setCell (p := ⟨w.heap.size + 1 + 1, 0, none⟩) (by simp only; omega) (.slice aW1 ws.length cW1)).setCell (p := ⟨w.heap.size + 1 + 1, 1, none⟩) (by simp only; omega) (.slice aP1 ps.length cP1))
 have hz1' := size_set2 w1 (w.heap.size + 1 + 1) 0 1 (.slice aW1 ws.length cW1) (.slice aP1 ps.length cP1)
 have V0' := (zws w1 (w.heap.size + 1 + 1) 0 1 (.slice aW1 ws.length cW1) (.slice aP1 ps.length cP1) w.heap.size (by omega)).trans VH.out.1
 have V1' := (zws w1 (w.heap.size + 1 + 1) 0 1 (.slice aW1 ws.length cW1) (.slice aP1 ps.length cP1) (w.heap.size + 1) (by omega)).trans VH.out.2.1
 have V2' := four_set01 VH.out.2.2 (.slice aW1 ws.length cW1) (.slice aP1 ps.length cP1)
 have R1' : Hid (RowPm ((w1.setCell ⟨w.heap.size + 1 + 1, 0, none⟩ (.slice aW1 ws.length cW1)).setCell ⟨w.heap.size + 1 + 1, 1, none⟩ (.slice aP1 ps.length cP1)) (w.heap.size + 3) w1.heap.size (.agg #[.slice aW1 ws.length cW1, .slice aP1 ps.length cP1]) ws ps) :=
  R1.out.outside (lo' := w.heap.size + 2) (hi' := w.heap.size + 3) (((Outside.refl _ _ _).setCell (a := ⟨w.heap.size + 1 + 1, 0, none⟩) (by simp only; omega) (by simp only; omega) _).setCell (a := ⟨w.heap.size + 1 + 1, 1, none⟩) (by simp only; omega) (by simp only; omega) _) (by omega) (Nat.le_refl _)
 obtain ⟨z0, z1, z2, z3, -, -, -, -⟩ := zaw V0'
 have VH' := zaa (And.intro V1' V2')
 clear V0' V1' V2' VH R1
 have hz : w1.heap.size ≤ ((w1.setCell ⟨w.heap.size + 1 + 1, 0, none⟩ (.slice aW1 ws.length cW1)).setCell ⟨w.heap.size + 1 + 1, 1, none⟩ (.slice aP1 ps.length cP1)).heap.size ∧ ((w1.setCell ⟨w.heap.size + 1 + 1, 0, none⟩ (.slice aW1 ws.length cW1)).setCell ⟨w.heap.size + 1 + 1, 1, none⟩ (.slice aP1 ps.length cP1)).heap.size ≤ w1.heap.size := ⟨Nat.le_of_eq hz1'.symm, Nat.le_of_eq hz1'⟩
 clear hz1'
 have ZZ := zaa hz
 clear hz
 go_wp2_with fail
 refine (toBlk_any _ es qs _ (H2.out.below B1'.out) he hq).mono ?_
 rintro e w2 ⟨v2, rfl, hr2, hb2⟩
 obtain ⟨aS2, cS2, aQ2, cQ2, rfl⟩ := hr2.form
 have zz := ZZ.out
 have hz2 : w1.heap.size ≤ w2.heap.size := Nat.le_trans zz.1 hb2.size
 have V1 := (hb2.block (w.heap.size + 1) (by omega)).trans VH'.out.1
 have V2 := (hb2.block (w.heap.size + 1 + 1) (by omega)).trans VH'.out.2
 have B2 := zaa (zab B1'.out hb2 (by omega))
 have R1 := zaa (R1'.out.below hb2 (by omega))
 have R2 : Hid (RowBlk w2 w1.heap.size w2.heap.size (.agg #[.slice aS2 es.length cS2, .slice aQ2 qs.length cQ2]) es qs) := hr2.wide (by omega) (Nat.le_refl _)
 obtain ⟨t0, t1, t2, t3, t4, t5, t6, t7⟩ := zaw V1
 obtain ⟨s0, s1, s2, s3, s4, s5, s6, s7⟩ := zaw V2
 have VH2 := zaa (And.intro V1 V2)
 clear hb2 hr2 V1 V2 zz ZZ VH' x0 x1 x2 x3 y0 y1 y2 y3 y4 y5 y6 y7 z0 z1 z2 z3 R1' B1' B1
 go_wp2
 refine bodyPost_ret (v := .agg #[.slice aW1 ws.length cW1, .slice aP1 ps.length cP1, .slice aS2 es.length cS2, .slice aQ2 qs.length cQ2]) (by simp [results, Tryz.results10, go_sem, t0, t1, t2, t3]) rfl ?_
 have O : Outside (w.heap.size + 1) (w.heap.size + 3) w2 ((((((w2.setCell ⟨w.heap.size + 1 + 1, 2, none⟩ (.slice aS2 es.length cS2)).setCell ⟨w.heap.size + 1 + 1, 3, none⟩ (.slice aQ2 qs.length cQ2)).setCell ⟨w.heap.size + 1, 0, none⟩ (.slice aW1 ws.length cW1)).setCell ⟨w.heap.size + 1, 1, none⟩ (.slice aP1 ps.length cP1)).setCell ⟨w.heap.size + 1, 2, none⟩ (.slice aS2 es.length cS2)).setCell ⟨w.heap.size + 1, 3, none⟩ (.slice aQ2 qs.length cQ2)) := by
  repeat (refine Outside.setCell ?_ (by simp only; omega) (by simp only; omega) _)
  exact Outside.refl _ _ _
 have hz3 := O.size
 exact ⟨_, rfl, ⟨_, _, _, _, _, _, _, _, rfl, R1.out.outside O (by omega) (by omega), R2.out.outside O (by omega) (Nat.le_refl _), by omega⟩, B2.out.trans (O.below (by omega) (by omega))⟩
set_option maxHeartbeats 2000000 in
theorem zqr (va vb : Value) (ws : List Int) (ps : List St) (es : List Int) (qs : List Se) (w : World) (ha : RdDev w va ws ps es qs) (hb : RdDev w vb ws ps es qs) (hw : ws.length ≤ 2147483648) (hp : ps.length ≤ 2147483648) (he : es.length ≤ 2147483648) (hq : qs.length ≤ 2147483648) :
  Calls Tryz.prog 12 #[va, vb] w fun e w' => e = .returned (.bool true) ∧ Below w.heap.size w w' := by
 obtain ⟨aW, cW, aP, cP, aS, cS, aQ, cQ, rfl, h1, h2⟩ := ha.form
 obtain ⟨bW, dW, bP, dP, bS, dS, bQ, dQ, rfl, h3, h4⟩ := hb.form
 have H1 := zaa h1
 have H2 := zaa h2
 have H3 := zaa h3
 have H4 := zaa h4
 clear ha hb h1 h2 h3 h4
 have hb0 : Below w.heap.size w ((w.alloc (.cells #[.slice aW ws.length cW, .slice aP ps.length cP, .slice aS es.length cS, .slice aQ qs.length cQ] 41)).alloc (.cells #[.slice bW ws.length dW, .slice bP ps.length dP, .slice bS es.length dS, .slice bQ qs.length dQ] 41)) := by
  repeat (refine Below.alloc ?_ (by simp <;> omega) _)
  exact Below.refl _ _
 go_enter Tryz.func12, Tryz.ntmps12
 go_wp2_with fail
 refine (eqPm_same _ _ ws ps _ (H1.out.below hb0) (H3.out.below hb0) hw hp).mono ?_
 rintro e w1 ⟨rfl, hb1⟩
 have hz1 : w.heap.size + 2 ≤ w1.heap.size := by have := hb1.size; simp at this; omega
 obtain ⟨x0, x1, x2, x3, -, -, -, -⟩ := zaw ((hb1.block w.heap.size (by simp <;> omega)).trans (zau (zah rfl)))
 obtain ⟨y0, y1, y2, y3, -, -, -, -⟩ := zaw ((hb1.block (w.heap.size + 1) (by simp <;> omega)).trans (zah (by simp)))
 have B1 := zaa (zab hb0 hb1 (by simp <;> omega))
 clear hb0 hb1
 go_wp2_with fail
 refine (eqBlk_same _ _ es qs _ (H2.out.below B1.out) (H4.out.below B1.out) he hq).mono ?_
 rintro e w2 ⟨rfl, hb2⟩
 have B2 := zaa (zab B1.out hb2 B1.out.size)
 clear hb2
 go_wp2
 go_ret
 exact ⟨rfl, B2.out⟩
set_option maxHeartbeats 2000000 in
theorem zos (v : Value) (ws : List Int) (ps : List St) (es : List Int) (qs : List Se) (k0 : Int) (lo hi : Nat) (w : World) (h : RowDev w lo hi v ws ps es qs) (hi1 : hi ≤ w.heap.size) (hw : ws.length ≤ 16777216) (hp : ps.length ≤ 16777216) (he : es.length ≤ 16777216) (hq : qs.length ≤ 16777216) (h0 : 0 ≤ k0) (h1 : k0 ≤ 67108864) :
  Calls Tryz.prog 16 #[v, .int .i64 k0] w fun e w' => e = .returned (.int .i64 (k0 + ws.length + 3 * ps.length + es.length + 2 * qs.length)) ∧ RowDev w' lo hi v (zmz k0 ws.length) (zfu (k0 + ws.length) ps.length) (zmz (k0 + ws.length + 3 * ps.length) es.length) (zgg (k0 + ws.length + 3 * ps.length + es.length) qs.length) ∧ Outside lo hi w w' := by
 obtain ⟨aW, cW, aP, cP, aS, cS, aQ, cQ, e0, -, -⟩ := h.rd.form
 subst e0
 obtain ⟨_, _, _, _, l1, u1, l2, u2, e0, r1, r2, c1, c2, c3, c4, c5⟩ := h
 cases e0
 have R1 := zaa r1
 have R2 := zaa r2
 clear r1 r2
 have hb0 : Below w.heap.size w (w.alloc (.cells #[.slice aW ws.length cW, .slice aP ps.length cP, .slice aS es.length cS, .slice aQ qs.length cQ] 41)) := (Below.refl _ _).alloc (Nat.le_refl _) _
 go_enter Tryz.func16, Tryz.ntmps16
 go_wp2_with fail
 refine (markPm_any _ ws ps k0 l1 u1 _ (R1.out.below hb0 (by omega)) (by simp only [World.size_alloc]; omega) (by omega) (by omega) h0 (by omega)).mono ?_
 rintro e w1 ⟨rfl, hr1, ho1⟩
 have hz1 : w.heap.size + 1 ≤ w1.heap.size := by have := ho1.size; simp only [World.size_alloc] at this; exact this
 obtain ⟨x0, x1, x2, x3, -, -, -, -⟩ := zaw ((ho1.block w.heap.size (by simp) (.inr (by omega))).trans (zah rfl))
 have O1 := zaa ((Outside.of_below (lo := lo) (hi := hi) hb0).trans (ho1.mono c1 c2))
 have Q1 := zaa hr1
 have Q2 := zaa ((R2.out.below hb0 (by omega)).outside ho1 (by omega) (by simp only [World.size_alloc]; omega))
 clear hr1 ho1 hb0
 go_wp2_with fail
 refine (markBlk_any _ es qs (k0 + ws.length + 3 * ps.length) l2 u2 _ Q2.out (by omega) (by omega) (by omega) (by omega) (by omega)).mono ?_
 rintro e w2 ⟨rfl, hr2, ho2⟩
 have O2 := zaa (O1.out.trans (ho2.mono c3 c4))
 have Q3 := zaa (Q1.out.outside ho2 (by omega) (by omega))
 have Q4 := zaa hr2
 clear hr2 ho2
 go_wp2
 go_ret
 exact ⟨rfl, ⟨_, _, _, _, _, _, _, _, rfl, Q3.out, Q4.out, c1, c2, c3, c4, c5⟩, O2.out⟩
set_option maxHeartbeats 2000000 in
theorem zrd (aW aP : Option Addr) (n m cW cP : Nat) (left : Int) (w : World) (hn : n ≤ maxLen) (hm : m ≤ maxLen) (h0 : 0 ≤ left) (h1 : left ≤ 1048576) :
  Calls Tryz.prog 41 #[.agg #[.slice aW n cW, .slice aP m cP], .int .i64 left] w fun e w' => e = .returned (.int .i64 (if left < (n : Int) + (m : Int) then -1 else left - n - m)) ∧ Below w.heap.size w w' := by
 have hb0 : Below w.heap.size w (w.alloc (.cells #[.slice aW n cW, .slice aP m cP] 28)) := (Below.refl _ _).alloc (Nat.le_refl _) _
 by_cases c1 : left < (n : Int)
 ·have e1 : zjf left n = -1 := by unfold zjf; rw [if_pos c1]
  have e2 : (if left < (n : Int) + (m : Int) then -1 else left - n - m : Int) = -1 := by rw [if_pos (by omega)]
  rw [e2]
  have E1 := zaa e1
  clear e1 e2
  go_enter Tryz.func41, Tryz.ntmps41
  go_wp2_with (go_at_call 86; refine (zek aW n cW _ _ hn (by omega) (by omega)).mono ?_; rw [E1.out]; rintro e w' ⟨rfl, rfl⟩)
  go_ret
  exact ⟨rfl, hb0⟩
 ·have e1 : zjf left n = left - n := by unfold zjf; rw [if_neg c1]
  have E1 := zaa e1
  clear e1
  by_cases c2 : (left - n : Int) < (m : Int)
  ·have e2 : zjf (left - n) m = -1 := by unfold zjf; rw [if_pos c2]
   have e3 : (if left < (n : Int) + (m : Int) then -1 else left - n - m : Int) = -1 := by rw [if_pos (by omega)]
   rw [e3]
   have E2 := zaa e2
   clear e2 e3
   go_enter Tryz.func41, Tryz.ntmps41
   go_wp2_with (first | (go_at_call 86; refine (zek aW n cW _ _ hn (by omega) (by omega)).mono ?_; rw [E1.out]; rintro e w' ⟨rfl, rfl⟩) | (go_at_call 88; refine (zkv aP m cP _ _ hm (by omega) (by omega)).mono ?_; rw [E2.out]; rintro e w' ⟨rfl, rfl⟩))
   go_ret
   exact ⟨rfl, hb0⟩
  ·have e2 : zjf (left - n) m = left - n - m := by unfold zjf; rw [if_neg c2]
   have e3 : (if left < (n : Int) + (m : Int) then -1 else left - n - m : Int) = left - n - m := by rw [if_neg (by omega)]
   rw [e3]
   have E2 := zaa e2
   clear e2 e3
   go_enter Tryz.func41, Tryz.ntmps41
   go_wp2_with (first | (go_at_call 86; refine (zek aW n cW _ _ hn (by omega) (by omega)).mono ?_; rw [E1.out]; rintro e w' ⟨rfl, rfl⟩) | (go_at_call 88; refine (zkv aP m cP _ _ hm (by omega) (by omega)).mono ?_; rw [E2.out]; rintro e w' ⟨rfl, rfl⟩))
   go_ret
   exact ⟨rfl, hb0⟩
set_option maxHeartbeats 2000000 in
theorem zgl (aW aP aS aQ : Option Addr) (n m n2 m2 cW cP cS cQ : Nat) (w : World) (hn : n ≤ maxLen) (hm : m ≤ maxLen) (hn2 : n2 ≤ maxLen) (hm2 : m2 ≤ maxLen) :
  Calls Tryz.prog 8 #[.agg #[.slice aW n cW, .slice aP m cP, .slice aS n2 cS, .slice aQ m2 cQ], .int .i64 1048576] w fun e w' => e = .returned (.int .i64 (if 1048576 < n + m + n2 + m2 then -1 else 1048576 - n - m - n2 - m2)) ∧ Below w.heap.size w w' := by
 have hb0 : Below w.heap.size w (w.alloc (.cells #[.slice aW n cW, .slice aP m cP, .slice aS n2 cS, .slice aQ m2 cQ] 30)) := (Below.refl _ _).alloc (Nat.le_refl _) _
 by_cases c1 : 1048576 < n + m
 ·have E1 := zaa (show (if 1048576 < n + m then -1 else 1048576 - n - m : Int) = -1 from if_pos c1)
  have e2 : (if 1048576 < n + m + n2 + m2 then -1 else 1048576 - n - m - n2 - m2 : Int) = -1 := if_pos (by omega)
  rw [e2]
  clear e2
  go_enter Tryz.func8, Tryz.ntmps8
  go_wp2_with fail
  refine (ztf aW aP n m cW cP _ hn hm).mono ?_
  rw [E1.out]
  rintro e w1 ⟨rfl, hb1⟩
  have B1 := zaa (zab hb0 hb1 (by simp))
  clear hb0 hb1
  go_wp2
  go_ret
  exact ⟨rfl, B1.out⟩
 ·have E1 := zaa (show (if 1048576 < n + m then -1 else 1048576 - n - m : Int) = 1048576 - n - m from if_neg c1)
  by_cases c2 : (1048576 - n - m : Int) < (n2 : Int) + (m2 : Int)
  ·have E2 := zaa (show (if (1048576 - n - m : Int) < (n2 : Int) + (m2 : Int) then -1 else (1048576 - n - m : Int) - n2 - m2 : Int) = -1 from if_pos c2)
   have e2 : (if 1048576 < n + m + n2 + m2 then -1 else 1048576 - n - m - n2 - m2 : Int) = -1 := if_pos (by omega)
   rw [e2]
   clear e2
   go_enter Tryz.func8, Tryz.ntmps8
   go_wp2_with fail
   refine (ztf aW aP n m cW cP _ hn hm).mono ?_
   rw [E1.out]
   rintro e w1 ⟨rfl, hb1⟩
   obtain ⟨x0, x1, x2, x3, -, -, -, -⟩ := zaw ((hb1.block w.heap.size (by simp)).trans (zah rfl))
   have B1 := zaa (zab hb0 hb1 (by simp))
   clear hb0 hb1
   go_wp2_with fail
   refine (zrd aS aQ n2 m2 cS cQ _ _ hn2 hm2 (by omega) (by omega)).mono ?_
   rw [E2.out]
   rintro e w2 ⟨rfl, hb2⟩
   have B2 := zaa (zab B1.out hb2 B1.out.size)
   clear hb2
   go_wp2
   go_ret
   exact ⟨rfl, B2.out⟩
  ·have E2 := zaa (show (if (1048576 - n - m : Int) < (n2 : Int) + (m2 : Int) then -1 else (1048576 - n - m : Int) - n2 - m2 : Int) = 1048576 - n - m - n2 - m2 from if_neg c2)
   have e2 : (if 1048576 < n + m + n2 + m2 then -1 else 1048576 - n - m - n2 - m2 : Int) = 1048576 - n - m - n2 - m2 := if_neg (by omega)
   rw [e2]
   clear e2
   go_enter Tryz.func8, Tryz.ntmps8
   go_wp2_with fail
   refine (ztf aW aP n m cW cP _ hn hm).mono ?_
   rw [E1.out]
   rintro e w1 ⟨rfl, hb1⟩
   obtain ⟨x0, x1, x2, x3, -, -, -, -⟩ := zaw ((hb1.block w.heap.size (by simp)).trans (zah rfl))
   have B1 := zaa (zab hb0 hb1 (by simp))
   clear hb0 hb1
   go_wp2_with fail
   refine (zrd aS aQ n2 m2 cS cQ _ _ hn2 hm2 (by omega) (by omega)).mono ?_
   rw [E2.out]
   rintro e w2 ⟨rfl, hb2⟩
   have B2 := zaa (zab B1.out hb2 B1.out.size)
   clear hb2
   go_wp2
   go_ret
   exact ⟨rfl, B2.out⟩
end Go.Proofs.YtcilodgoognmnaaGreatDoor

namespace Go.Proofs.YtcilodgoognmnaaGreatDoor
open Go.RowKit
set_option maxRecDepth 100000 in
set_option maxHeartbeats 2000000 in
theorem zfp (v : Value) (ws : List Ino) (ps : List Den) (w : World) (h : RdIm w v ws ps) (hl : ps.length ≤ 4096) :
  Calls Tryz.prog 219 #[v] w fun e w' => e = .returned (.int .i64 (feI ps)) ∧ Below w.heap.size w w' := by
 obtain ⟨vW, vP, rfl, h1, h2⟩ := h
 obtain ⟨aW, cW, rfl, _, _⟩ := h1.shape
 obtain ⟨aP, cP, rfl, _, hcP⟩ := h2.shape
 have HP := zaa hcP
 clear h1 h2 hcP
 have CA : Hid (∀ w', Below (w.alloc (.cells #[.slice aW ws.length cW, .slice aP ps.length cP] 63)).heap.size (w.alloc (.cells #[.slice aW ws.length cW, .slice aP ps.length cP] 63)) w' → w'.cell? ⟨w.heap.size, 0, none⟩ = some (.slice aW ws.length cW) ∧ w'.cell? ⟨w.heap.size, 1, none⟩ = some (.slice aP ps.length cP)) := fun w' hb => by
  have : w'.heap[w.heap.size]? = some (.cells #[.slice aW ws.length cW, .slice aP ps.length cP] 63 (0, 0)) := (hb.block _ (by simp)).trans (zah rfl)
  exact ⟨(zac this).1, (zac this).2.1⟩
 have BW : Hid (Below w.heap.size w (w.alloc (.cells #[.slice aW ws.length cW, .slice aP ps.length cP] 63))) := (Below.refl _ _).alloc (Nat.le_refl _) _
 obtain ⟨W, hW⟩ : ∃ W, W = w.alloc (.cells #[.slice aW ws.length cW, .slice aP ps.length cP] 63) := ⟨_, rfl⟩
 rw [← hW] at CA BW
 obtain ⟨y0, y1⟩ := CA.out _ (Below.refl _ _)
 have EF := zaa (show feI ps = zas (fun i => decide (zaj ps i < 0)) ps.length from rfl)
 go_enter Tryz.func219, Tryz.ntmps219
 go_wp2
 rw [← hW]
 clear hW
 go_loopw [3] (fun i wr => ∃ k : Nat, k ≤ ps.length ∧ i = .int .i64 k ∧ wr = W ∧ Hid (∀ j, j < k → decide (zaj ps j < 0) = false)) (fun i _ => ps.length - (intOf i).toNat)
 case atStart => exact ⟨0, by omega, rfl, rfl, fun j a => absurd a (by omega)⟩
 case round =>
  obtain ⟨k, hk, rfl, rfl, H⟩ := hrel
  have k0 : (0 : Int) ≤ (k : Int) := by omega
  by_cases hlt : k < ps.length
  ·obtain ⟨b, o, rfl, hbl, hcell⟩ := HP.out (by omega)
   have d0 := (BW.out.cell (p := ⟨b, o + k * 3 + 2, none⟩) hbl).trans (hcell k hlt).2.2
   rw [← zba hlt] at d0
   have k1 : (k : Int) < (ps.length : Int) := by omega
   clear hcell
   by_cases q : zaj ps k < 0
   ·have E := zaa (EF.out.trans (zfc (p := fun i => decide (zaj ps i < 0)) hlt H.out (decide_eq_true q)))
    clear H
    generalize zaj ps k = z at d0 q
    go_wp2
    go_ret
    exact ⟨zcd E.out.symm, BW.out⟩
   ·have H' : Hid (∀ j, j < k + 1 → decide (zaj ps j < 0) = false) := fun j a => by
     by_cases e : j = k
     ·subst e; exact decide_eq_false q
     ·exact H.out j (by omega)
    clear H
    generalize zaj ps k = z at d0 q
    go_wp2
    go_roundw
    case rel => exact ⟨k + 1, by omega, by go_num, trivial, H'⟩
    case measure => simp [intOf]; omega
  ·have E := zaa (EF.out.trans (zdf (p := fun i => decide (zaj ps i < 0)) (n := ps.length) (fun j hj => H.out j (by omega))))
   have k2 : ¬ (k : Int) < (ps.length : Int) := by omega
   clear H
   go_wp2
   go_ret
   exact ⟨zcd E.out.symm, BW.out⟩
theorem den_free' (x : Den) : zhk freeD.dir freeD.name freeD.child x.dir x.name x.child = x.freeB := by
 rw [← zkr x]
 unfold zhk freeD
 rw [Bool.eq_iff_iff]
 simp only [Bool.and_eq_true, beq_iff_eq]
 exact ⟨fun h => ⟨h.1.symm, h.2.1.symm, h.2.2.symm⟩, fun h => ⟨h.1.symm, h.2.1.symm, h.2.2.symm⟩⟩
set_option maxRecDepth 100000 in
set_option maxHeartbeats 4000000 in
theorem zsg (v : Value) (ps : List Den) (w : World) (h : RdD w v ps) (hn : ps.length ≤ 1048576) (hfc : ∀ j (h : j < ps.length), (!ps[j].freeB) = decide (0 ≤ ps[j].child)) :
  Calls Tryz.prog 246 #[v, .agg #[.int .i64 0, .string ⟨#[]⟩, .int .i64 (-1)]] w fun e w' => e = .returned (.int .i64 (feI ps)) ∧ Below w.heap.size w w' := by
 have EF := zaa (show feI ps = zas (fun i => decide (zaj ps i < 0)) ps.length from rfl)
 have HF : Hid (∀ j (h : j < ps.length), zhk 0 ⟨#[]⟩ (-1) ps[j].dir ps[j].name ps[j].child = decide (zaj ps j < 0)) := fun j h => by
  rw [show zhk 0 ⟨#[]⟩ (-1) ps[j].dir ps[j].name ps[j].child = ps[j].freeB from den_free' ps[j], zba h]
  have := hfc j h
  rw [Bool.eq_iff_iff, decide_eq_true_eq]
  cases e : ps[j].freeB
  ·rw [e] at this
   have : 0 ≤ ps[j].child := by simpa using this.symm
   simp
   exact this
  ·rw [e] at this
   have : ¬ 0 ≤ ps[j].child := by simpa using this.symm
   simp
   omega
 obtain ⟨aZ, cZ, rfl, _, hcZ⟩ := h.shape
 have HZ := zaa hcZ
 have BW := zaa ((Below.refl w.heap.size w).alloc (Nat.le_refl _) (.cells #[.int .i64 0, .string ⟨#[]⟩, .int .i64 (-1)] 180))
 have CB : Hid (∀ w', Below (w.alloc (.cells #[.int .i64 0, .string ⟨#[]⟩, .int .i64 (-1)] 180)).heap.size (w.alloc (.cells #[.int .i64 0, .string ⟨#[]⟩, .int .i64 (-1)] 180)) w' → w'.cell? ⟨w.heap.size, 0, none⟩ = some (.int .i64 0) ∧ w'.cell? ⟨w.heap.size, 1, none⟩ = some (.string ⟨#[]⟩) ∧ w'.cell? ⟨w.heap.size, 2, none⟩ = some (.int .i64 (-1))) := fun w' hb => zay ((hb.block _ (by simp)).trans (zah rfl))
 have hz : w.heap.size ≤ (w.alloc (.cells #[.int .i64 0, .string ⟨#[]⟩, .int .i64 (-1)] 180)).heap.size := BW.out.size
 obtain ⟨W, hW⟩ : ∃ W, W = w.alloc (.cells #[.int .i64 0, .string ⟨#[]⟩, .int .i64 (-1)] 180) := ⟨_, rfl⟩
 rw [← hW] at BW CB hz
 clear h hcZ hfc
 go_enter Tryz.func246, Tryz.ntmps246
 go_wp2
 rw [← hW]
 clear hW
 go_loopw [5, 8] (fun _ i wr => ∃ k : Nat, k ≤ ps.length ∧ i = .int .i64 k ∧ Hid (Below W.heap.size W wr ∧ ∀ j, j < k → decide (zaj ps j < 0) = false)) (fun _ i _ => ps.length - (intOf i).toNat)
 case atStart => exact ⟨0, by omega, rfl, Below.refl _ _, fun j a => absurd a (by omega)⟩
 case round =>
  obtain ⟨k, hk, rfl, H⟩ := hrel
  by_cases hlt : k < ps.length
  ·obtain ⟨b, o, rfl, hbl, hcell⟩ := HZ.out (by omega)
   obtain ⟨x0, x1, x2⟩ := CB.out wr H.out.1
   have B0 := zaa (zab BW.out H.out.1 hz)
   obtain ⟨a0, a1, a2⟩ := hcell k hlt
   have d0 := (B0.out.cell (p := ⟨b, o + k * 3, none⟩) hbl).trans a0
   have d1 := (B0.out.cell (p := ⟨b, o + k * 3 + 1, none⟩) hbl).trans a1
   have d2 := (B0.out.cell (p := ⟨b, o + k * 3 + 2, none⟩) hbl).trans a2
   have k0 : (0 : Int) ≤ (k : Int) := by omega
   have k1 : (k : Int) < (ps.length : Int) := by omega
   have Q := zaa (HF.out k hlt)
   clear hcell a0 a1 a2
   cases q : zhk 0 ⟨#[]⟩ (-1) ps[k].dir ps[k].name ps[k].child with
   | true =>
    have E := zaa (EF.out.trans (zfc (p := fun i => decide (zaj ps i < 0)) hlt H.out.2 (by show decide (zaj ps k < 0) = true; rw [← Q.out, q])))
    clear H Q
    generalize ps[k] = y at *
    go_wp2
    go_quiet (fail)
    go_wp2
    go_ret
    exact ⟨zcd E.out.symm, below_drewN B0.out _⟩
   | false =>
    have H' : Hid (∀ j, j < k + 1 → decide (zaj ps j < 0) = false) := fun j a => by
     by_cases e : j = k
     ·subst e; rw [← Q.out]; exact q
     ·exact H.out.2 j (by omega)
    have H1 := zaa H.out.1
    clear H Q
    generalize ps[k] = y at d0 d1 d2 q
    go_wp2
    go_quiet (fail)
    go_wp2
    go_roundw
    case rel => exact ⟨k + 1, by omega, by go_num, below_drewN H1.out _, H'.out⟩
    case measure => simp [intOf]; omega
  ·have E := zaa (EF.out.trans (zdf (p := fun i => decide (zaj ps i < 0)) (n := ps.length) (fun j h => H.out.2 j (by omega))))
   have B0 := zaa (zab BW.out H.out.1 hz)
   clear H
   go_wp2
   go_ret
   exact ⟨zcd E.out.symm, B0.out⟩
set_option maxRecDepth 100000 in
set_option maxHeartbeats 4000000 in
theorem zkd (v : Value) (ws : List Ino) (ps : List Den) (w : World) (h : RdIm w v ws ps) (hi : zax ws ps = true) (hF : FD w) :
  Calls Tryz.prog 232 #[v] w fun e w' => e = .returned (.tuple #[.int .i64 (zfy (feI ps)), .int .i64 (zfi (feI ps))]) ∧ Below w.heap.size w w' := by
 obtain ⟨vW, vP, rfl, h1, h2⟩ := h
 have LX := zaa (fun w1 (hb : Below w.heap.size w w1) => zsg vP ps w1 (Rd.below h2 hb) (by have := (zao hi).2.1; omega) (fun j hj => zrs hi j hj))
 obtain ⟨aW, cW, rfl, _, _⟩ := h1.shape
 obtain ⟨aP, cP, rfl, _, _⟩ := h2.shape
 clear h1 h2 hi
 have CA : Hid (∀ w', Below (w.alloc (.cells #[.slice aW ws.length cW, .slice aP ps.length cP] 63)).heap.size (w.alloc (.cells #[.slice aW ws.length cW, .slice aP ps.length cP] 63)) w' → w'.cell? ⟨w.heap.size, 0, none⟩ = some (.slice aW ws.length cW) ∧ w'.cell? ⟨w.heap.size, 1, none⟩ = some (.slice aP ps.length cP)) := fun w' hb => by
  have : w'.heap[w.heap.size]? = some (.cells #[.slice aW ws.length cW, .slice aP ps.length cP] 63 (0, 0)) := (hb.block _ (by simp)).trans (zah rfl)
  exact ⟨(zac this).1, (zac this).2.1⟩
 have BW : Hid (Below w.heap.size w (w.alloc (.cells #[.slice aW ws.length cW, .slice aP ps.length cP] 63))) := (Below.refl _ _).alloc (Nat.le_refl _) _
 obtain ⟨x0, x1⟩ := CA.out _ (Below.refl _ _)
 obtain ⟨f0, f1, f2⟩ := FD.cells (hF.below BW.out)
 generalize feI ps = r at *
 clear hF CA
 go_enter Tryz.func232, Tryz.ntmps232
 go_wp2_with fail
 refine (LX.out _ BW.out).mono ?_
 rintro e w1 ⟨rfl, hb1⟩
 have B1 := zaa (zab BW.out hb1 BW.out.size)
 clear hb1 x0 x1 f0 f1 f2
 by_cases q : r < 0
 ·go_wp2
  go_ret2
  exact ⟨zbt (show (0 : Int) = zfy r from (if_pos q).symm) (show (7 : Int) = zfi r from (if_pos q).symm), B1.out⟩
 ·go_wp2
  go_ret2
  exact ⟨zbt (by unfold zfy; rw [if_neg (by omega)]) (by unfold zfi; rw [if_neg (by omega)]), B1.out⟩
set_option maxRecDepth 100000 in
set_option maxHeartbeats 2000000 in
theorem zcr (i f x : Int) (w : World) (hi : 0 ≤ i ∧ i < 16) (hf : 0 ≤ f ∧ f < 11) :
  Calls Tryz.prog 178 #[.int .i64 i, .int .i64 f, .int .i64 x] w fun e w' => e = .returned (.agg #[.int .i64 (48 + 12 * i + f), .int .i64 x]) ∧ Below w.heap.size w w' := by
 obtain ⟨k1, k2⟩ := ino_in hi hf
 have K1 := zaa k1
 have K2 := zaa k2
 clear k1 k2
 generalize 48 + 12 * i + f = at_ at *
 have BW := zaa ((Below.refl w.heap.size w).alloc (Nat.le_refl _) (.cells #[.int .i64 0, .int .i64 0] 130))
 go_enter Tryz.func178, Tryz.ntmps178
 go_wp2_with fail
 refine (zeg _ _ _).mono ?_
 rw [K1.out, K2.out]
 rintro e w' ⟨rfl, hw'⟩
 subst w'
 go_wp2
 refine bodyPost_ret (v := .agg #[.int .i64 at_, .int .i64 x]) (by simp [results, Tryz.results178, go_sem]) rfl ⟨rfl, ?_⟩
 repeat (first | exact BW.out | exact Below.refl _ _ | refine Below.setCell ?_ (by exact Nat.le_refl _) _ | refine Below.alloc ?_ (by simp) _)
def unL (i : Int) (x : Ino) : List Se := if 1 < x.links then [⟨48 + 12 * i + 2, x.links - 1⟩] else wrL i zbf 8
theorem iu_zero {i : Int} (hi : 0 ≤ i ∧ i < 16) : iuC i zbf = 0 ∧ iuL i zbf = wrL i zbf 8 := by
 have z : zep zbf = true := by decide
 exact ⟨by unfold iuC; rw [if_pos (by omega), if_pos z], by unfold iuL; rw [if_pos (by omega), if_pos z]⟩
set_option maxRecDepth 100000 in
set_option maxHeartbeats 4000000 in
theorem zli (i : Int) (x : Ino) (w : World) (hi : 0 ≤ i ∧ i < 16) (hl : x.links ≤ 24) (hT : TS w) (hE : ED w) :
  Calls Tryz.prog 236 #[.int .i64 i, x.v] w fun e w' => ∃ v', e = .returned v' ∧ Row w' 130 2 w.heap.size w'.heap.size v' (unL i x).length (ses (unL i x)) ∧ Below w.heap.size w w' := by
 have hv : x.v = .agg x.cs.toArray := rfl
 have LU := zaa (fun y w1 => zcr i 2 y w1 hi (by omega))
 have LI := zaa (fun w1 (hb : Below w.heap.size w w1) => zip i zbf w1 (hT.below hb) (hE.below hb) (by intro z hz; simp [zbf, Ino.map] at hz; omega))
 obtain ⟨q1, q2⟩ := iu_zero hi
 have Q1 := zaa q1
 have Q2 := zaa q2
 have EU := zaa (show unL i x = if 1 < x.links then [⟨48 + 12 * i + 2, x.links - 1⟩] else wrL i zbf 8 from rfl)
 obtain ⟨W, hW⟩ : ∃ W, W = w.alloc (.cells x.cs.toArray 97) := ⟨_, rfl⟩
 have CA : Hid (∀ w', Below W.heap.size W w' → ∀ j, w'.cell? ⟨w.heap.size, j, none⟩ = x.cs[j]?) := fun w' hb j => by
  have : w'.heap[w.heap.size]? = some (.cells x.cs.toArray 97 (0, 0)) := (hb.block _ (by rw [hW]; simp)).trans (by rw [hW]; exact zah rfl)
  exact (zae (xs := x.cs) this j).1
 have BW : Hid (Below w.heap.size w W) := by rw [hW]; exact (Below.refl _ _).alloc (Nat.le_refl _) _
 have c2 : (w.alloc (.cells x.cs.toArray 97)).cell? ⟨w.heap.size, 2, none⟩ = some (.int .i64 x.links) := by rw [← hW]; exact CA.out W (Below.refl _ _) 2
 rw [hv]
 clear hT hE q1 q2 CA
 generalize unL i x = L at *
 by_cases q : 1 < x.links
 ·rw [if_pos q] at EU
  obtain rfl := EU.out
  have wp1 : IntKind.i64.wrap (x.links - 1) = x.links - 1 := by rw [IntKind.wrap_i64]; omega
  have q1 : x.links > 1 := q
  clear EU LI Q1 Q2
  generalize x.links = l at *
  go_enter Tryz.func236, Tryz.ntmps236
  go_wp2_with fail
  rw [← hW]
  clear hW
  refine (LU.out _ _).mono ?_
  rintro e w1 ⟨rfl, hb1⟩
  have B1 := zaa (zab BW.out hb1 BW.out.size)
  clear hb1 c2
  go_wp2
  go_ret
  exact ⟨_, rfl, (zad (World.ownsRow_lit w1 _ 1 (Nat.le_refl _) (by simp [maxLen]) rfl)).wide B1.out.size (Nat.le_refl _), B1.out.alloc B1.out.size _⟩
 ·rw [if_neg q] at EU
  obtain rfl := EU.out
  have q1 : ¬ x.links > 1 := q
  clear EU LU
  generalize x.links = l at *
  go_enter Tryz.func236, Tryz.ntmps236
  go_wp2_with fail
  rw [← hW]
  clear hW
  refine (LI.out _ BW.out).mono ?_
  rw [Q1.out, Q2.out]
  rintro e w1 ⟨v1, rfl, hr1, hb1⟩
  have B1 := zaa (zab BW.out hb1 BW.out.size)
  have R1 := zaa (hr1.wide BW.out.size (Nat.le_refl _))
  obtain ⟨-, aL, cL, hvL, -⟩ := hr1.rd
  subst hvL
  clear hb1 hr1 c2
  go_wp2
  go_ret
  exact ⟨_, rfl, R1.out, B1.out⟩
def pfC (ws : List Ino) (ps : List Den) (ss : List ByteArray) : Int := if ss.any (fun s => decide (65536 < s.size)) = true then 2 else if zax ws ps = true then 0 else 1
set_option maxRecDepth 100000 in
set_option maxHeartbeats 4000000 in
theorem zgw (v vL : Value) (ws : List Ino) (ps : List Den) (ss : List ByteArray) (w : World) (h : RdIm w v ws ps) (hL : RdT w vL ss) (hn : ss.length ≤ 4096) (hw : ws.length ≤ 1048576) (hp : ps.length ≤ 1048576) (hT : TS w) (hE : ED w) (hF : FD w) (hr : ∀ k (h : k < ws.length), ws[k].R) (hs : ∀ k (h : k < ps.length), ps[k].name.size ≤ maxLen) :
  Calls Tryz.prog 229 #[v, vL] w fun e w' => e = .returned (.int .i64 (pfC ws ps ss)) ∧ Below w.heap.size w w' := by
 have LI := zaa (fun w1 (hb : Below w.heap.size w w1) => zbo v ws ps w1 (h.below hb) hw hp (hT.below hb) (hE.below hb) (hF.below hb) hr hs)
 have EC := zaa (show pfC ws ps ss = if ss.any (fun s => decide (65536 < s.size)) = true then 2 else if zax ws ps = true then 0 else 1 from rfl)
 obtain ⟨vW, vP, rfl, h1, h2⟩ := h
 obtain ⟨aW, cW, rfl, _, _⟩ := h1.shape
 obtain ⟨aP, cP, rfl, _, _⟩ := h2.shape
 obtain ⟨aL, cL, rfl, _, hcL⟩ := hL.shape
 have HL := zaa hcL
 clear h1 h2 hr hs hT hE hF hL hcL
 obtain ⟨W, hW⟩ : ∃ W, W = w.alloc (.cells #[.slice aW ws.length cW, .slice aP ps.length cP] 63) := ⟨_, rfl⟩
 have BW : Hid (Below w.heap.size w W) := by rw [hW]; exact (Below.refl _ _).alloc (Nat.le_refl _) _
 obtain ⟨x0, x1⟩ : W.cell? ⟨w.heap.size, 0, none⟩ = some (.slice aW ws.length cW) ∧ W.cell? ⟨w.heap.size, 1, none⟩ = some (.slice aP ps.length cP) := by
  have : W.heap[w.heap.size]? = some (.cells #[.slice aW ws.length cW, .slice aP ps.length cP] 63 (0, 0)) := by rw [hW]; exact zah rfl
  exact ⟨(zac this).1, (zac this).2.1⟩
 generalize pfC ws ps ss = r at *
 go_enter Tryz.func229, Tryz.ntmps229
 go_wp2
 rw [← hW]
 clear hW
 go_loopw [6, 9] (fun _ i wr => ∃ k : Nat, k ≤ ss.length ∧ i = .int .i64 k ∧ wr = W ∧ Hid (∀ j (h : j < ss.length), j < k → ¬ 65536 < ss[j].size)) (fun _ i _ => ss.length - (intOf i).toNat)
 case atStart => exact ⟨0, by omega, rfl, rfl, fun j _ a => absurd a (by omega)⟩
 case round =>
  obtain ⟨k, hk, rfl, rfl, H⟩ := hrel
  have k0 : (0 : Int) ≤ (k : Int) := by omega
  by_cases hlt : k < ss.length
  ·obtain ⟨b, o, rfl, hbl, hcell⟩ := HL.out (by omega)
   have d0 := (BW.out.cell (p := ⟨b, o + k, none⟩) hbl).trans (hcell k hlt)
   have k1 : (k : Int) < (ss.length : Int) := by omega
   clear hcell
   by_cases q : 65536 < ss[k].size
   ·have E : Hid (r = 2) := EC.out.trans (if_pos (List.any_eq_true.2 ⟨ss[k], List.getElem_mem hlt, decide_eq_true q⟩))
    obtain rfl := E.out
    have q1 : (ss[k].size : Int) > 65536 := by omega
    clear H E EC q
    generalize ss[k] = s at *
    go_wp2
    go_ret
    exact ⟨rfl, BW.out⟩
   ·have H' : Hid (∀ j (h : j < ss.length), j < k + 1 → ¬ 65536 < ss[j].size) := fun j h a => by
     by_cases e : j = k
     ·subst e; exact q
     ·exact H.out j h (by omega)
    have q1 : ¬ (ss[k].size : Int) > 65536 := by omega
    clear H q
    generalize ss[k] = s at *
    go_wp2
    go_roundw
    case rel => exact ⟨k + 1, by omega, by go_num, trivial, H'⟩
    case measure => simp [intOf]; omega
  ·have E : Hid (r = if zax ws ps = true then 0 else 1) := EC.out.trans (if_neg (by
    rw [List.any_eq_true]
    rintro ⟨s, hs, q⟩
    obtain ⟨j, hj, rfl⟩ := List.getElem_of_mem hs
    exact H.out j hj (by omega) (by simpa using q)))
   clear H EC
   cases c : zax ws ps with
   | true =>
    rw [c] at E LI
    obtain rfl := E.out
    clear E c
    go_wp2_with fail
    refine (LI.out _ BW.out).mono ?_
    rintro e w1 ⟨rfl, hb1⟩
    have B1 := zaa (zab BW.out hb1 BW.out.size)
    clear hb1 x0 x1
    go_wp2
    go_ret
    exact ⟨rfl, B1.out⟩
   | false =>
    rw [c] at E LI
    obtain rfl := E.out
    clear E c
    go_wp2_with fail
    refine (LI.out _ BW.out).mono ?_
    rintro e w1 ⟨rfl, hb1⟩
    have B1 := zaa (zab BW.out hb1 BW.out.size)
    clear hb1 x0 x1
    go_wp2
    go_ret
    exact ⟨rfl, B1.out⟩
end Go.Proofs.YtcilodgoognmnaaGreatDoor
