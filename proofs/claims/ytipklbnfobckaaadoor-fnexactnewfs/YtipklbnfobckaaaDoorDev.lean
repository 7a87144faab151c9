/- Two devices in one: what can be read of them, and what is a call's own; the helpers of the laws over them. -/
import Derived.Test.YtipklbnfobckaaaDoorZAE
import Derived.Test.YtipklbnfobckaaaDoorBlkT
import Derived.Test.YtipklbnfobckaaaDoorIntS
namespace Go.Proofs.YtipklbnfobckaaaDoor
open Go.RowKit

theorem four_cells {w : World} {b : Nat} {t : TypeId} {x y z u : Value} (h : w.heap[b]? = some (.cells #[x, y, z, u] t (0, 0))) :
    w.cell? ⟨b, 0, none⟩ = some x ∧ w.cell? ⟨b, 1, none⟩ = some y ∧ w.cell? ⟨b, 2, none⟩ = some z ∧ w.cell? ⟨b, 3, none⟩ = some u ∧ w.frozen? ⟨b, 0, none⟩ = false ∧ w.frozen? ⟨b, 1, none⟩ = false ∧ w.frozen? ⟨b, 2, none⟩ = false ∧ w.frozen? ⟨b, 3, none⟩ = false := by
  simp [World.cell?, World.frozen?, h]
/-- The devices as they can be read. -/
def RdDev (w : World) (v : Value) (ws : List Int) (ps : List St) (es : List Int) (qs : List Se) : Prop := ∃ vW vP vS vQ, v = .agg #[vW, vP, vS, vQ] ∧ RdPm w (.agg #[vW, vP]) ws ps ∧ RdBlk w (.agg #[vS, vQ]) es qs
/-- The devices of a call's own: each lies in blocks of its own. -/
def RowDev (w : World) (lo hi : Nat) (v : Value) (ws : List Int) (ps : List St) (es : List Int) (qs : List Se) : Prop :=
  ∃ vW vP vS vQ l1 h1 l2 h2, v = .agg #[vW, vP, vS, vQ] ∧ RowPm w l1 h1 (.agg #[vW, vP]) ws ps ∧ RowBlk w l2 h2 (.agg #[vS, vQ]) es qs ∧ (lo ≤ l1 ∧ h1 ≤ hi ∧ lo ≤ l2 ∧ h2 ≤ hi ∧ (h1 ≤ l2 ∨ h2 ≤ l1))
theorem RowDev.rd {w : World} {lo hi : Nat} {v : Value} {ws : List Int} {ps : List St} {es : List Int} {qs : List Se} (h : RowDev w lo hi v ws ps es qs) : RdDev w v ws ps es qs := by
  obtain ⟨vW, vP, vS, vQ, _, _, _, _, e, h1, h2, _⟩ := h
  exact ⟨vW, vP, vS, vQ, e, h1.rd, h2.rd⟩
theorem RdDev.below {w w' : World} {v : Value} {ws : List Int} {ps : List St} {es : List Int} {qs : List Se} (h : RdDev w v ws ps es qs) (hb : Below w.heap.size w w') : RdDev w' v ws ps es qs := by
  obtain ⟨vW, vP, vS, vQ, e, h1, h2⟩ := h
  exact ⟨vW, vP, vS, vQ, e, h1.below hb, h2.below hb⟩
theorem RowDev.below {w w' : World} {lo hi : Nat} {v : Value} {ws : List Int} {ps : List St} {es : List Int} {qs : List Se} (h : RowDev w lo hi v ws ps es qs) {B : Nat} (hb : Below B w w') (hB : hi ≤ B) : RowDev w' lo hi v ws ps es qs := by
  obtain ⟨vW, vP, vS, vQ, l1, h1, l2, h2, e, r1, r2, c⟩ := h
  exact ⟨vW, vP, vS, vQ, l1, h1, l2, h2, e, r1.below hb (by omega), r2.below hb (by omega), c⟩
theorem RowDev.outside {w w' : World} {lo hi : Nat} {v : Value} {ws : List Int} {ps : List St} {es : List Int} {qs : List Se} (h : RowDev w lo hi v ws ps es qs) {lo' hi' : Nat} (ho : Outside lo' hi' w w') (hd : hi ≤ lo' ∨ hi' ≤ lo) (hz : hi ≤ w.heap.size) : RowDev w' lo hi v ws ps es qs := by
  obtain ⟨vW, vP, vS, vQ, l1, h1, l2, h2, e, r1, r2, c⟩ := h
  exact ⟨vW, vP, vS, vQ, l1, h1, l2, h2, e, r1.outside ho (by omega) (by omega), r2.outside ho (by omega) (by omega), c⟩
theorem RowDev.wide {w : World} {lo hi : Nat} {v : Value} {ws : List Int} {ps : List St} {es : List Int} {qs : List Se} (h : RowDev w lo hi v ws ps es qs) {lo' hi' : Nat} (a : lo' ≤ lo) (b : hi ≤ hi') : RowDev w lo' hi' v ws ps es qs := by
  obtain ⟨vW, vP, vS, vQ, l1, h1, l2, h2, e, r1, r2, c⟩ := h
  exact ⟨vW, vP, vS, vQ, l1, h1, l2, h2, e, r1, r2, by omega⟩
theorem RowDev.alloc {w : World} {lo hi : Nat} {v : Value} {ws : List Int} {ps : List St} {es : List Int} {qs : List Se} (h : RowDev w lo hi v ws ps es qs) (hz : hi ≤ w.heap.size) (o : Obj) : RowDev (w.alloc o) lo hi v ws ps es qs := h.below ((Below.refl _ _).alloc (Nat.le_refl _) o) hz
theorem RdDev.form {w : World} {v : Value} {ws : List Int} {ps : List St} {es : List Int} {qs : List Se} (h : RdDev w v ws ps es qs) : ∃ aW cW aP cP aS cS aQ cQ, v = .agg #[.slice aW ws.length cW, .slice aP ps.length cP, .slice aS es.length cS, .slice aQ qs.length cQ] ∧ RdPm w (.agg #[.slice aW ws.length cW, .slice aP ps.length cP]) ws ps ∧ RdBlk w (.agg #[.slice aS es.length cS, .slice aQ qs.length cQ]) es qs := by
  obtain ⟨vW, vP, vS, vQ, rfl, ⟨_, _, e1, h1, h2⟩, ⟨_, _, e2, h3, h4⟩⟩ := h
  cases e1
  cases e2
  obtain ⟨aW, cW, rfl, _⟩ := h1.shape
  obtain ⟨aP, cP, rfl, _⟩ := h2.shape
  obtain ⟨aS, cS, rfl, _⟩ := h3.shape
  obtain ⟨aQ, cQ, rfl, _⟩ := h4.shape
  exact ⟨aW, cW, aP, cP, aS, cS, aQ, cQ, rfl, ⟨_, _, rfl, h1, h2⟩, ⟨_, _, rfl, h3, h4⟩⟩
theorem RowPm.form {w : World} {lo hi : Nat} {v : Value} {ws : List Int} {ps : List St} (h : RowPm w lo hi v ws ps) : ∃ aW cW aP cP, v = .agg #[.slice aW ws.length cW, .slice aP ps.length cP] := by
  obtain ⟨vW, vP, rfl, h1, h2⟩ := h.rd
  obtain ⟨aW, cW, rfl, _⟩ := h1.shape
  obtain ⟨aP, cP, rfl, _⟩ := h2.shape
  exact ⟨aW, cW, aP, cP, rfl⟩
theorem RowBlk.form {w : World} {lo hi : Nat} {v : Value} {ws : List Int} {ps : List Se} (h : RowBlk w lo hi v ws ps) : ∃ aW cW aP cP, v = .agg #[.slice aW ws.length cW, .slice aP ps.length cP] := by
  obtain ⟨vW, vP, rfl, h1, h2⟩ := h.rd
  obtain ⟨aW, cW, rfl, _⟩ := h1.shape
  obtain ⟨aP, cP, rfl, _⟩ := h2.shape
  exact ⟨aW, cW, aP, cP, rfl⟩

set_option maxHeartbeats 2000000 in
theorem eqDevices_same (va vb : Value) (ws : List Int) (ps : List St) (es : List Int) (qs : List Se) (w : World) (ha : RdDev w va ws ps es qs) (hb : RdDev w vb ws ps es qs) (hw : ws.length ≤ 2147483648) (hp : ps.length ≤ 2147483648) (he : es.length ≤ 2147483648) (hq : qs.length ≤ 2147483648) :
    Calls Tryd.prog 13 #[va, vb] w fun e w' => e = .returned (.bool true) ∧ Below w.heap.size w w' := by
  obtain ⟨aW, cW, aP, cP, aS, cS, aQ, cQ, rfl, h1, h2⟩ := ha.form
  obtain ⟨bW, dW, bP, dP, bS, dS, bQ, dQ, rfl, h3, h4⟩ := hb.form
  have H1 := hideIt h1
  have H2 := hideIt h2
  have H3 := hideIt h3
  have H4 := hideIt h4
  clear ha hb h1 h2 h3 h4
  have hb0 : Below w.heap.size w ((w.alloc (.cells #[.slice aW ws.length cW, .slice aP ps.length cP, .slice aS es.length cS, .slice aQ qs.length cQ] 30)).alloc (.cells #[.slice bW ws.length dW, .slice bP ps.length dP, .slice bS es.length dS, .slice bQ qs.length dQ] 30)) := by
    repeat (refine Below.alloc ?_ (by simp <;> omega) _)
    exact Below.refl _ _
  go_enter Tryd.func13, Tryd.ntmps13
  go_wp2_with fail
  refine (eqPm_same _ _ ws ps _ (H1.out.below hb0) (H3.out.below hb0) hw hp).mono ?_
  rintro e w1 ⟨rfl, hb1⟩
  have hz1 : w.heap.size + 2 ≤ w1.heap.size := by have := hb1.size; simp at this; omega
  obtain ⟨x0, x1, x2, x3, -, -, -, -⟩ := four_cells ((hb1.block w.heap.size (by simp <;> omega)).trans (at_old (at_new rfl)))
  obtain ⟨y0, y1, y2, y3, -, -, -, -⟩ := four_cells ((hb1.block (w.heap.size + 1) (by simp <;> omega)).trans (at_new (by simp)))
  have B1 := hideIt (below_trans hb0 hb1 (by simp <;> omega))
  clear hb0 hb1
  go_wp2_with fail
  refine (eqBlk_same _ _ es qs _ (H2.out.below B1.out) (H4.out.below B1.out) he hq).mono ?_
  rintro e w2 ⟨rfl, hb2⟩
  have B2 := hideIt (below_trans B1.out hb2 B1.out.size)
  clear hb2
  go_wp2
  go_ret
  exact ⟨rfl, B2.out⟩

set_option maxHeartbeats 2000000 in
theorem markDevices_any (v : Value) (ws : List Int) (ps : List St) (es : List Int) (qs : List Se) (k0 : Int) (lo hi : Nat) (w : World) (h : RowDev w lo hi v ws ps es qs) (hi1 : hi ≤ w.heap.size) (hw : ws.length ≤ 16777216) (hp : ps.length ≤ 16777216) (he : es.length ≤ 16777216) (hq : qs.length ≤ 16777216) (h0 : 0 ≤ k0) (h1 : k0 ≤ 67108864) :
    Calls Tryd.prog 17 #[v, .int .i64 k0] w fun e w' => e = .returned (.int .i64 (k0 + ws.length + 3 * ps.length + es.length + 2 * qs.length)) ∧ RowDev w' lo hi v (marks k0 ws.length) (marksS (k0 + ws.length) ps.length) (marks (k0 + ws.length + 3 * ps.length) es.length) (marksE (k0 + ws.length + 3 * ps.length + es.length) qs.length) ∧ Outside lo hi w w' := by
  obtain ⟨aW, cW, aP, cP, aS, cS, aQ, cQ, e0, -, -⟩ := h.rd.form
  subst e0
  obtain ⟨_, _, _, _, l1, u1, l2, u2, e0, r1, r2, c1, c2, c3, c4, c5⟩ := h
  cases e0
  have R1 := hideIt r1
  have R2 := hideIt r2
  clear r1 r2
  have hb0 : Below w.heap.size w (w.alloc (.cells #[.slice aW ws.length cW, .slice aP ps.length cP, .slice aS es.length cS, .slice aQ qs.length cQ] 30)) := (Below.refl _ _).alloc (Nat.le_refl _) _
  go_enter Tryd.func17, Tryd.ntmps17
  go_wp2_with fail
  refine (markPm_any _ ws ps k0 l1 u1 _ (R1.out.below hb0 (by omega)) (by simp only [World.size_alloc]; omega) (by omega) (by omega) h0 (by omega)).mono ?_
  rintro e w1 ⟨rfl, hr1, ho1⟩
  have hz1 : w.heap.size + 1 ≤ w1.heap.size := by have := ho1.size; simp only [World.size_alloc] at this; exact this
  obtain ⟨x0, x1, x2, x3, -, -, -, -⟩ := four_cells ((ho1.block w.heap.size (by simp) (.inr (by omega))).trans (at_new rfl))
  have O1 := hideIt ((Outside.of_below (lo := lo) (hi := hi) hb0).trans (ho1.mono c1 c2))
  have Q1 := hideIt hr1
  have Q2 := hideIt ((R2.out.below hb0 (by omega)).outside ho1 (by omega) (by simp only [World.size_alloc]; omega))
  clear hr1 ho1 hb0
  go_wp2_with fail
  refine (markBlk_any _ es qs (k0 + ws.length + 3 * ps.length) l2 u2 _ Q2.out (by omega) (by omega) (by omega) (by omega) (by omega)).mono ?_
  rintro e w2 ⟨rfl, hr2, ho2⟩
  have O2 := hideIt (O1.out.trans (ho2.mono c3 c4))
  have Q3 := hideIt (Q1.out.outside ho2 (by omega) (by omega))
  have Q4 := hideIt hr2
  clear hr2 ho2
  go_wp2
  go_ret
  exact ⟨rfl, ⟨_, _, _, _, _, _, _, _, rfl, Q3.out, Q4.out, c1, c2, c3, c4, c5⟩, O2.out⟩

set_option maxHeartbeats 2000000 in
theorem heldDevices_any (v : Value) (n m n2 m2 : Nat) (k0 : Int) (w : World) (h : RdDev w v (marks k0 n) (marksS (k0 + n) m) (marks (k0 + n + 3 * m) n2) (marksE (k0 + n + 3 * m + n2) m2)) (hw : n ≤ 16777216) (hp : m ≤ 16777216) (he : n2 ≤ 16777216) (hq : m2 ≤ 16777216) (h0 : 0 ≤ k0) (h1 : k0 ≤ 67108864) :
    Calls Tryd.prog 21 #[v, .int .i64 k0] w fun e w' => e = .returned (.int .i64 (k0 + n + 3 * m + n2 + 2 * m2)) ∧ Below w.heap.size w w' := by
  obtain ⟨aW, cW, aP, cP, aS, cS, aQ, cQ, rfl, r1, r2⟩ := h.form
  clear h
  rw [marks_len, marksS_len] at r1
  rw [marks_len, marksE_len] at r2
  rw [marks_len, marksS_len, marks_len, marksE_len]
  have R1 := hideIt r1
  have R2 := hideIt r2
  clear r1 r2
  have hb0 : Below w.heap.size w (w.alloc (.cells #[.slice aW n cW, .slice aP m cP, .slice aS n2 cS, .slice aQ m2 cQ] 30)) := (Below.refl _ _).alloc (Nat.le_refl _) _
  go_enter Tryd.func21, Tryd.ntmps21
  go_wp2_with fail
  refine (heldPm_any _ n m k0 _ (R1.out.below hb0) (by omega) (by omega) h0 (by omega)).mono ?_
  rintro e w1 ⟨rfl, hb1⟩
  obtain ⟨x0, x1, x2, x3, -, -, -, -⟩ := four_cells ((hb1.block w.heap.size (by simp)).trans (at_new rfl))
  have B1 := hideIt (below_trans hb0 hb1 (by simp))
  clear hb0 hb1
  go_wp2_with fail
  refine (heldBlk_any _ n2 m2 (k0 + n + 3 * m) _ (R2.out.below B1.out) (by omega) (by omega) (by omega) (by omega)).mono ?_
  rintro e w2 ⟨rfl, hb2⟩
  have B2 := hideIt (below_trans B1.out hb2 B1.out.size)
  clear hb2
  go_wp2
  go_ret
  exact ⟨rfl, B2.out⟩

end Go.Proofs.YtipklbnfobckaaaDoor
