/- Devices copied, and one step done: by the program. -/
import Derived.Test.YtbjalmiheipjjaaDoorJiA
import Derived.Test.YtbjalmiheipjjaaDoorZAN
import Derived.Test.YtbjalmiheipjjaaDoorZBD
import Derived.Test.YtbjalmiheipjjaaDoorPmStoreI
import Derived.Test.YtbjalmiheipjjaaDoorPmFlushI
import Derived.Test.YtbjalmiheipjjaaDoorPmFenceI
import Derived.Test.YtbjalmiheipjjaaDoorBlkWriteI
import Derived.Test.YtbjalmiheipjjaaDoorBlkBarI
namespace Go.Proofs.YtbjalmiheipjjaaDoor
open Go.RowKit
theorem RowBlk3.z {w : World} {lo hi : Nat} {v : Value} {ws : List Int} {ps : List Se} (h : RowBlk3 w lo hi v ws ps) : RowBlk w lo hi v ws ps := by
  obtain ⟨vW, vP, e, h1, h2⟩ := h
  exact ⟨vW, vP, e, h1.z, h2⟩
theorem putD_out (w : World) (bD bR i j : Nat) (h : bD ≤ bR) (x y a b c d : Value) : Outside bD (bR + 1) w (putD w bD bR i j x y a b c d) := by
  unfold putD
  repeat (refine Outside.setCell ?_ (by simp only; omega) (by simp only; omega) _)
  exact Outside.refl _ _ _
def RowDevB (w : World) (b lo hi : Nat) (v : Value) (ws : List Int) (ps : List St) (es : List Int) (qs : List Se) : Prop :=
  ∃ vW vP vS vQ l1 h1 l2 h2, v = .agg #[vW, vP, vS, vQ] ∧ RowPm w l1 h1 (.agg #[vW, vP]) ws ps ∧ RowBlk w l2 h2 (.agg #[vS, vQ]) es qs ∧ (lo ≤ l1 ∧ h1 ≤ hi ∧ lo ≤ l2 ∧ h2 ≤ hi ∧ (h1 ≤ l2 ∨ h2 ≤ l1)) ∧ (h1 ≤ b ∨ b < l1) ∧ (h2 ≤ b ∨ b < l2)
theorem RowDevB.row {w : World} {b lo hi : Nat} {v : Value} {ws : List Int} {ps : List St} {es : List Int} {qs : List Se} (h : RowDevB w b lo hi v ws ps es qs) : RowDev w lo hi v ws ps es qs := by
  obtain ⟨vW, vP, vS, vQ, l1, h1, l2, h2, e, r1, r2, c, _⟩ := h
  exact ⟨vW, vP, vS, vQ, l1, h1, l2, h2, e, r1, r2, c⟩
theorem RowDev.b {w : World} {lo hi : Nat} {v : Value} {ws : List Int} {ps : List St} {es : List Int} {qs : List Se} (h : RowDev w lo hi v ws ps es qs) (b : Nat) (hb : b < lo ∨ hi ≤ b) : RowDevB w b lo hi v ws ps es qs := by
  obtain ⟨vW, vP, vS, vQ, l1, h1, l2, h2, e, r1, r2, c⟩ := h
  exact ⟨vW, vP, vS, vQ, l1, h1, l2, h2, e, r1, r2, c, by omega, by omega⟩
theorem RowDevB.below {w w' : World} {b lo hi : Nat} {v : Value} {ws : List Int} {ps : List St} {es : List Int} {qs : List Se} (h : RowDevB w b lo hi v ws ps es qs) {B : Nat} (hb : Below B w w') (hB : hi ≤ B) : RowDevB w' b lo hi v ws ps es qs := by
  obtain ⟨vW, vP, vS, vQ, l1, h1, l2, h2, e, r1, r2, c, d⟩ := h
  exact ⟨vW, vP, vS, vQ, l1, h1, l2, h2, e, r1.below hb (by omega), r2.below hb (by omega), c, d⟩
theorem RowDevB.wide {w : World} {b lo hi : Nat} {v : Value} {ws : List Int} {ps : List St} {es : List Int} {qs : List Se} (h : RowDevB w b lo hi v ws ps es qs) {lo' hi' : Nat} (a : lo' ≤ lo) (a' : hi ≤ hi') : RowDevB w b lo' hi' v ws ps es qs := by
  obtain ⟨vW, vP, vS, vQ, l1, h1, l2, h2, e, r1, r2, c, d⟩ := h
  exact ⟨vW, vP, vS, vQ, l1, h1, l2, h2, e, r1, r2, by omega, d⟩
theorem RowDevB.put {w w' : World} {b lo hi : Nat} {v : Value} {ws : List Int} {ps : List St} {es : List Int} {qs : List Se} (h : RowDevB w b lo hi v ws ps es qs) (ho : Outside b (b + 1) w w') (hz : hi ≤ w.heap.size) : RowDevB w' b lo hi v ws ps es qs := by
  obtain ⟨vW, vP, vS, vQ, l1, h1, l2, h2, e, r1, r2, c, d⟩ := h
  exact ⟨vW, vP, vS, vQ, l1, h1, l2, h2, e, r1.outside ho (by omega) (by omega), r2.outside ho (by omega) (by omega), c, d⟩
def barL (_ : List Int) (_ : List Se) : List Se := []
theorem implBlkBarrier_l (v : Value) (ws : List Int) (ps : List Se) (w : World) (h : RdBlk w v ws ps) (hw : ws.length ≤ 1048576) (hp : ps.length ≤ 1048576) :
    Calls Tryd.prog 54 #[v] w fun e w' => ∃ v', e = .returned (.tuple #[v', .int .i64 (barC ws ps)]) ∧ RowBlk w' w.heap.size w'.heap.size v' (barWs ws ps) (barL ws ps) ∧ Below w.heap.size w w' := implBlkBarrier_any v ws ps w h hw hp
theorem copyBlk_z (v : Value) (ws : List Int) (ps : List Se) (w : World) (h : RdBlk w v ws ps) (hw : ws.length ≤ 2147483648) (hp : ps.length ≤ 2147483648) :
    Calls Tryd.prog 49 #[v] w fun e w' => ∃ v', e = .returned v' ∧ RowBlk w' w.heap.size w'.heap.size v' ws ps ∧ Below w.heap.size w w' := by
  refine (copyBlk_any v ws ps w h hw hp).mono ?_
  rintro e w' ⟨v', rfl, hr, hb⟩
  exact ⟨v', rfl, hr.z, hb⟩
set_option maxRecDepth 100000 in
set_option maxHeartbeats 8000000 in
theorem copyDevices_any (v : Value) (ws : List Int) (ps : List St) (es : List Int) (qs : List Se) (w : World) (h : RdDev w v ws ps es qs) (hw : ws.length ≤ 1048576) (hp : ps.length ≤ 1048576) (he : es.length ≤ 1048576) (hq : qs.length ≤ 1048576) :
    Calls Tryd.prog 26 #[v] w fun e w' => ∃ v', e = .returned v' ∧ RowDev w' w.heap.size w'.heap.size v' ws ps es qs ∧ Below w.heap.size w w' := by
  obtain ⟨aW, cW, aP, cP, aS, cS, aQ, cQ, rfl, r1, r2⟩ := h.form
  have R1 := hideIt r1
  have R2 := hideIt r2
  clear h r1 r2
  have hb0 : Below w.heap.size w ((w.alloc (.cells #[.slice aW ws.length cW, .slice aP ps.length cP, .slice aS es.length cS, .slice aQ qs.length cQ] 36)).alloc (.cells #[.slice none 0 0, .slice none 0 0, .slice none 0 0, .slice none 0 0] 36)) := by
    repeat (refine Below.alloc ?_ (by simp <;> omega) _)
    exact Below.refl _ _
  go_enter Tryd.func26, Tryd.ntmps26
  go_upto_region 1 with fail
  obtain ⟨w0, hw0⟩ : ∃ w0 : World, w0 = (w.alloc (.cells #[.slice aW ws.length cW, .slice aP ps.length cP, .slice aS es.length cS, .slice aQ qs.length cQ] 36)).alloc (.cells #[.slice none 0 0, .slice none 0 0, .slice none 0 0, .slice none 0 0] 36) := ⟨_, rfl⟩
  rw [← hw0]
  rw [← hw0] at hb0
  have hz0 : w.heap.size + 2 ≤ w0.heap.size := by rw [hw0]; simp
  have V0 : Hid (w0.heap[w.heap.size]? = some (.cells #[.slice aW ws.length cW, .slice aP ps.length cP, .slice aS es.length cS, .slice aQ qs.length cQ] 36 (0, 0))) := by rw [hw0]; exact at_old (at_new rfl)
  have V1 : Hid (w0.heap[w.heap.size + 1]? = some (.cells #[.slice none 0 0, .slice none 0 0, .slice none 0 0, .slice none 0 0] 36 (0, 0))) := by rw [hw0]; exact at_new (by simp)
  clear hw0
  have B0 := hideIt hb0
  clear hb0
  obtain ⟨x0, x1, x2, x3, -, -, -, -⟩ := four_cells V0.out
  obtain ⟨y0, y1, y2, y3, y4, y5, y6, y7⟩ := four_cells V1.out
  go_region_with (first
    | (go_at_call 48; refine (copyPm_any _ ws ps _ (R1.out.below (by first | exact B0.out | exact B0.out.drew)) (by omega) (by omega)).mono ?_; rintro e w1 ⟨v1, rfl, hr1, hb1⟩; obtain ⟨aW1, cW1, aP1, cP1, rfl⟩ := hr1.form; have hz1 : w0.heap.size ≤ w1.heap.size := hb1.size; have B1 : Hid (Below w0.heap.size w0 w1) := (by first | exact hb1 | exact below_trans ((Below.refl _ _).drew) hb1 (Nat.le_refl _)); have Q1 : Hid (RowPm w1 w0.heap.size w1.heap.size (.agg #[.slice aW1 ws.length cW1, .slice aP1 ps.length cP1]) ws ps) := hr1; obtain ⟨z0, z1, z2, z3, -, -, -, -⟩ := four_cells ((B1.out.block w.heap.size (by omega)).trans V0.out); clear hr1 hb1)
    | (go_at_call 49; refine (copyBlk_z _ es qs _ (R2.out.below (by first | exact below_trans B0.out B1.out (by omega) | exact (below_trans B0.out B1.out (by omega)).drew)) (by omega) (by omega)).mono ?_; rintro e w2 ⟨v2, rfl, hr2, hb2⟩; obtain ⟨aS2, cS2, aQ2, cQ2, rfl⟩ := hr2.form; have hz2 : w1.heap.size ≤ w2.heap.size := hb2.size; have B2 : Hid (Below w1.heap.size w1 w2) := (by first | exact hb2 | exact below_trans ((Below.refl _ _).drew) hb2 (Nat.le_refl _)); have Q2 : Hid (RowBlk w2 w1.heap.size w2.heap.size (.agg #[.slice aS2 es.length cS2, .slice aQ2 qs.length cQ2]) es qs) := hr2; have VR := hideIt ((B2.out.block (w.heap.size + 1) (by omega)).trans ((B1.out.block (w.heap.size + 1) (by omega)).trans V1.out)); obtain ⟨t0, t1, t2, t3, t4, t5, t6, t7⟩ := four_cells VR.out; clear hr2 hb2))
  all_goals
    go_wp2
    refine bodyPost_ret (v := .agg #[.slice aW1 ws.length cW1, .slice aP1 ps.length cP1, .slice aS2 es.length cS2, .slice aQ2 qs.length cQ2]) (by simp [results, Tryd.results26, go_sem, t0, t1, t2, t3]) rfl ?_
    have O := putR_out w2 (w.heap.size + 1) (.slice aW1 ws.length cW1) (.slice aP1 ps.length cP1) (.slice aS2 es.length cS2) (.slice aQ2 qs.length cQ2)
    have Z := putR_size w2 (w.heap.size + 1) (.slice aW1 ws.length cW1) (.slice aP1 ps.length cP1) (.slice aS2 es.length cS2) (.slice aQ2 qs.length cQ2)
    refine ⟨_, rfl, ⟨_, _, _, _, w0.heap.size, w1.heap.size, w1.heap.size, w2.heap.size, rfl, ?_, ?_, by omega, Nat.le_trans hz2 (Nat.le_of_eq Z.symm), by omega, Nat.le_of_eq Z.symm, .inl (Nat.le_refl _)⟩, ?_⟩
    · exact (Q1.out.below B2.out (Nat.le_refl _)).outside O (by omega) (by omega)
    · exact Q2.out.outside O (by omega) (Nat.le_refl _)
    · exact (below_trans (below_trans B0.out B1.out (by omega)) B2.out (by omega)).trans (O.below (by omega) (by omega))
theorem md_store {a x : Int} {ws : List Int} {ps : List St} {es : List Int} {qs : List Se} (hp : pmB ws ps = true) (hb : blkB es qs = true) (ha : 0 ≤ a ∧ a < 336) (hx : 0 ≤ x ∧ x < 1099511627776) :
    mdC ⟨1, a, x⟩ ws ps es qs = storeC ws ps a x ∧ mdW ⟨1, a, x⟩ ws ps es qs = storeWs ws ps a x ∧ mdP ⟨1, a, x⟩ ws ps es qs = storePs ws ps a x ∧ mdE ⟨1, a, x⟩ ws ps es qs = es ∧ mdQ ⟨1, a, x⟩ ws ps es qs = qs := by
  have hm : miB ⟨1, a, x⟩ = true := miB_in (by omega)
  have h0 := askC_ok hp (show placeB a = true from decide_eq_true ha)
  have h1 : wordB x = true := decide_eq_true hx
  rcases md_cases ⟨1, a, x⟩ ws ps es qs with ⟨c, _⟩ | ⟨_, c, _⟩ | ⟨_, _, f, c0, c1, c2, c3, c4⟩ | ⟨_, _, f, c0, c1, c2, c3, c4⟩
  · rw [hp, hb] at c; cases c
  · rw [hm] at c; cases c
  · have hl : ps.length = 400 := by have := of_decide_eq_true f; simp at this; exact this
    rcases store_cases ws ps a x with ⟨q, _⟩ | ⟨_, q, _⟩ | ⟨_, _, _, d0, d1, d2⟩ | ⟨_, _, q, _⟩
    · omega
    · rw [h1] at q; cases q
    · exact ⟨c0.trans d0.symm, c1.trans d1.symm, c2.trans d2.symm, c3, c4⟩
    · exact absurd hl q
  · have hl : ¬ ps.length = 400 := by have := of_decide_eq_false f; simp at this; exact this
    rcases store_cases ws ps a x with ⟨q, _⟩ | ⟨_, q, _⟩ | ⟨_, _, q, _⟩ | ⟨_, _, _, d0, d1, d2⟩
    · omega
    · rw [h1] at q; cases q
    · exact absurd q hl
    · exact ⟨c0.trans d0.symm, c1.trans d1.symm, c2.trans d2.symm, c3, c4⟩
theorem md_write {a x : Int} {ws : List Int} {ps : List St} {es : List Int} {qs : List Se} (hp : pmB ws ps = true) (hb : blkB es qs = true) (ha : 0 ≤ a ∧ a < 32) (hx : 0 ≤ x ∧ x < 1099511627776) :
    mdC ⟨4, a, x⟩ ws ps es qs = writeC es qs a x ∧ mdW ⟨4, a, x⟩ ws ps es qs = ws ∧ mdP ⟨4, a, x⟩ ws ps es qs = ps ∧ mdE ⟨4, a, x⟩ ws ps es qs = writeWs es qs a x ∧ mdQ ⟨4, a, x⟩ ws ps es qs = writePs es qs a x := by
  have hm : miB ⟨4, a, x⟩ = true := miB_in (by omega)
  have h0 := askE_ok hb (show secB a = true from decide_eq_true ha)
  have h1 : wordB x = true := decide_eq_true hx
  rcases md_cases ⟨4, a, x⟩ ws ps es qs with ⟨c, _⟩ | ⟨_, c, _⟩ | ⟨_, _, f, c0, c1, c2, c3, c4⟩ | ⟨_, _, f, c0, c1, c2, c3, c4⟩
  · rw [hp, hb] at c; cases c
  · rw [hm] at c; cases c
  · have hl : qs.length = 400 := by have := of_decide_eq_true f; simp at this; exact this
    rcases write_cases es qs a x with ⟨q, _⟩ | ⟨_, q, _⟩ | ⟨_, _, _, d0, d1, d2⟩ | ⟨_, _, q, _⟩
    · omega
    · rw [h1] at q; cases q
    · exact ⟨c0.trans d0.symm, c1, c2, c3.trans d1.symm, c4.trans d2.symm⟩
    · exact absurd hl q
  · have hl : ¬ qs.length = 400 := by have := of_decide_eq_false f; simp at this; exact this
    rcases write_cases es qs a x with ⟨q, _⟩ | ⟨_, q, _⟩ | ⟨_, _, q, _⟩ | ⟨_, _, _, d0, d1, d2⟩
    · omega
    · rw [h1] at q; cases q
    · exact absurd q hl
    · exact ⟨c0.trans d0.symm, c1, c2, c3.trans d1.symm, c4.trans d2.symm⟩
theorem md_other {k a x : Int} {ws : List Int} {ps : List St} {es : List Int} {qs : List Se} (hp : pmB ws ps = true) (hb : blkB es qs = true) (hm : miB ⟨k, a, x⟩ = true) (h1 : ¬ k = 1) (h4 : ¬ k = 4) :
    mdC ⟨k, a, x⟩ ws ps es qs = 0 ∧ mdW ⟨k, a, x⟩ ws ps es qs = doW ⟨k, a, x⟩ ws ps ∧ mdP ⟨k, a, x⟩ ws ps es qs = doP ⟨k, a, x⟩ ps ∧ mdE ⟨k, a, x⟩ ws ps es qs = doE ⟨k, a, x⟩ es qs ∧ mdQ ⟨k, a, x⟩ ws ps es qs = doQ ⟨k, a, x⟩ qs := by
  have hf : fullB ⟨k, a, x⟩ ps qs = false := decide_eq_false (fun h => by simp at h; omega)
  rcases md_cases ⟨k, a, x⟩ ws ps es qs with ⟨c, _⟩ | ⟨_, c, _⟩ | ⟨_, _, f, _⟩ | ⟨_, _, _, c⟩
  · rw [hp, hb] at c; cases c
  · rw [hm] at c; cases c
  · rw [hf] at f; cases f
  · exact c
theorem md_flush {a : Int} {ws : List Int} {ps : List St} {es : List Int} {qs : List Se} (hp : pmB ws ps = true) (hb : blkB es qs = true) (ha : 0 ≤ a ∧ a < 336) :
    mdC ⟨2, a, 0⟩ ws ps es qs = askC ws ps a ∧ mdW ⟨2, a, 0⟩ ws ps es qs = flushWs ws ps a ∧ mdP ⟨2, a, 0⟩ ws ps es qs = flushPs ws ps a ∧ mdE ⟨2, a, 0⟩ ws ps es qs = es ∧ mdQ ⟨2, a, 0⟩ ws ps es qs = qs := by
  have h0 := askC_ok hp (show placeB a = true from decide_eq_true ha)
  obtain ⟨c0, c1, c2, c3, c4⟩ := md_other (x := 0) hp hb (miB_in (k := 2) (a := a) (x := 0) (by omega)) (by omega) (by omega)
  unfold flushWs flushPs
  rw [if_pos h0, if_pos h0, h0]
  exact ⟨c0, c1, c2, c3, c4⟩
theorem md_fence {ws : List Int} {ps : List St} {es : List Int} {qs : List Se} (hp : pmB ws ps = true) (hb : blkB es qs = true) :
    mdC ⟨3, 0, 0⟩ ws ps es qs = fenceC ws ps ∧ mdW ⟨3, 0, 0⟩ ws ps es qs = fenceWs ws ps ∧ mdP ⟨3, 0, 0⟩ ws ps es qs = fencePs ws ps ∧ mdE ⟨3, 0, 0⟩ ws ps es qs = es ∧ mdQ ⟨3, 0, 0⟩ ws ps es qs = qs := by
  obtain ⟨c0, c1, c2, c3, c4⟩ := md_other (x := 0) hp hb (miB_in (k := 3) (a := 0) (x := 0) (by omega)) (by omega) (by omega)
  unfold fenceC fenceWs fencePs
  rw [if_pos hp, if_pos hp, if_pos hp]
  exact ⟨c0, c1, c2, c3, c4⟩
theorem md_bar {ws : List Int} {ps : List St} {es : List Int} {qs : List Se} (hp : pmB ws ps = true) (hb : blkB es qs = true) :
    mdC ⟨5, 0, 0⟩ ws ps es qs = barC es qs ∧ mdW ⟨5, 0, 0⟩ ws ps es qs = ws ∧ mdP ⟨5, 0, 0⟩ ws ps es qs = ps ∧ mdE ⟨5, 0, 0⟩ ws ps es qs = barWs es qs ∧ mdQ ⟨5, 0, 0⟩ ws ps es qs = barL es qs := by
  obtain ⟨c0, c1, c2, c3, c4⟩ := md_other (x := 0) hp hb (miB_in (k := 5) (a := 0) (x := 0) (by omega)) (by omega) (by omega)
  unfold barC barWs
  rw [if_pos hb, if_pos hb]
  exact ⟨c0, c1, c2, c3, c4⟩
set_option maxRecDepth 100000 in
set_option maxHeartbeats 8000000 in
theorem doStep_any (v : Value) (k a x : Int) (ws : List Int) (ps : List St) (es : List Int) (qs : List Se) (b lo : Nat) (w : World) (hbx : b < w.heap.size) (hlo : lo ≤ w.heap.size) (h : RowDevB w b lo w.heap.size v ws ps es qs) (hp1 : pmB ws ps = true) (hb1 : blkB es qs = true) (hm : miB ⟨k, a, x⟩ = true) :
    Calls Tryd.prog 27 #[v, .agg #[.int .i64 k, .int .i64 a, .int .i64 x]] w fun e w' => ∃ v', e = .returned (.tuple #[v', .int .i64 (mdC ⟨k, a, x⟩ ws ps es qs)]) ∧ RowDevB w' b lo w'.heap.size v' (mdW ⟨k, a, x⟩ ws ps es qs) (mdP ⟨k, a, x⟩ ws ps es qs) (mdE ⟨k, a, x⟩ ws ps es qs) (mdQ ⟨k, a, x⟩ ws ps es qs) ∧ Below w.heap.size w w' := by
  obtain ⟨vW, vP, vS, vQ, l1, h1, l2, h2, rfl, r1, r2, ⟨c1, c2, c3, c4, c5⟩, c6, c7⟩ := h
  obtain ⟨aW, cW, aP, cP, e1⟩ := r1.form
  obtain ⟨aS, cS, aQ, cQ, e2⟩ := r2.form
  cases e1
  cases e2
  have R1 := hideIt r1
  have R2 := hideIt r2
  have hwl : ws.length ≤ 336 := Nat.le_of_eq (pmB_len hp1).1
  have hpl : ps.length ≤ 400 := (pmB_len hp1).2
  have hel : es.length ≤ 32 := Nat.le_of_eq (blkB_len hb1).1
  have hql : qs.length ≤ 400 := (blkB_len hb1).2
  have HP := hideIt (And.intro hp1 hb1)
  have hk := (miB_of k a x).1 hm
  clear r1 r2 hp1 hb1 hm
  have hb0 : Below w.heap.size w (((w.alloc (.cells #[.slice aW ws.length cW, .slice aP ps.length cP, .slice aS es.length cS, .slice aQ qs.length cQ] 36)).alloc (.cells #[.int .i64 k, .int .i64 a, .int .i64 x] 61)).alloc (.cells #[.slice none 0 0, .slice none 0 0, .slice none 0 0, .slice none 0 0] 36)) := by
    repeat (refine Below.alloc ?_ (by simp <;> omega) _)
    exact Below.refl _ _
  rcases (show (k = 1 ∧ (0 ≤ a ∧ a < 336) ∧ 0 ≤ x ∧ x < 1099511627776) ∨ (k = 2 ∧ (0 ≤ a ∧ a < 336) ∧ x = 0) ∨ (k = 3 ∧ a = 0 ∧ x = 0) ∨ (k = 4 ∧ (0 ≤ a ∧ a < 32) ∧ 0 ≤ x ∧ x < 1099511627776) ∨ (k = 5 ∧ a = 0 ∧ x = 0) by omega) with ⟨rfl, ha, hx⟩ | ⟨rfl, ha, rfl⟩ | ⟨rfl, rfl, rfl⟩ | ⟨rfl, ha, hx⟩ | ⟨rfl, rfl, rfl⟩
  · clear hk
    have D := hideIt (md_store HP.out.1 HP.out.2 ha hx)
    rw [D.out.1, D.out.2.1, D.out.2.2.1, D.out.2.2.2.1, D.out.2.2.2.2]
    clear D
    go_enter Tryd.func27, Tryd.ntmps27
    go_wp2_with fail
    refine (implPmStore_any _ ws ps a x _ (R1.out.rd.below hb0) (by omega) (by omega)).mono ?_
    rintro e w1 ⟨v1, rfl, hr, hb⟩
    have hr' : RdPm w1 v1 _ _ := hr.rd
    obtain ⟨vW1, vP1, rfl, hI, hS⟩ := hr'
    obtain ⟨aW1, cW1, rfl⟩ := RdI.form hI (n := (storeWs ws ps a x).length) rfl
    obtain ⟨aP1, cP1, rfl⟩ := RdS.form hS (n := (storePs ws ps a x).length) rfl
    have hz1 : w.heap.size + 3 ≤ w1.heap.size := by have := hb.size; simp at this; omega
    have V0 := (hb.block w.heap.size (by simp <;> omega)).trans (at_old (at_old (at_new rfl)))
    have V2 := (hb.block (w.heap.size + 1 + 1) (by simp <;> omega)).trans (at_new (by simp))
    have VM := (hb.block (w.heap.size + 1) (by simp <;> omega)).trans (at_old (at_new (by simp)))
    have hr : RowPm w1 (w.heap.size + 1 + 1 + 1) w1.heap.size (.agg #[.slice aW1 (storeWs ws ps a x).length cW1, .slice aP1 (storePs ws ps a x).length cP1]) (storeWs ws ps a x) (storePs ws ps a x) := (by simpa using hr)
    have RN := hideIt hr
    have B1 := hideIt (below_trans hb0 hb (by simp <;> omega))
    have RO := hideIt (R2.out.below B1.out (by omega))
    obtain ⟨x0, x1, x2, x3, x4, x5, x6, x7⟩ := four_cells V0
    obtain ⟨y0, y1, y2, y3, y4, y5, y6, y7⟩ := four_cells V2
    obtain ⟨m0, m1, m2⟩ := three_cells VM
    clear hb0 hb hr hI hS V0 V2 VM
    go_wp2
    refine bodyPost_ret (v := .tuple #[.agg #[.slice aW1 (storeWs ws ps a x).length cW1, .slice aP1 (storePs ws ps a x).length cP1, .slice aS es.length cS, .slice aQ qs.length cQ], .int .i64 (storeC ws ps a x)]) (by simp [results, Tryd.results27, go_sem, y0, y1, y2, y3]) rfl ?_
    have O := putD_out w1 w.heap.size (w.heap.size + 1 + 1) 0 1 (by omega) (.slice aW1 (storeWs ws ps a x).length cW1) (.slice aP1 (storePs ws ps a x).length cP1) (.slice aW1 (storeWs ws ps a x).length cW1) (.slice aP1 (storePs ws ps a x).length cP1) (.slice aS es.length cS) (.slice aQ qs.length cQ)
    have Z := putD_size w1 w.heap.size (w.heap.size + 1 + 1) 0 1 (.slice aW1 (storeWs ws ps a x).length cW1) (.slice aP1 (storePs ws ps a x).length cP1) (.slice aW1 (storeWs ws ps a x).length cW1) (.slice aP1 (storePs ws ps a x).length cP1) (.slice aS es.length cS) (.slice aQ qs.length cQ)
    refine ⟨_, rfl, ?_, B1.out.trans (O.below (by omega) (by omega))⟩
    refine RowDevB.wide (lo := lo) (hi := w1.heap.size) ⟨_, _, _, _, w.heap.size + 1 + 1 + 1, w1.heap.size, l2, h2, rfl, (RN.out.outside O (by omega) (by omega)), (RO.out.outside O (by omega) (by omega)), ⟨by omega, by omega, by omega, by omega, by omega⟩, by omega, by omega⟩ (Nat.le_refl _) (Nat.le_of_eq Z.symm)
  · clear hk
    have D := hideIt (md_flush HP.out.1 HP.out.2 ha)
    rw [D.out.1, D.out.2.1, D.out.2.2.1, D.out.2.2.2.1, D.out.2.2.2.2]
    clear D
    go_enter Tryd.func27, Tryd.ntmps27
    go_wp2_with fail
    refine (implPmFlush_any _ ws ps a _ (R1.out.rd.below hb0) (by omega) (by omega)).mono ?_
    rintro e w1 ⟨v1, rfl, hr, hb⟩
    have hr' : RdPm w1 v1 _ _ := hr.rd
    obtain ⟨vW1, vP1, rfl, hI, hS⟩ := hr'
    obtain ⟨aW1, cW1, rfl⟩ := RdI.form hI (n := (flushWs ws ps a).length) rfl
    obtain ⟨aP1, cP1, rfl⟩ := RdS.form hS (n := (flushPs ws ps a).length) rfl
    have hz1 : w.heap.size + 3 ≤ w1.heap.size := by have := hb.size; simp at this; omega
    have V0 := (hb.block w.heap.size (by simp <;> omega)).trans (at_old (at_old (at_new rfl)))
    have V2 := (hb.block (w.heap.size + 1 + 1) (by simp <;> omega)).trans (at_new (by simp))
    have VM := (hb.block (w.heap.size + 1) (by simp <;> omega)).trans (at_old (at_new (by simp)))
    have hr : RowPm w1 (w.heap.size + 1 + 1 + 1) w1.heap.size (.agg #[.slice aW1 (flushWs ws ps a).length cW1, .slice aP1 (flushPs ws ps a).length cP1]) (flushWs ws ps a) (flushPs ws ps a) := (by simpa using hr)
    have RN := hideIt hr
    have B1 := hideIt (below_trans hb0 hb (by simp <;> omega))
    have RO := hideIt (R2.out.below B1.out (by omega))
    obtain ⟨x0, x1, x2, x3, x4, x5, x6, x7⟩ := four_cells V0
    obtain ⟨y0, y1, y2, y3, y4, y5, y6, y7⟩ := four_cells V2
    obtain ⟨m0, m1, m2⟩ := three_cells VM
    clear hb0 hb hr hI hS V0 V2 VM
    go_wp2
    refine bodyPost_ret (v := .tuple #[.agg #[.slice aW1 (flushWs ws ps a).length cW1, .slice aP1 (flushPs ws ps a).length cP1, .slice aS es.length cS, .slice aQ qs.length cQ], .int .i64 (askC ws ps a)]) (by simp [results, Tryd.results27, go_sem, y0, y1, y2, y3]) rfl ?_
    have O := putD_out w1 w.heap.size (w.heap.size + 1 + 1) 0 1 (by omega) (.slice aW1 (flushWs ws ps a).length cW1) (.slice aP1 (flushPs ws ps a).length cP1) (.slice aW1 (flushWs ws ps a).length cW1) (.slice aP1 (flushPs ws ps a).length cP1) (.slice aS es.length cS) (.slice aQ qs.length cQ)
    have Z := putD_size w1 w.heap.size (w.heap.size + 1 + 1) 0 1 (.slice aW1 (flushWs ws ps a).length cW1) (.slice aP1 (flushPs ws ps a).length cP1) (.slice aW1 (flushWs ws ps a).length cW1) (.slice aP1 (flushPs ws ps a).length cP1) (.slice aS es.length cS) (.slice aQ qs.length cQ)
    refine ⟨_, rfl, ?_, B1.out.trans (O.below (by omega) (by omega))⟩
    refine RowDevB.wide (lo := lo) (hi := w1.heap.size) ⟨_, _, _, _, w.heap.size + 1 + 1 + 1, w1.heap.size, l2, h2, rfl, (RN.out.outside O (by omega) (by omega)), (RO.out.outside O (by omega) (by omega)), ⟨by omega, by omega, by omega, by omega, by omega⟩, by omega, by omega⟩ (Nat.le_refl _) (Nat.le_of_eq Z.symm)
  · clear hk
    have D := hideIt (md_fence HP.out.1 HP.out.2)
    rw [D.out.1, D.out.2.1, D.out.2.2.1, D.out.2.2.2.1, D.out.2.2.2.2]
    clear D
    go_enter Tryd.func27, Tryd.ntmps27
    go_wp2_with fail
    refine (implPmFence_any _ ws ps _ (R1.out.rd.below hb0) (by omega) (by omega)).mono ?_
    rintro e w1 ⟨v1, rfl, hr, hb⟩
    have hr' : RdPm w1 v1 _ _ := hr.rd
    obtain ⟨vW1, vP1, rfl, hI, hS⟩ := hr'
    obtain ⟨aW1, cW1, rfl⟩ := RdI.form hI (n := (fenceWs ws ps).length) rfl
    obtain ⟨aP1, cP1, rfl⟩ := RdS.form hS (n := (fencePs ws ps).length) rfl
    have hz1 : w.heap.size + 3 ≤ w1.heap.size := by have := hb.size; simp at this; omega
    have V0 := (hb.block w.heap.size (by simp <;> omega)).trans (at_old (at_old (at_new rfl)))
    have V2 := (hb.block (w.heap.size + 1 + 1) (by simp <;> omega)).trans (at_new (by simp))
    have VM := (hb.block (w.heap.size + 1) (by simp <;> omega)).trans (at_old (at_new (by simp)))
    have hr : RowPm w1 (w.heap.size + 1 + 1 + 1) w1.heap.size (.agg #[.slice aW1 (fenceWs ws ps).length cW1, .slice aP1 (fencePs ws ps).length cP1]) (fenceWs ws ps) (fencePs ws ps) := (by simpa using hr)
    have RN := hideIt hr
    have B1 := hideIt (below_trans hb0 hb (by simp <;> omega))
    have RO := hideIt (R2.out.below B1.out (by omega))
    obtain ⟨x0, x1, x2, x3, x4, x5, x6, x7⟩ := four_cells V0
    obtain ⟨y0, y1, y2, y3, y4, y5, y6, y7⟩ := four_cells V2
    obtain ⟨m0, m1, m2⟩ := three_cells VM
    clear hb0 hb hr hI hS V0 V2 VM
    go_wp2
    refine bodyPost_ret (v := .tuple #[.agg #[.slice aW1 (fenceWs ws ps).length cW1, .slice aP1 (fencePs ws ps).length cP1, .slice aS es.length cS, .slice aQ qs.length cQ], .int .i64 (fenceC ws ps)]) (by simp [results, Tryd.results27, go_sem, y0, y1, y2, y3]) rfl ?_
    have O := putD_out w1 w.heap.size (w.heap.size + 1 + 1) 0 1 (by omega) (.slice aW1 (fenceWs ws ps).length cW1) (.slice aP1 (fencePs ws ps).length cP1) (.slice aW1 (fenceWs ws ps).length cW1) (.slice aP1 (fencePs ws ps).length cP1) (.slice aS es.length cS) (.slice aQ qs.length cQ)
    have Z := putD_size w1 w.heap.size (w.heap.size + 1 + 1) 0 1 (.slice aW1 (fenceWs ws ps).length cW1) (.slice aP1 (fencePs ws ps).length cP1) (.slice aW1 (fenceWs ws ps).length cW1) (.slice aP1 (fencePs ws ps).length cP1) (.slice aS es.length cS) (.slice aQ qs.length cQ)
    refine ⟨_, rfl, ?_, B1.out.trans (O.below (by omega) (by omega))⟩
    refine RowDevB.wide (lo := lo) (hi := w1.heap.size) ⟨_, _, _, _, w.heap.size + 1 + 1 + 1, w1.heap.size, l2, h2, rfl, (RN.out.outside O (by omega) (by omega)), (RO.out.outside O (by omega) (by omega)), ⟨by omega, by omega, by omega, by omega, by omega⟩, by omega, by omega⟩ (Nat.le_refl _) (Nat.le_of_eq Z.symm)
  · clear hk
    have D := hideIt (md_write HP.out.1 HP.out.2 ha hx)
    rw [D.out.1, D.out.2.1, D.out.2.2.1, D.out.2.2.2.1, D.out.2.2.2.2]
    clear D
    go_enter Tryd.func27, Tryd.ntmps27
    go_wp2_with fail
    refine (implBlkWrite_any _ es qs a x _ (R2.out.rd.below hb0) (by omega) (by omega)).mono ?_
    rintro e w1 ⟨v1, rfl, hr, hb⟩
    have hr' : RdBlk w1 v1 _ _ := hr.rd
    obtain ⟨vW1, vP1, rfl, hI, hS⟩ := hr'
    obtain ⟨aW1, cW1, rfl⟩ := RdI.form hI (n := (writeWs es qs a x).length) rfl
    obtain ⟨aP1, cP1, rfl⟩ := RdE.form hS (n := (writePs es qs a x).length) rfl
    have hz1 : w.heap.size + 3 ≤ w1.heap.size := by have := hb.size; simp at this; omega
    have V0 := (hb.block w.heap.size (by simp <;> omega)).trans (at_old (at_old (at_new rfl)))
    have V2 := (hb.block (w.heap.size + 1 + 1) (by simp <;> omega)).trans (at_new (by simp))
    have VM := (hb.block (w.heap.size + 1) (by simp <;> omega)).trans (at_old (at_new (by simp)))
    have hr : RowBlk w1 (w.heap.size + 1 + 1 + 1) w1.heap.size (.agg #[.slice aW1 (writeWs es qs a x).length cW1, .slice aP1 (writePs es qs a x).length cP1]) (writeWs es qs a x) (writePs es qs a x) := (by simpa using hr)
    have RN := hideIt hr
    have B1 := hideIt (below_trans hb0 hb (by simp <;> omega))
    have RO := hideIt (R1.out.below B1.out (by omega))
    obtain ⟨x0, x1, x2, x3, x4, x5, x6, x7⟩ := four_cells V0
    obtain ⟨y0, y1, y2, y3, y4, y5, y6, y7⟩ := four_cells V2
    obtain ⟨m0, m1, m2⟩ := three_cells VM
    clear hb0 hb hr hI hS V0 V2 VM
    go_wp2
    refine bodyPost_ret (v := .tuple #[.agg #[.slice aW ws.length cW, .slice aP ps.length cP, .slice aW1 (writeWs es qs a x).length cW1, .slice aP1 (writePs es qs a x).length cP1], .int .i64 (writeC es qs a x)]) (by simp [results, Tryd.results27, go_sem, y0, y1, y2, y3]) rfl ?_
    have O := putD_out w1 w.heap.size (w.heap.size + 1 + 1) 2 3 (by omega) (.slice aW1 (writeWs es qs a x).length cW1) (.slice aP1 (writePs es qs a x).length cP1) (.slice aW ws.length cW) (.slice aP ps.length cP) (.slice aW1 (writeWs es qs a x).length cW1) (.slice aP1 (writePs es qs a x).length cP1)
    have Z := putD_size w1 w.heap.size (w.heap.size + 1 + 1) 2 3 (.slice aW1 (writeWs es qs a x).length cW1) (.slice aP1 (writePs es qs a x).length cP1) (.slice aW ws.length cW) (.slice aP ps.length cP) (.slice aW1 (writeWs es qs a x).length cW1) (.slice aP1 (writePs es qs a x).length cP1)
    refine ⟨_, rfl, ?_, B1.out.trans (O.below (by omega) (by omega))⟩
    refine RowDevB.wide (lo := lo) (hi := w1.heap.size) ⟨_, _, _, _, l1, h1, w.heap.size + 1 + 1 + 1, w1.heap.size, rfl, (RO.out.outside O (by omega) (by omega)), (RN.out.outside O (by omega) (by omega)), ⟨by omega, by omega, by omega, by omega, by omega⟩, by omega, by omega⟩ (Nat.le_refl _) (Nat.le_of_eq Z.symm)
  · clear hk
    have D := hideIt (md_bar HP.out.1 HP.out.2)
    rw [D.out.1, D.out.2.1, D.out.2.2.1, D.out.2.2.2.1, D.out.2.2.2.2]
    clear D
    go_enter Tryd.func27, Tryd.ntmps27
    go_wp2_with fail
    refine (implBlkBarrier_l _ es qs _ (R2.out.rd.below hb0) (by omega) (by omega)).mono ?_
    rintro e w1 ⟨v1, rfl, hr, hb⟩
    have hr' : RdBlk w1 v1 _ _ := hr.rd
    obtain ⟨vW1, vP1, rfl, hI, hS⟩ := hr'
    obtain ⟨aW1, cW1, rfl⟩ := RdI.form hI (n := (barWs es qs).length) rfl
    obtain ⟨aP1, cP1, rfl⟩ := RdE.form hS (n := (barL es qs).length) rfl
    have hz1 : w.heap.size + 3 ≤ w1.heap.size := by have := hb.size; simp at this; omega
    have V0 := (hb.block w.heap.size (by simp <;> omega)).trans (at_old (at_old (at_new rfl)))
    have V2 := (hb.block (w.heap.size + 1 + 1) (by simp <;> omega)).trans (at_new (by simp))
    have VM := (hb.block (w.heap.size + 1) (by simp <;> omega)).trans (at_old (at_new (by simp)))
    have hr : RowBlk w1 (w.heap.size + 1 + 1 + 1) w1.heap.size (.agg #[.slice aW1 (barWs es qs).length cW1, .slice aP1 (barL es qs).length cP1]) (barWs es qs) (barL es qs) := (by simpa using hr)
    have RN := hideIt hr
    have B1 := hideIt (below_trans hb0 hb (by simp <;> omega))
    have RO := hideIt (R1.out.below B1.out (by omega))
    obtain ⟨x0, x1, x2, x3, x4, x5, x6, x7⟩ := four_cells V0
    obtain ⟨y0, y1, y2, y3, y4, y5, y6, y7⟩ := four_cells V2
    obtain ⟨m0, m1, m2⟩ := three_cells VM
    clear hb0 hb hr hI hS V0 V2 VM
    go_wp2
    refine bodyPost_ret (v := .tuple #[.agg #[.slice aW ws.length cW, .slice aP ps.length cP, .slice aW1 (barWs es qs).length cW1, .slice aP1 (barL es qs).length cP1], .int .i64 (barC es qs)]) (by simp [results, Tryd.results27, go_sem, y0, y1, y2, y3]) rfl ?_
    have O := putD_out w1 w.heap.size (w.heap.size + 1 + 1) 2 3 (by omega) (.slice aW1 (barWs es qs).length cW1) (.slice aP1 (barL es qs).length cP1) (.slice aW ws.length cW) (.slice aP ps.length cP) (.slice aW1 (barWs es qs).length cW1) (.slice aP1 (barL es qs).length cP1)
    have Z := putD_size w1 w.heap.size (w.heap.size + 1 + 1) 2 3 (.slice aW1 (barWs es qs).length cW1) (.slice aP1 (barL es qs).length cP1) (.slice aW ws.length cW) (.slice aP ps.length cP) (.slice aW1 (barWs es qs).length cW1) (.slice aP1 (barL es qs).length cP1)
    refine ⟨_, rfl, ?_, B1.out.trans (O.below (by omega) (by omega))⟩
    refine RowDevB.wide (lo := lo) (hi := w1.heap.size) ⟨_, _, _, _, l1, h1, w.heap.size + 1 + 1 + 1, w1.heap.size, rfl, (RO.out.outside O (by omega) (by omega)), (RN.out.outside O (by omega) (by omega)), ⟨by omega, by omega, by omega, by omega, by omega⟩, by omega, by omega⟩ (Nat.le_refl _) (Nat.le_of_eq Z.symm)
end Go.Proofs.YtbjalmiheipjjaaDoor
