/- The law of MicroDo: the walk. -/
import Derived.Test.YtenadnlgjobmdakDoorMicS
import Derived.Test.YtenadnlgjobmdakDoorDevC
import Derived.Test.YtenadnlgjobmdakDoorJiC
import Derived.Deep.DeepCutAuto
import Derived.Deep.RegionWith
import Derived.Deep.RegionHeld3
namespace Go.Proofs.YtenadnlgjobmdakDoor
open Go.RowKit

theorem md_len (m : Mi) {ws : List Int} {ps : List St} {es : List Int} {qs : List Se} (h1 : ws.length ≤ 1048576) (h2 : ps.length ≤ 1048576) (h3 : es.length ≤ 1048576) (h4 : qs.length ≤ 1048576) : (mdW m ws ps es qs).length ≤ 1048577 ∧ (mdP m ws ps es qs).length ≤ 1048577 ∧ (mdE m ws ps es qs).length ≤ 1048577 ∧ (mdQ m ws ps es qs).length ≤ 1048577 := by
  rcases md_cases m ws ps es qs with ⟨_, _, e2, e3, e4, e5⟩ | ⟨_, _, _, e2, e3, e4, e5⟩ | ⟨_, _, _, _, e2, e3, e4, e5⟩ | ⟨c1, _, _, _, e2, e3, e4, e5⟩
  · rw [e2, e3, e4, e5]; simp
  · rw [e2, e3, e4, e5]; simp
  · rw [e2, e3, e4, e5]; omega
  · rw [e2, e3, e4, e5]
    simp at c1
    have := do_len m c1.1 c1.2
    omega

set_option maxRecDepth 100000 in
set_option maxHeartbeats 8000000 in
theorem microDo_law (v : Value) (k a x : Int) (ws : List Int) (ps : List St) (es : List Int) (qs : List Se) (w : World) (h : RdDev w v ws ps es qs) (hw : ws.length ≤ maxLen) (hp : ps.length ≤ maxLen) (he : es.length ≤ maxLen) (hq : qs.length ≤ maxLen) (hS : SB w) :
    Calls Tryd.prog 3 #[v, .agg #[.int .i64 k, .int .i64 a, .int .i64 x]] w fun e w' => e = .returned (.bool true) ∧ Below w.heap.size w w' := by
  have HR := hideIt h
  obtain ⟨aW, cW, aP, cP, aS, cS, aQ, cQ, rfl, -, -⟩ := h.form
  clear h
  have hb0 : Below w.heap.size w ((w.alloc (.cells #[.slice aW ws.length cW, .slice aP ps.length cP, .slice aS es.length cS, .slice aQ qs.length cQ] 30)).alloc (.cells #[.int .i64 k, .int .i64 a, .int .i64 x] 32)) := by
    repeat (refine Below.alloc ?_ (by simp <;> omega) _)
    exact Below.refl _ _
  by_cases c : 1048576 < ws.length + ps.length + es.length + qs.length
  · clear hS
    go_enter Tryd.func3, Tryd.ntmps3
    go_wp2_with fail
    refine (szDevices_any aW aP aS aQ ws.length ps.length es.length qs.length cW cP cS cQ _ hw hp he hq).mono ?_
    rw [if_pos c]
    rintro e w1 ⟨rfl, hb1⟩
    have B1 := hideIt (below_trans hb0 hb1 (by simp <;> omega))
    clear hb0 hb1
    go_wp2
    go_ret
    exact ⟨rfl, B1.out⟩
  have E := hideIt (show (if 1048576 < ws.length + ps.length + es.length + qs.length then -1 else 1048576 - ws.length - ps.length - es.length - qs.length : Int) = 1048576 - ws.length - ps.length - es.length - qs.length from if_neg c)
  have hws : ws.length ≤ 1048576 := by omega
  have hps : ps.length ≤ 1048576 := by omega
  have hes : es.length ≤ 1048576 := by omega
  have hqs : qs.length ≤ 1048576 := by omega
  have HS := hideIt hS
  have IC := hideIt (fun v w hS h => implMicroDo_any v k a x ws ps es qs w hS h hws hps hes hqs)
  have SC := hideIt (fun v w h => specMicroDo_any v ⟨k, a, x⟩ ws ps es qs w h hws hps hes hqs)
  have TM := hideIt (toMicro_any ⟨k, a, x⟩)
  rw [show Mi.v ⟨k, a, x⟩ = .agg #[.int .i64 k, .int .i64 a, .int .i64 x] from rfl] at TM
  simp only [show Mi.v ⟨k, a, x⟩ = .agg #[.int .i64 k, .int .i64 a, .int .i64 x] from rfl] at SC
  have DL := hideIt (md_len ⟨k, a, x⟩ hws hps hes hqs)
  generalize mdC ⟨k, a, x⟩ ws ps es qs = cd at *
  generalize mdW ⟨k, a, x⟩ ws ps es qs = W at *
  generalize mdP ⟨k, a, x⟩ ws ps es qs = P at *
  generalize mdE ⟨k, a, x⟩ ws ps es qs = E4 at *
  generalize mdQ ⟨k, a, x⟩ ws ps es qs = Q at *
  have d1 := DL.out.1
  have d2 := DL.out.2.1
  have d3 := DL.out.2.2.1
  have d4 := DL.out.2.2.2
  clear hS DL
  go_enter Tryd.func3, Tryd.ntmps3
  go_wp2_with fail
  refine (szDevices_any aW aP aS aQ ws.length ps.length es.length qs.length cW cP cS cQ _ hw hp he hq).mono ?_
  rw [E.out]
  rintro e w1 ⟨rfl, hb1⟩
  have hz1 : w.heap.size + 2 ≤ w1.heap.size := by have := hb1.size; simp at this; omega
  have Va_1 := hideIt ((hb1.block w.heap.size (by simp <;> omega)).trans (at_old (at_new rfl)))
  have Vm_1 := hideIt ((hb1.block (w.heap.size + 1) (by simp <;> omega)).trans (at_new (by simp)))
  have B_1 := hideIt (below_trans hb0 hb1 (by simp <;> omega))
  clear hb0 hb1 E
  go_upto_region 5 with fail
  obtain ⟨la0, la1, la2, la3, -, -, -, -⟩ := four_cells Va_1.out
  obtain ⟨lm0, lm1, lm2⟩ := three_cells Vm_1.out
  go_cut [6, 7] (fun s t wx => ∃ (b0 b1 b2 b3 : Option Addr) (c0 c1 c2 c3 bx lo hi : Nat), t = .int .i64 cd ∧ s = .pointer (some ⟨bx, 0, none⟩) ∧ Hid (CutD w1 wx (.slice b0 W.length c0) (.slice b1 P.length c1) (.slice b2 E4.length c2) (.slice b3 Q.length c3) W P E4 Q bx lo hi))
  case first =>
    as_aux_lemma =>
      obtain ⟨q0, q1, q2, q3, -, -, -, -⟩ := four_cells (at_old (o := .cells #[.slice none 0 0, .slice none 0 0, .slice none 0 0, .slice none 0 0] 41) Va_1.out)
      obtain ⟨n0, n1, n2⟩ := three_cells (at_old (o := .cells #[.slice none 0 0, .slice none 0 0, .slice none 0 0, .slice none 0 0] 41) Vm_1.out)
      go_region_held3 (fun w' => w'.cell? ⟨w.heap.size, 0, none⟩ = some (.slice aW ws.length cW) ∧ w'.cell? ⟨w.heap.size, 1, none⟩ = some (.slice aP ps.length cP) ∧ w'.cell? ⟨w.heap.size, 2, none⟩ = some (.slice aS es.length cS) ∧ w'.cell? ⟨w.heap.size, 3, none⟩ = some (.slice aQ qs.length cQ) ∧ w'.cell? ⟨w.heap.size + 1, 0, none⟩ = some (.int .i64 k) ∧ w'.cell? ⟨w.heap.size + 1, 1, none⟩ = some (.int .i64 a) ∧ w'.cell? ⟨w.heap.size + 1, 2, none⟩ = some (.int .i64 x)) (exact seven Va_1.out Vm_1.out (by repeat (first | exact BF.out | exact BB.out | exact BA.out | exact Below.refl _ _ | refine below_allocD ?_ _ | refine Below.drew ?_ | refine Below.setCell ?_ (by first | exact Nat.le_refl _ | exact BA.out.size | exact BB.out.size | exact BF.out.size) _)))
        (first
          | (go_at_call 7; refine (toDevices_any _ ws ps es qs _ (HR.out.below (below_trans B_1.out (by repeat (first | exact Below.refl _ _ | refine below_allocD ?_ _ | refine Below.drew ?_)) (by omega))) hws hps hes hqs).mono ?_; rintro e wa ⟨va, rfl, hra, hba⟩; obtain ⟨aWa, cWa, aPa, cPa, aSa, cSa, aQa, cQa, rfl, -, -⟩ := hra.rd.form; have RA := hideIt hra.rd; have BA : Hid (Below w1.heap.size w1 wa) := below_trans (b := _) (by repeat (first | exact Below.refl _ _ | refine below_allocD ?_ _ | refine Below.drew ?_)) hba (Below.size (B := w1.heap.size) (by repeat (first | exact Below.refl _ _ | refine below_allocD ?_ _ | refine Below.drew ?_))); have hza : w1.heap.size ≤ wa.heap.size := BA.out.size; (first | (have VX : Hid (wa.heap[w1.heap.size]? = some (.cells #[.slice none 0 0, .slice none 0 0, .slice none 0 0, .slice none 0 0] 41 (0, 0))) := (hba.block w1.heap.size (by first | (rw [World.size_alloc]; exact Nat.lt_succ_self _) | (show _ < (World.alloc _ _).heap.size; rw [World.size_alloc]; exact Nat.lt_succ_self _))).trans (at_new rfl)) | skip); obtain ⟨p0, p1, p2⟩ := three_cells ((BA.out.block (w.heap.size + 1) (by omega)).trans Vm_1.out); obtain ⟨r0, r1, r2⟩ := three_cells (at_old (o := .cells #[.slice none 0 0, .slice none 0 0, .slice none 0 0, .slice none 0 0] 41) ((BA.out.block (w.heap.size + 1) (by omega)).trans Vm_1.out)); clear hra hba)
          | (go_at_call 8; refine (TM.out _).mono ?_; rintro e wb ⟨rfl, hbb⟩; have BB : Hid (Below w1.heap.size w1 wb) := below_trans (b := _) (by repeat (first | exact BA.out | exact Below.refl _ _ | refine below_allocD ?_ _ | refine Below.drew ?_)) hbb (Below.size (B := w1.heap.size) (by repeat (first | exact BA.out | exact Below.refl _ _ | refine below_allocD ?_ _ | refine Below.drew ?_))); have hzb : wa.heap.size ≤ wb.heap.size := (below_trans (b := _) (a := wa) (by repeat (first | exact Below.refl _ _ | refine below_allocD ?_ _ | refine Below.drew ?_)) hbb (Below.size (B := wa.heap.size) (by repeat (first | exact Below.refl _ _ | refine below_allocD ?_ _ | refine Below.drew ?_)))).size; have RB : Hid (RdDev wb _ ws ps es qs) := RA.out.below (below_trans (b := _) (a := wa) (by repeat (first | exact Below.refl _ _ | refine below_allocD ?_ _ | refine Below.drew ?_)) hbb (Below.size (B := wa.heap.size) (by repeat (first | exact Below.refl _ _ | refine below_allocD ?_ _ | refine Below.drew ?_)))); (first | (have VX2 : Hid (wb.heap[w1.heap.size]? = some (.cells #[.slice none 0 0, .slice none 0 0, .slice none 0 0, .slice none 0 0] 41 (0, 0))) := (hbb.block w1.heap.size (Array.getElem?_eq_some_iff.1 VX.out).1).trans VX.out) | (have VX2 : Hid (wb.heap[wa.heap.size]? = some (.cells #[.slice none 0 0, .slice none 0 0, .slice none 0 0, .slice none 0 0] 41 (0, 0))) := (hbb.block wa.heap.size (by first | (rw [World.size_alloc]; exact Nat.lt_succ_self _) | (show _ < (World.alloc _ _).heap.size; rw [World.size_alloc]; exact Nat.lt_succ_self _))).trans (at_new rfl)) | skip); clear hbb)
          | (go_at_call 6; refine (SC.out _ _ (RB.out.below (by repeat (first | exact Below.refl _ _ | refine below_allocD ?_ _ | refine Below.drew ?_)))).mono ?_; rintro e wf ⟨vf, rfl, hrf, hbf⟩; obtain ⟨b0, c0, b1, c1, b2, c2, b3, c3, rfl, -, -⟩ := hrf.rd.form; have RF := hideIt hrf; have BF : Hid (Below w1.heap.size w1 wf) := below_trans (b := _) (by repeat (first | exact BB.out | exact BA.out | exact Below.refl _ _ | refine below_allocD ?_ _ | refine Below.drew ?_)) hbf (Below.size (B := w1.heap.size) (by repeat (first | exact BB.out | exact BA.out | exact Below.refl _ _ | refine below_allocD ?_ _ | refine Below.drew ?_))); have hzf := hbf.size; (first | (have VY : Hid (wf.heap[w1.heap.size]? = some (.cells #[.slice none 0 0, .slice none 0 0, .slice none 0 0, .slice none 0 0] 41 (0, 0))) := (hbf.block w1.heap.size (Array.getElem?_eq_some_iff.1 VX2.out).1).trans VX2.out; have LT := (Array.getElem?_eq_some_iff.1 VX2.out).1; have GE := Nat.le_refl w1.heap.size; obtain ⟨t0, t1, t2, t3, t4, t5, t6, t7⟩ := four_cells VY.out) | (have VY : Hid (wf.heap[wa.heap.size]? = some (.cells #[.slice none 0 0, .slice none 0 0, .slice none 0 0, .slice none 0 0] 41 (0, 0))) := (hbf.block wa.heap.size (Array.getElem?_eq_some_iff.1 VX2.out).1).trans VX2.out; have LT := (Array.getElem?_eq_some_iff.1 VX2.out).1; have GE := BA.out.size; obtain ⟨t0, t1, t2, t3, t4, t5, t6, t7⟩ := four_cells VY.out) | (have LT : wb.heap.size < (wb.alloc (.cells #[.slice none 0 0, .slice none 0 0, .slice none 0 0, .slice none 0 0] 41)).heap.size := (by first | (rw [World.size_alloc]; exact Nat.lt_succ_self _) | (show _ < (World.alloc _ _).heap.size; rw [World.size_alloc]; exact Nat.lt_succ_self _)); have VY : Hid (wf.heap[wb.heap.size]? = some (.cells #[.slice none 0 0, .slice none 0 0, .slice none 0 0, .slice none 0 0] 41 (0, 0))) := (hbf.block wb.heap.size LT).trans (at_new rfl); have GE := BB.out.size; obtain ⟨t0, t1, t2, t3, t4, t5, t6, t7⟩ := four_cells VY.out) | skip); clear hbf hrf))
      all_goals
        go_wp2_with fail
        go_meet
        first
          | exact ⟨b0, b1, b2, b3, c0, c1, c2, c3, _, _, _, rfl, rfl, CutD.old LT RF.out (Below.size (B := w1.heap.size) (by repeat (first | exact BB.out | exact BA.out | exact Below.refl _ _ | refine below_allocD ?_ _ | refine Below.drew ?_))) (Nat.le_refl _) BF.out GE VY.out⟩
          | exact ⟨b0, b1, b2, b3, c0, c1, c2, c3, _, _, _, rfl, rfl, (CutD.old LT RF.out (Below.size (B := w1.heap.size) (by repeat (first | exact BB.out | exact BA.out | exact Below.refl _ _ | refine below_allocD ?_ _ | refine Below.drew ?_))) (Nat.le_refl _) BF.out GE VY.out).drew⟩
          | exact ⟨b0, b1, b2, b3, c0, c1, c2, c3, _, _, _, rfl, rfl, CutD.new RF.out (Below.size (B := w1.heap.size) (by repeat (first | exact BB.out | exact BA.out | exact Below.refl _ _ | refine below_allocD ?_ _ | refine Below.drew ?_))) (Nat.le_refl _) BF.out⟩
          | exact ⟨b0, b1, b2, b3, c0, c1, c2, c3, _, _, _, rfl, rfl, (CutD.new RF.out (Below.size (B := w1.heap.size) (by repeat (first | exact BB.out | exact BA.out | exact Below.refl _ _ | refine below_allocD ?_ _ | refine Below.drew ?_))) (Nat.le_refl _) BF.out).drew⟩
  case rest =>
  as_aux_lemma =>
  rename World => w2
  clear la0 la1 la2 la3 lm0 lm1 lm2
  obtain ⟨is0, is1, is2, is3, js0, js1, js2, js3, bs, los, his, rfl, rfl, C⟩ := hcut
  have hb2 := C.out.below
  have lo0s := C.out.lo0
  have hi1s := C.out.hi1
  have bx0s := C.out.bx0
  have bx1s := C.out.bx1
  have aparts := C.out.apart
  have Vs_2 := hideIt C.out.box
  have Rs_2 := hideIt C.out.row
  clear C
  have hz2 : w1.heap.size ≤ w2.heap.size := hb2.size
  have B_2 := hideIt (below_trans B_1.out hb2 (by omega))
  have Va_2 := hideIt ((hb2.block _ (by omega)).trans Va_1.out)
  have Vm_2 := hideIt ((hb2.block _ (by omega)).trans Vm_1.out)
  clear B_1 Va_1 Vm_1
  clear hb2
  obtain ⟨la0, la1, la2, la3, -, -, -, -⟩ := four_cells Va_2.out
  go_wp2_with fail
  refine (toDevices_any _ ws ps es qs _ (HR.out.below B_2.out) hws hps hes hqs).mono ?_
  rintro e w3 ⟨v3, rfl, hr3, hb3⟩
  obtain ⟨aWx, cWx, aPx, cPx, aSx, cSx, aQx, cQx, rfl, -, -⟩ := hr3.rd.form
  clear la0 la1 la2 la3
  have hz3 : w2.heap.size ≤ w3.heap.size := hb3.size
  have B_3 := hideIt (below_trans B_2.out hb3 (by omega))
  have Va_3 := hideIt ((hb3.block _ (by omega)).trans Va_2.out)
  have Vm_3 := hideIt ((hb3.block _ (by omega)).trans Vm_2.out)
  have Vs_3 := hideIt ((hb3.block _ (by omega)).trans Vs_2.out)
  have Rs_3 := hideIt (Rs_2.out.below hb3 (by omega))
  clear B_2 Va_2 Vm_2 Vs_2 Rs_2
  have Rx_3 : Hid (RowDev w3 w2.heap.size w3.heap.size _ ws ps es qs) := hr3
  clear hr3 hb3
  go_upto_region 7 with fail
  obtain ⟨w4, hw4⟩ : ∃ w4 : World, w4 = w3.alloc (.cells #[.slice aWx ws.length cWx, .slice aPx ps.length cPx, .slice aSx es.length cSx, .slice aQx qs.length cQx] 41) := ⟨_, rfl⟩
  rw [← hw4]
  have hb4 : Below w3.heap.size w3 w4 := by rw [hw4]; exact (Below.refl _ _).alloc (Nat.le_refl _) _
  have hz4' : w3.heap.size + 1 ≤ w4.heap.size := by rw [hw4]; simp
  have Vx_4 : Hid (w4.heap[w3.heap.size]? = some (.cells #[.slice aWx ws.length cWx, .slice aPx ps.length cPx, .slice aSx es.length cSx, .slice aQx qs.length cQx] 41 (0, 0))) := by rw [hw4]; exact at_new rfl
  clear hw4
  have hz4 : w3.heap.size ≤ w4.heap.size := hb4.size
  have B_4 := hideIt (below_trans B_3.out hb4 (by omega))
  have Va_4 := hideIt ((hb4.block _ (by omega)).trans Va_3.out)
  have Vm_4 := hideIt ((hb4.block _ (by omega)).trans Vm_3.out)
  have Vs_4 := hideIt ((hb4.block _ (by omega)).trans Vs_3.out)
  have Rs_4 := hideIt (Rs_3.out.below hb4 (by omega))
  have Rx_4 := hideIt (Rx_3.out.below hb4 (by omega))
  clear B_3 Va_3 Vm_3 Vs_3 Rs_3 Rx_3
  clear hb4
  obtain ⟨lx0, lx1, lx2, lx3, -, -, -, -⟩ := four_cells Vx_4.out
  obtain ⟨lm0, lm1, lm2⟩ := three_cells Vm_4.out
  go_cut [9, 10] (fun s t wx => ∃ (b0 b1 b2 b3 : Option Addr) (c0 c1 c2 c3 bx lo hi : Nat), t = .int .i64 cd ∧ s = .pointer (some ⟨bx, 0, none⟩) ∧ Hid (CutD w4 wx (.slice b0 W.length c0) (.slice b1 P.length c1) (.slice b2 E4.length c2) (.slice b3 Q.length c3) W P E4 Q bx lo hi))
  case first =>
    as_aux_lemma =>
      obtain ⟨q0, q1, q2, q3, -, -, -, -⟩ := four_cells (at_old (o := .cells #[.slice none 0 0, .slice none 0 0, .slice none 0 0, .slice none 0 0] 41) Vx_4.out)
      obtain ⟨n0, n1, n2⟩ := three_cells (at_old (o := .cells #[.slice none 0 0, .slice none 0 0, .slice none 0 0, .slice none 0 0] 41) Vm_4.out)
      go_region_held3 (fun w' => w'.cell? ⟨w3.heap.size, 0, none⟩ = some (.slice aWx ws.length cWx) ∧ w'.cell? ⟨w3.heap.size, 1, none⟩ = some (.slice aPx ps.length cPx) ∧ w'.cell? ⟨w3.heap.size, 2, none⟩ = some (.slice aSx es.length cSx) ∧ w'.cell? ⟨w3.heap.size, 3, none⟩ = some (.slice aQx qs.length cQx) ∧ w'.cell? ⟨w.heap.size + 1, 0, none⟩ = some (.int .i64 k) ∧ w'.cell? ⟨w.heap.size + 1, 1, none⟩ = some (.int .i64 a) ∧ w'.cell? ⟨w.heap.size + 1, 2, none⟩ = some (.int .i64 x)) (exact seven Vx_4.out Vm_4.out (by repeat (first | exact BF.out | exact BB.out | exact BA.out | exact Below.refl _ _ | refine below_allocD ?_ _ | refine Below.drew ?_ | refine Below.setCell ?_ (by first | exact Nat.le_refl _ | exact BA.out.size | exact BB.out.size | exact BF.out.size) _)))
        (first
          | (go_at_call 8; refine (TM.out _).mono ?_; rintro e wb ⟨rfl, hbb⟩; have BB : Hid (Below w4.heap.size w4 wb) := below_trans (b := _) (by repeat (first | exact Below.refl _ _ | refine below_allocD ?_ _ | refine Below.drew ?_)) hbb (Below.size (B := w4.heap.size) (by repeat (first | exact Below.refl _ _ | refine below_allocD ?_ _ | refine Below.drew ?_))); have hzb : w4.heap.size ≤ wb.heap.size := (below_trans (b := _) (a := w4) (by repeat (first | exact Below.refl _ _ | refine below_allocD ?_ _ | refine Below.drew ?_)) hbb (Below.size (B := w4.heap.size) (by repeat (first | exact Below.refl _ _ | refine below_allocD ?_ _ | refine Below.drew ?_)))).size; have RB : Hid (RdDev wb _ ws ps es qs) := Rx_4.out.rd.below BB.out; (first | (have VX2 : Hid (wb.heap[w4.heap.size]? = some (.cells #[.slice none 0 0, .slice none 0 0, .slice none 0 0, .slice none 0 0] 41 (0, 0))) := (hbb.block w4.heap.size (Array.getElem?_eq_some_iff.1 VX.out).1).trans VX.out) | (have VX2 : Hid (wb.heap[w4.heap.size]? = some (.cells #[.slice none 0 0, .slice none 0 0, .slice none 0 0, .slice none 0 0] 41 (0, 0))) := (hbb.block w4.heap.size (by first | (rw [World.size_alloc]; exact Nat.lt_succ_self _) | (show _ < (World.alloc _ _).heap.size; rw [World.size_alloc]; exact Nat.lt_succ_self _))).trans (at_new rfl)) | skip); obtain ⟨p0, p1, p2, p3, -, -, -, -⟩ := four_cells ((BB.out.block w3.heap.size (by omega)).trans Vx_4.out); obtain ⟨r0, r1, r2, r3, -, -, -, -⟩ := four_cells (at_old (o := .cells #[.slice none 0 0, .slice none 0 0, .slice none 0 0, .slice none 0 0] 41) ((BB.out.block w3.heap.size (by omega)).trans Vx_4.out)); clear hbb)
          | (go_at_call 9; refine (IC.out _ _ (HS.out.below (below_trans B_4.out (by repeat (first | exact BB.out | exact BA.out | exact Below.refl _ _ | refine below_allocD ?_ _ | refine Below.drew ?_)) (by omega))) (RB.out.below (by repeat (first | exact Below.refl _ _ | refine below_allocD ?_ _ | refine Below.drew ?_)))).mono ?_; rintro e wf ⟨vf, rfl, hrf, hbf⟩; obtain ⟨b0, c0, b1, c1, b2, c2, b3, c3, rfl, -, -⟩ := hrf.rd.form; have RF := hideIt hrf; have BF : Hid (Below w4.heap.size w4 wf) := below_trans (b := _) (by repeat (first | exact BB.out | exact BA.out | exact Below.refl _ _ | refine below_allocD ?_ _ | refine Below.drew ?_)) hbf (Below.size (B := w4.heap.size) (by repeat (first | exact BB.out | exact BA.out | exact Below.refl _ _ | refine below_allocD ?_ _ | refine Below.drew ?_))); have hzf := hbf.size; (first | (have VY : Hid (wf.heap[w4.heap.size]? = some (.cells #[.slice none 0 0, .slice none 0 0, .slice none 0 0, .slice none 0 0] 41 (0, 0))) := (hbf.block w4.heap.size (Array.getElem?_eq_some_iff.1 VX2.out).1).trans VX2.out; have LT := (Array.getElem?_eq_some_iff.1 VX2.out).1; have GE := Nat.le_refl w4.heap.size; obtain ⟨t0, t1, t2, t3, t4, t5, t6, t7⟩ := four_cells VY.out) | (have VY : Hid (wf.heap[w4.heap.size]? = some (.cells #[.slice none 0 0, .slice none 0 0, .slice none 0 0, .slice none 0 0] 41 (0, 0))) := (hbf.block w4.heap.size (Array.getElem?_eq_some_iff.1 VX2.out).1).trans VX2.out; have LT := (Array.getElem?_eq_some_iff.1 VX2.out).1; have GE := Nat.le_refl w4.heap.size; obtain ⟨t0, t1, t2, t3, t4, t5, t6, t7⟩ := four_cells VY.out) | (have LT : wb.heap.size < (wb.alloc (.cells #[.slice none 0 0, .slice none 0 0, .slice none 0 0, .slice none 0 0] 41)).heap.size := (by first | (rw [World.size_alloc]; exact Nat.lt_succ_self _) | (show _ < (World.alloc _ _).heap.size; rw [World.size_alloc]; exact Nat.lt_succ_self _)); have VY : Hid (wf.heap[wb.heap.size]? = some (.cells #[.slice none 0 0, .slice none 0 0, .slice none 0 0, .slice none 0 0] 41 (0, 0))) := (hbf.block wb.heap.size LT).trans (at_new rfl); have GE := BB.out.size; obtain ⟨t0, t1, t2, t3, t4, t5, t6, t7⟩ := four_cells VY.out) | skip); clear hbf hrf))
      all_goals
        go_wp2_with fail
        go_meet
        first
          | exact ⟨b0, b1, b2, b3, c0, c1, c2, c3, _, _, _, rfl, rfl, CutD.old LT RF.out (Below.size (B := w4.heap.size) (by repeat (first | exact BB.out | exact BA.out | exact Below.refl _ _ | refine below_allocD ?_ _ | refine Below.drew ?_))) (Nat.le_refl _) BF.out GE VY.out⟩
          | exact ⟨b0, b1, b2, b3, c0, c1, c2, c3, _, _, _, rfl, rfl, (CutD.old LT RF.out (Below.size (B := w4.heap.size) (by repeat (first | exact BB.out | exact BA.out | exact Below.refl _ _ | refine below_allocD ?_ _ | refine Below.drew ?_))) (Nat.le_refl _) BF.out GE VY.out).drew⟩
          | exact ⟨b0, b1, b2, b3, c0, c1, c2, c3, _, _, _, rfl, rfl, CutD.new RF.out (Below.size (B := w4.heap.size) (by repeat (first | exact BB.out | exact BA.out | exact Below.refl _ _ | refine below_allocD ?_ _ | refine Below.drew ?_))) (Nat.le_refl _) BF.out⟩
          | exact ⟨b0, b1, b2, b3, c0, c1, c2, c3, _, _, _, rfl, rfl, (CutD.new RF.out (Below.size (B := w4.heap.size) (by repeat (first | exact BB.out | exact BA.out | exact Below.refl _ _ | refine below_allocD ?_ _ | refine Below.drew ?_))) (Nat.le_refl _) BF.out).drew⟩
  case rest =>
  as_aux_lemma =>
  rename World => w5
  clear lx0 lx1 lx2 lx3 lm0 lm1 lm2
  obtain ⟨ig0, ig1, ig2, ig3, jg0, jg1, jg2, jg3, bg, log, hig, rfl, rfl, C⟩ := hcut
  have hb5 := C.out.below
  have lo0g := C.out.lo0
  have hi1g := C.out.hi1
  have bx0g := C.out.bx0
  have bx1g := C.out.bx1
  have apartg := C.out.apart
  have Vg_5 := hideIt C.out.box
  have Rg_5 := hideIt C.out.row
  clear C
  have hz5 : w4.heap.size ≤ w5.heap.size := hb5.size
  have B_5 := hideIt (below_trans B_4.out hb5 (by omega))
  have Va_5 := hideIt ((hb5.block _ (by omega)).trans Va_4.out)
  have Vm_5 := hideIt ((hb5.block _ (by omega)).trans Vm_4.out)
  have Vs_5 := hideIt ((hb5.block _ (by omega)).trans Vs_4.out)
  have Vx_5 := hideIt ((hb5.block _ (by omega)).trans Vx_4.out)
  have Rs_5 := hideIt (Rs_4.out.below hb5 (by omega))
  have Rx_5 := hideIt (Rx_4.out.below hb5 (by omega))
  clear B_4 Va_4 Vm_4 Vs_4 Vx_4 Rs_4 Rx_4
  clear hb5
  obtain ⟨lg0, lg1, lg2, lg3, -, -, -, -⟩ := four_cells Vg_5.out
  obtain ⟨ls0, ls1, ls2, ls3, -, -, -, -⟩ := four_cells Vs_5.out
  go_wp2_with fail
  refine (eqDevices_same _ _ W P E4 Q _ Rg_5.out.rd Rs_5.out.rd (by omega) (by omega) (by omega) (by omega)).mono ?_
  rintro e w6 ⟨rfl, hb6⟩
  clear lg0 lg1 lg2 lg3 ls0 ls1 ls2 ls3
  have hz6 : w5.heap.size ≤ w6.heap.size := hb6.size
  have B_6 := hideIt (below_trans B_5.out hb6 (by omega))
  have Va_6 := hideIt ((hb6.block _ (by omega)).trans Va_5.out)
  have Vm_6 := hideIt ((hb6.block _ (by omega)).trans Vm_5.out)
  have Vs_6 := hideIt ((hb6.block _ (by omega)).trans Vs_5.out)
  have Vx_6 := hideIt ((hb6.block _ (by omega)).trans Vx_5.out)
  have Vg_6 := hideIt ((hb6.block _ (by omega)).trans Vg_5.out)
  have Rs_6 := hideIt (Rs_5.out.below hb6 (by omega))
  have Rx_6 := hideIt (Rx_5.out.below hb6 (by omega))
  have Rg_6 := hideIt (Rg_5.out.below hb6 (by omega))
  clear B_5 Va_5 Vm_5 Vs_5 Vx_5 Vg_5 Rs_5 Rx_5 Rg_5
  clear hb6
  go_upto_region 10 with fail
  obtain ⟨la0, la1, la2, la3, -, -, -, -⟩ := four_cells Va_6.out
  obtain ⟨lx0, lx1, lx2, lx3, -, -, -, -⟩ := four_cells Vx_6.out
  go_cut [51] (fun s wx => s = .bool false ∧ Below w6.heap.size w6 wx)
  case first =>
    as_aux_lemma =>
      go_region_with (first
        | (go_at_call 7; refine (toDevices_any _ ws ps es qs _ (by first | exact HR.out.below B_6.out.drew | exact HR.out.below B_6.out) hws hps hes hqs).mono ?_; rintro e wa ⟨va, rfl, hra, hba⟩; obtain ⟨aWa, cWa, aPa, cPa, aSa, cSa, aQa, cQa, rfl, -, -⟩ := hra.rd.form; have RA := hideIt hra.rd; obtain ⟨y0, y1, y2, y3, -, -, -, -⟩ := four_cells ((hba.block w3.heap.size (show w3.heap.size < w6.heap.size by omega)).trans Vx_6.out); clear hra)
        | (go_at_call 10; refine (eqDevices_same _ _ ws ps es qs _ (by first | exact (Rx_6.out.rd.below ((Below.refl _ _).drew)).below ‹_› | exact Rx_6.out.rd.below ‹_›) RA.out (by omega) (by omega) (by omega) (by omega)).mono ?_; rintro e wb ⟨rfl, hbb⟩))
      all_goals
        go_wp2_with fail
        go_meet
        have hza := hba.size
        exact ⟨rfl, (below_trans ((Below.refl _ _).drew) hba (Nat.le_refl _)).trans (hbb.mono hza)⟩
  case rest =>
  as_aux_lemma =>
  rename World => w7
  obtain ⟨rfl, hb7⟩ := hcut
  clear la0 la1 la2 la3 lx0 lx1 lx2 lx3
  have hz7 : w6.heap.size ≤ w7.heap.size := hb7.size
  have B_7 := hideIt (below_trans B_6.out hb7 (by omega))
  have Va_7 := hideIt ((hb7.block _ (by omega)).trans Va_6.out)
  have Vm_7 := hideIt ((hb7.block _ (by omega)).trans Vm_6.out)
  have Vs_7 := hideIt ((hb7.block _ (by omega)).trans Vs_6.out)
  have Vx_7 := hideIt ((hb7.block _ (by omega)).trans Vx_6.out)
  have Vg_7 := hideIt ((hb7.block _ (by omega)).trans Vg_6.out)
  have Rs_7 := hideIt (Rs_6.out.below hb7 (by omega))
  have Rx_7 := hideIt (Rx_6.out.below hb7 (by omega))
  have Rg_7 := hideIt (Rg_6.out.below hb7 (by omega))
  clear B_6 Va_6 Vm_6 Vs_6 Vx_6 Vg_6 Rs_6 Rx_6 Rg_6
  clear hb7
  obtain ⟨lx0, lx1, lx2, lx3, -, -, -, -⟩ := four_cells Vx_7.out
  go_wp2_with fail
  refine (markDevices_any _ ws ps es qs 1 w2.heap.size w3.heap.size _ Rx_7.out (by omega) (by omega) (by omega) (by omega) (by omega) (by decide) (by decide)).mono ?_
  rintro e w8 ⟨rfl, hr8, ho8⟩
  clear lx0 lx1 lx2 lx3 hr8
  have hz8 : w7.heap.size ≤ w8.heap.size := ho8.size
  have B_8 := hideIt (B_7.out.trans (ho8.below (B := w.heap.size) (by omega) (by omega)))
  have Va_8 := hideIt ((ho8.block _ (by omega) (by omega)).trans Va_7.out)
  have Vm_8 := hideIt ((ho8.block _ (by omega) (by omega)).trans Vm_7.out)
  have Vs_8 := hideIt ((ho8.block _ (by omega) (by omega)).trans Vs_7.out)
  have Vx_8 := hideIt ((ho8.block _ (by omega) (by omega)).trans Vx_7.out)
  have Vg_8 := hideIt ((ho8.block _ (by omega) (by omega)).trans Vg_7.out)
  have Rs_8 := hideIt (Rs_7.out.outside ho8 (by omega) (by omega))
  have Rg_8 := hideIt (Rg_7.out.outside ho8 (by omega) (by omega))
  clear B_7 Va_7 Vm_7 Vs_7 Vx_7 Vg_7 Rs_7 Rx_7 Rg_7
  clear ho8
  obtain ⟨lg0, lg1, lg2, lg3, -, -, -, -⟩ := four_cells Vg_8.out
  obtain ⟨ls0, ls1, ls2, ls3, -, -, -, -⟩ := four_cells Vs_8.out
  go_wp2_with fail
  refine (eqDevices_same _ _ W P E4 Q _ Rg_8.out.rd Rs_8.out.rd (by omega) (by omega) (by omega) (by omega)).mono ?_
  rintro e w9 ⟨rfl, hb9⟩
  clear lg0 lg1 lg2 lg3 ls0 ls1 ls2 ls3
  have hz9 : w8.heap.size ≤ w9.heap.size := hb9.size
  have B_9 := hideIt (below_trans B_8.out hb9 (by omega))
  have Va_9 := hideIt ((hb9.block _ (by omega)).trans Va_8.out)
  have Vm_9 := hideIt ((hb9.block _ (by omega)).trans Vm_8.out)
  have Vs_9 := hideIt ((hb9.block _ (by omega)).trans Vs_8.out)
  have Vx_9 := hideIt ((hb9.block _ (by omega)).trans Vx_8.out)
  have Vg_9 := hideIt ((hb9.block _ (by omega)).trans Vg_8.out)
  have Rs_9 := hideIt (Rs_8.out.below hb9 (by omega))
  have Rg_9 := hideIt (Rg_8.out.below hb9 (by omega))
  clear B_8 Va_8 Vm_8 Vs_8 Vx_8 Vg_8 Rs_8 Rg_8
  clear hb9
  obtain ⟨lg0, lg1, lg2, lg3, -, -, -, -⟩ := four_cells Vg_9.out
  go_wp2_with fail
  refine (markDevices_any _ W P E4 Q 1 log hig _ Rg_9.out (by omega) (by omega) (by omega) (by omega) (by omega) (by decide) (by decide)).mono ?_
  rintro e w10 ⟨rfl, hr10, ho10⟩
  clear lg0 lg1 lg2 lg3
  have hz10 : w9.heap.size ≤ w10.heap.size := ho10.size
  have B_10 := hideIt (B_9.out.trans (ho10.below (B := w.heap.size) (by omega) (by omega)))
  have Va_10 := hideIt ((ho10.block _ (by omega) (by omega)).trans Va_9.out)
  have Vm_10 := hideIt ((ho10.block _ (by omega) (by omega)).trans Vm_9.out)
  have Vs_10 := hideIt ((ho10.block _ (by omega) (by omega)).trans Vs_9.out)
  have Vx_10 := hideIt ((ho10.block _ (by omega) (by omega)).trans Vx_9.out)
  have Vg_10 := hideIt ((ho10.block _ (by omega) (by omega)).trans Vg_9.out)
  have Rs_10 := hideIt (Rs_9.out.outside ho10 (by omega) (by omega))
  clear B_9 Va_9 Vm_9 Vs_9 Vx_9 Vg_9 Rs_9 Rg_9
  have Rk_10 := hideIt hr10
  clear ho10 hr10
  obtain ⟨lg0, lg1, lg2, lg3, -, -, -, -⟩ := four_cells Vg_10.out
  go_wp2_with fail
  refine (heldDevices_any _ W.length P.length E4.length Q.length 1 _ Rk_10.out.rd (by omega) (by omega) (by omega) (by omega) (by decide) (by decide)).mono ?_
  rintro e w11 ⟨rfl, hb11⟩
  clear lg0 lg1 lg2 lg3
  have hz11 : w10.heap.size ≤ w11.heap.size := hb11.size
  have B_11 := hideIt (below_trans B_10.out hb11 (by omega))
  have Va_11 := hideIt ((hb11.block _ (by omega)).trans Va_10.out)
  have Vm_11 := hideIt ((hb11.block _ (by omega)).trans Vm_10.out)
  have Vs_11 := hideIt ((hb11.block _ (by omega)).trans Vs_10.out)
  have Vx_11 := hideIt ((hb11.block _ (by omega)).trans Vx_10.out)
  have Vg_11 := hideIt ((hb11.block _ (by omega)).trans Vg_10.out)
  have Rs_11 := hideIt (Rs_10.out.below hb11 (by omega))
  have Rk_11 := hideIt (Rk_10.out.below hb11 (by omega))
  clear B_10 Va_10 Vm_10 Vs_10 Vx_10 Vg_10 Rs_10 Rk_10
  clear hb11
  go_upto_region 24 with fail
  obtain ⟨la0, la1, la2, la3, -, -, -, -⟩ := four_cells Va_11.out
  obtain ⟨lm0, lm1, lm2⟩ := three_cells Vm_11.out
  go_cut [14, 15] (fun s t wx => ∃ (b0 b1 b2 b3 : Option Addr) (c0 c1 c2 c3 bx lo hi : Nat), t = .int .i64 cd ∧ s = .pointer (some ⟨bx, 0, none⟩) ∧ Hid (CutD w11 wx (.slice b0 W.length c0) (.slice b1 P.length c1) (.slice b2 E4.length c2) (.slice b3 Q.length c3) W P E4 Q bx lo hi))
  case first =>
    as_aux_lemma =>
      obtain ⟨q0, q1, q2, q3, -, -, -, -⟩ := four_cells (at_old (o := .cells #[.slice none 0 0, .slice none 0 0, .slice none 0 0, .slice none 0 0] 41) Va_11.out)
      obtain ⟨n0, n1, n2⟩ := three_cells (at_old (o := .cells #[.slice none 0 0, .slice none 0 0, .slice none 0 0, .slice none 0 0] 41) Vm_11.out)
      go_region_held3 (fun w' => w'.cell? ⟨w.heap.size, 0, none⟩ = some (.slice aW ws.length cW) ∧ w'.cell? ⟨w.heap.size, 1, none⟩ = some (.slice aP ps.length cP) ∧ w'.cell? ⟨w.heap.size, 2, none⟩ = some (.slice aS es.length cS) ∧ w'.cell? ⟨w.heap.size, 3, none⟩ = some (.slice aQ qs.length cQ) ∧ w'.cell? ⟨w.heap.size + 1, 0, none⟩ = some (.int .i64 k) ∧ w'.cell? ⟨w.heap.size + 1, 1, none⟩ = some (.int .i64 a) ∧ w'.cell? ⟨w.heap.size + 1, 2, none⟩ = some (.int .i64 x)) (exact seven Va_11.out Vm_11.out (by repeat (first | exact BF.out | exact BB.out | exact BA.out | exact Below.refl _ _ | refine below_allocD ?_ _ | refine Below.drew ?_ | refine Below.setCell ?_ (by first | exact Nat.le_refl _ | exact BA.out.size | exact BB.out.size | exact BF.out.size) _)))
        (first
          | (go_at_call 7; refine (toDevices_any _ ws ps es qs _ (HR.out.below (below_trans B_11.out (by repeat (first | exact Below.refl _ _ | refine below_allocD ?_ _ | refine Below.drew ?_)) (by omega))) hws hps hes hqs).mono ?_; rintro e wa ⟨va, rfl, hra, hba⟩; obtain ⟨aWa, cWa, aPa, cPa, aSa, cSa, aQa, cQa, rfl, -, -⟩ := hra.rd.form; have RA := hideIt hra.rd; have BA : Hid (Below w11.heap.size w11 wa) := below_trans (b := _) (by repeat (first | exact Below.refl _ _ | refine below_allocD ?_ _ | refine Below.drew ?_)) hba (Below.size (B := w11.heap.size) (by repeat (first | exact Below.refl _ _ | refine below_allocD ?_ _ | refine Below.drew ?_))); have hza : w11.heap.size ≤ wa.heap.size := BA.out.size; (first | (have VX : Hid (wa.heap[w11.heap.size]? = some (.cells #[.slice none 0 0, .slice none 0 0, .slice none 0 0, .slice none 0 0] 41 (0, 0))) := (hba.block w11.heap.size (by first | (rw [World.size_alloc]; exact Nat.lt_succ_self _) | (show _ < (World.alloc _ _).heap.size; rw [World.size_alloc]; exact Nat.lt_succ_self _))).trans (at_new rfl)) | skip); obtain ⟨p0, p1, p2⟩ := three_cells ((BA.out.block (w.heap.size + 1) (by omega)).trans Vm_11.out); obtain ⟨r0, r1, r2⟩ := three_cells (at_old (o := .cells #[.slice none 0 0, .slice none 0 0, .slice none 0 0, .slice none 0 0] 41) ((BA.out.block (w.heap.size + 1) (by omega)).trans Vm_11.out)); clear hra hba)
          | (go_at_call 8; refine (TM.out _).mono ?_; rintro e wb ⟨rfl, hbb⟩; have BB : Hid (Below w11.heap.size w11 wb) := below_trans (b := _) (by repeat (first | exact BA.out | exact Below.refl _ _ | refine below_allocD ?_ _ | refine Below.drew ?_)) hbb (Below.size (B := w11.heap.size) (by repeat (first | exact BA.out | exact Below.refl _ _ | refine below_allocD ?_ _ | refine Below.drew ?_))); have hzb : wa.heap.size ≤ wb.heap.size := (below_trans (b := _) (a := wa) (by repeat (first | exact Below.refl _ _ | refine below_allocD ?_ _ | refine Below.drew ?_)) hbb (Below.size (B := wa.heap.size) (by repeat (first | exact Below.refl _ _ | refine below_allocD ?_ _ | refine Below.drew ?_)))).size; have RB : Hid (RdDev wb _ ws ps es qs) := RA.out.below (below_trans (b := _) (a := wa) (by repeat (first | exact Below.refl _ _ | refine below_allocD ?_ _ | refine Below.drew ?_)) hbb (Below.size (B := wa.heap.size) (by repeat (first | exact Below.refl _ _ | refine below_allocD ?_ _ | refine Below.drew ?_)))); (first | (have VX2 : Hid (wb.heap[w11.heap.size]? = some (.cells #[.slice none 0 0, .slice none 0 0, .slice none 0 0, .slice none 0 0] 41 (0, 0))) := (hbb.block w11.heap.size (Array.getElem?_eq_some_iff.1 VX.out).1).trans VX.out) | (have VX2 : Hid (wb.heap[wa.heap.size]? = some (.cells #[.slice none 0 0, .slice none 0 0, .slice none 0 0, .slice none 0 0] 41 (0, 0))) := (hbb.block wa.heap.size (by first | (rw [World.size_alloc]; exact Nat.lt_succ_self _) | (show _ < (World.alloc _ _).heap.size; rw [World.size_alloc]; exact Nat.lt_succ_self _))).trans (at_new rfl)) | skip); clear hbb)
          | (go_at_call 9; refine (IC.out _ _ (HS.out.below (below_trans B_11.out (by repeat (first | exact BB.out | exact BA.out | exact Below.refl _ _ | refine below_allocD ?_ _ | refine Below.drew ?_)) (by omega))) (RB.out.below (by repeat (first | exact Below.refl _ _ | refine below_allocD ?_ _ | refine Below.drew ?_)))).mono ?_; rintro e wf ⟨vf, rfl, hrf, hbf⟩; obtain ⟨b0, c0, b1, c1, b2, c2, b3, c3, rfl, -, -⟩ := hrf.rd.form; have RF := hideIt hrf; have BF : Hid (Below w11.heap.size w11 wf) := below_trans (b := _) (by repeat (first | exact BB.out | exact BA.out | exact Below.refl _ _ | refine below_allocD ?_ _ | refine Below.drew ?_)) hbf (Below.size (B := w11.heap.size) (by repeat (first | exact BB.out | exact BA.out | exact Below.refl _ _ | refine below_allocD ?_ _ | refine Below.drew ?_))); have hzf := hbf.size; (first | (have VY : Hid (wf.heap[w11.heap.size]? = some (.cells #[.slice none 0 0, .slice none 0 0, .slice none 0 0, .slice none 0 0] 41 (0, 0))) := (hbf.block w11.heap.size (Array.getElem?_eq_some_iff.1 VX2.out).1).trans VX2.out; have LT := (Array.getElem?_eq_some_iff.1 VX2.out).1; have GE := Nat.le_refl w11.heap.size; obtain ⟨t0, t1, t2, t3, t4, t5, t6, t7⟩ := four_cells VY.out) | (have VY : Hid (wf.heap[wa.heap.size]? = some (.cells #[.slice none 0 0, .slice none 0 0, .slice none 0 0, .slice none 0 0] 41 (0, 0))) := (hbf.block wa.heap.size (Array.getElem?_eq_some_iff.1 VX2.out).1).trans VX2.out; have LT := (Array.getElem?_eq_some_iff.1 VX2.out).1; have GE := BA.out.size; obtain ⟨t0, t1, t2, t3, t4, t5, t6, t7⟩ := four_cells VY.out) | (have LT : wb.heap.size < (wb.alloc (.cells #[.slice none 0 0, .slice none 0 0, .slice none 0 0, .slice none 0 0] 41)).heap.size := (by first | (rw [World.size_alloc]; exact Nat.lt_succ_self _) | (show _ < (World.alloc _ _).heap.size; rw [World.size_alloc]; exact Nat.lt_succ_self _)); have VY : Hid (wf.heap[wb.heap.size]? = some (.cells #[.slice none 0 0, .slice none 0 0, .slice none 0 0, .slice none 0 0] 41 (0, 0))) := (hbf.block wb.heap.size LT).trans (at_new rfl); have GE := BB.out.size; obtain ⟨t0, t1, t2, t3, t4, t5, t6, t7⟩ := four_cells VY.out) | skip); clear hbf hrf))
      all_goals
        go_wp2_with fail
        go_meet
        first
          | exact ⟨b0, b1, b2, b3, c0, c1, c2, c3, _, _, _, rfl, rfl, CutD.old LT RF.out (Below.size (B := w11.heap.size) (by repeat (first | exact BB.out | exact BA.out | exact Below.refl _ _ | refine below_allocD ?_ _ | refine Below.drew ?_))) (Nat.le_refl _) BF.out GE VY.out⟩
          | exact ⟨b0, b1, b2, b3, c0, c1, c2, c3, _, _, _, rfl, rfl, (CutD.old LT RF.out (Below.size (B := w11.heap.size) (by repeat (first | exact BB.out | exact BA.out | exact Below.refl _ _ | refine below_allocD ?_ _ | refine Below.drew ?_))) (Nat.le_refl _) BF.out GE VY.out).drew⟩
          | exact ⟨b0, b1, b2, b3, c0, c1, c2, c3, _, _, _, rfl, rfl, CutD.new RF.out (Below.size (B := w11.heap.size) (by repeat (first | exact BB.out | exact BA.out | exact Below.refl _ _ | refine below_allocD ?_ _ | refine Below.drew ?_))) (Nat.le_refl _) BF.out⟩
          | exact ⟨b0, b1, b2, b3, c0, c1, c2, c3, _, _, _, rfl, rfl, (CutD.new RF.out (Below.size (B := w11.heap.size) (by repeat (first | exact BB.out | exact BA.out | exact Below.refl _ _ | refine below_allocD ?_ _ | refine Below.drew ?_))) (Nat.le_refl _) BF.out).drew⟩
  case rest =>
  as_aux_lemma =>
  rename World => w12
  clear la0 la1 la2 la3 lm0 lm1 lm2
  obtain ⟨ih0, ih1, ih2, ih3, jh0, jh1, jh2, jh3, bh, loh, hih, rfl, rfl, C⟩ := hcut
  have hb12 := C.out.below
  have lo0h := C.out.lo0
  have hi1h := C.out.hi1
  have bx0h := C.out.bx0
  have bx1h := C.out.bx1
  have aparth := C.out.apart
  have Vh_12 := hideIt C.out.box
  have Rh_12 := hideIt C.out.row
  clear C
  have hz12 : w11.heap.size ≤ w12.heap.size := hb12.size
  have B_12 := hideIt (below_trans B_11.out hb12 (by omega))
  have Va_12 := hideIt ((hb12.block _ (by omega)).trans Va_11.out)
  have Vm_12 := hideIt ((hb12.block _ (by omega)).trans Vm_11.out)
  have Vs_12 := hideIt ((hb12.block _ (by omega)).trans Vs_11.out)
  have Vx_12 := hideIt ((hb12.block _ (by omega)).trans Vx_11.out)
  have Vg_12 := hideIt ((hb12.block _ (by omega)).trans Vg_11.out)
  have Rs_12 := hideIt (Rs_11.out.below hb12 (by omega))
  have Rk_12 := hideIt (Rk_11.out.below hb12 (by omega))
  clear B_11 Va_11 Vm_11 Vs_11 Vx_11 Vg_11 Rs_11 Rk_11
  clear hb12
  obtain ⟨lh0, lh1, lh2, lh3, -, -, -, -⟩ := four_cells Vh_12.out
  obtain ⟨ls0, ls1, ls2, ls3, -, -, -, -⟩ := four_cells Vs_12.out
  go_wp2_with fail
  refine (eqDevices_same _ _ W P E4 Q _ Rh_12.out.rd Rs_12.out.rd (by omega) (by omega) (by omega) (by omega)).mono ?_
  rintro e w13 ⟨rfl, hb13⟩
  clear lh0 lh1 lh2 lh3 ls0 ls1 ls2 ls3
  have hz13 : w12.heap.size ≤ w13.heap.size := hb13.size
  have B_13 := hideIt (below_trans B_12.out hb13 (by omega))
  have Va_13 := hideIt ((hb13.block _ (by omega)).trans Va_12.out)
  have Vm_13 := hideIt ((hb13.block _ (by omega)).trans Vm_12.out)
  have Vs_13 := hideIt ((hb13.block _ (by omega)).trans Vs_12.out)
  have Vx_13 := hideIt ((hb13.block _ (by omega)).trans Vx_12.out)
  have Vg_13 := hideIt ((hb13.block _ (by omega)).trans Vg_12.out)
  have Vh_13 := hideIt ((hb13.block _ (by omega)).trans Vh_12.out)
  have Rs_13 := hideIt (Rs_12.out.below hb13 (by omega))
  have Rk_13 := hideIt (Rk_12.out.below hb13 (by omega))
  have Rh_13 := hideIt (Rh_12.out.below hb13 (by omega))
  clear B_12 Va_12 Vm_12 Vs_12 Vx_12 Vg_12 Vh_12 Rs_12 Rk_12 Rh_12
  clear hb13
  obtain ⟨lg0, lg1, lg2, lg3, -, -, -, -⟩ := four_cells Vg_13.out
  go_wp2_with fail
  refine (heldDevices_any _ W.length P.length E4.length Q.length 1 _ Rk_13.out.rd (by omega) (by omega) (by omega) (by omega) (by decide) (by decide)).mono ?_
  rintro e w14 ⟨rfl, hb14⟩
  clear lg0 lg1 lg2 lg3
  have hz14 : w13.heap.size ≤ w14.heap.size := hb14.size
  have B_14 := hideIt (below_trans B_13.out hb14 (by omega))
  have Va_14 := hideIt ((hb14.block _ (by omega)).trans Va_13.out)
  have Vm_14 := hideIt ((hb14.block _ (by omega)).trans Vm_13.out)
  have Vs_14 := hideIt ((hb14.block _ (by omega)).trans Vs_13.out)
  have Vx_14 := hideIt ((hb14.block _ (by omega)).trans Vx_13.out)
  have Vg_14 := hideIt ((hb14.block _ (by omega)).trans Vg_13.out)
  have Vh_14 := hideIt ((hb14.block _ (by omega)).trans Vh_13.out)
  have Rs_14 := hideIt (Rs_13.out.below hb14 (by omega))
  have Rk_14 := hideIt (Rk_13.out.below hb14 (by omega))
  have Rh_14 := hideIt (Rh_13.out.below hb14 (by omega))
  clear B_13 Va_13 Vm_13 Vs_13 Vx_13 Vg_13 Vh_13 Rs_13 Rk_13 Rh_13
  clear hb14
  go_wp2
  go_ret
  exact ⟨rfl, B_14.out⟩
end Go.Proofs.YtenadnlgjobmdakDoor
