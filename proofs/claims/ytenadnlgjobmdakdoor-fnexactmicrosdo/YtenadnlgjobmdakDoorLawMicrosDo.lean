/- The law of MicrosDo: the walk. -/
import Derived.Test.YtenadnlgjobmdakDoorJsD
import Derived.Test.YtenadnlgjobmdakDoorJiD
import Derived.Test.YtenadnlgjobmdakDoorMiT
import Derived.Deep.DeepCutAuto
import Derived.Deep.RegionWith
namespace Go.Proofs.YtenadnlgjobmdakDoor
open Go.RowKit

theorem ms_len (l : List Mi) (ws : List Int) (ps : List St) (es : List Int) (qs : List Se) : (ms l ws ps es qs).W.length ≤ 1048576 ∧ (ms l ws ps es qs).P.length ≤ 1048576 ∧ (ms l ws ps es qs).E.length ≤ 1048576 ∧ (ms l ws ps es qs).Q.length ≤ 1048576 := by
  by_cases c0 : 4096 < l.length
  · rw [ms_long c0]; simp
  · by_cases c : (pmB ws ps && blkB es qs && misB' l) = true
    · rw [ms_ok c0 c]
      simp only [Bool.and_eq_true] at c
      obtain ⟨a, b⟩ := mr_ok l ws ps es qs c.1.1 c.1.2 (fun m hm => by obtain ⟨j, hj, rfl⟩ := List.getElem_of_mem hm; exact misT c.2 j hj)
      obtain ⟨a1, a2, _⟩ := pmB_iff.1 a
      obtain ⟨b1, b2, _⟩ := blkB_iff.1 b
      omega
    · rw [ms_bad c0 (by simpa using c)]; simp
theorem rdM_form {w : World} {v : Value} {ps : List Mi} (h : RdM w v ps) {n : Nat} (hn : ps.length = n) : ∃ ao cap, v = .slice ao n cap := by
  obtain ⟨ao, cap, e, _⟩ := h.shape
  exact ⟨ao, cap, hn ▸ e⟩
theorem outside_grown {w w' : World} {e : TypeId} {size lo hi : Nat} {v : Value} {n : Nat} {xs : List Value} (h : Row w e size lo hi v n xs) (hg : w.grownBy w' v.ownBlock) : Outside lo hi w w' :=
  ⟨hg.os, hg.tape, hg.output, hg.size, fun j hj ho => hg.block j hj (fun e => by have h1 := (h.1.lt j e.symm).1; have h2 := h.2 j e.symm; omega)⟩

set_option maxRecDepth 100000 in
set_option maxHeartbeats 16000000 in
theorem microsDo_law (v vL : Value) (l : List Mi) (ws : List Int) (ps : List St) (es : List Int) (qs : List Se) (w : World) (h : RdDev w v ws ps es qs) (hL : RdM w vL l) (hw : ws.length ≤ maxLen) (hp : ps.length ≤ maxLen) (he : es.length ≤ maxLen) (hq : qs.length ≤ maxLen) (hl : l.length ≤ maxLen) (hS : SB w) :
    Calls Tryd.prog 4 #[v, vL] w fun e w' => e = .returned (.bool true) ∧ Below w.heap.size w w' := by
  have HR := hideIt h
  have HL := hideIt hL
  have HS := hideIt hS
  obtain ⟨aL, cL, rfl, -, -⟩ := hL.shape
  obtain ⟨aW, cW, aP, cP, aS, cS, aQ, cQ, rfl, -, -⟩ := h.form
  clear h hL hS
  have hb0 : Below w.heap.size w (w.alloc (.cells #[.slice aW ws.length cW, .slice aP ps.length cP, .slice aS es.length cS, .slice aQ qs.length cQ] 30)) := (Below.refl _ _).alloc (Nat.le_refl _) _
  by_cases c : 1048576 < ws.length + ps.length + es.length + qs.length
  · go_enter Tryd.func4, Tryd.ntmps4
    go_wp2_with fail
    refine (szDevices_any aW aP aS aQ ws.length ps.length es.length qs.length cW cP cS cQ _ hw hp he hq).mono ?_
    rw [if_pos c]
    rintro e w1 ⟨rfl, hb1⟩
    have B1 := hideIt (below_trans hb0 hb1 (by simp <;> omega))
    clear hb0 hb1
    go_wp2
    go_ret
    exact ⟨rfl, B1.out⟩
  have E := hideIt (show (if 1048576 < ws.length + ps.length + es.length + qs.length then -1 else 1048576 - ws.length - ps.length - es.length - qs.length : Int) = 1048576 - ws.length - ps.length - es.length - qs.length from if_neg c)
  have hws : ws.length ≤ 1048576 := by omega
  have hps : ps.length ≤ 1048576 := by omega
  have hes : es.length ≤ 1048576 := by omega
  have hqs : qs.length ≤ 1048576 := by omega
  obtain ⟨left, hleft⟩ : ∃ left : Int, left = 1048576 - ws.length - ps.length - es.length - qs.length := ⟨_, rfl⟩
  have E := hideIt (E.out.trans hleft.symm)
  have hl0 : 0 ≤ left := by omega
  have hl1 : left ≤ 1048576 := by omega
  clear hleft
  by_cases c2 : left < (l.length : Int)
  · have E2 := hideIt (show less left l.length = -1 from if_pos c2)
    go_enter Tryd.func4, Tryd.ntmps4
    go_wp2_with fail
    refine (szDevices_any aW aP aS aQ ws.length ps.length es.length qs.length cW cP cS cQ _ hw hp he hq).mono ?_
    rw [E.out]
    rintro e w1 ⟨rfl, hb1⟩
    have B1 := hideIt (below_trans hb0 hb1 (by simp <;> omega))
    clear hb0 hb1
    go_wp2_with (go_at_call 13; refine (szMicroS_any aL l.length cL _ _ hl hl0 hl1).mono ?_; rw [E2.out]; rintro e w' ⟨rfl, hw'⟩; subst w')
    go_ret
    exact ⟨rfl, B1.out⟩
  have E2 := hideIt (show less left l.length = left - l.length from if_neg c2)
  have hll : l.length ≤ 1048576 := by omega
  have IC := hideIt (fun v vL w hS h hL => implMicrosDo_any v vL l ws ps es qs w hS h hL hws hps hes hqs hll)
  have SC := hideIt (fun v vL w h hL => specMicrosDo_any v vL l ws ps es qs w h hL hws hps hes hqs hll)
  obtain ⟨d1, d2, d3, d4⟩ := ms_len l ws ps es qs
  generalize ms l ws ps es qs = R at *
  obtain ⟨cd, W, P, E4, Q⟩ := R
  simp only at IC SC d1 d2 d3 d4
  go_enter Tryd.func4, Tryd.ntmps4
  go_wp2_with fail
  refine (szDevices_any aW aP aS aQ ws.length ps.length es.length qs.length cW cP cS cQ _ hw hp he hq).mono ?_
  rw [E.out]
  rintro e w1 ⟨rfl, hb1⟩
  have hz1 : w.heap.size + 1 ≤ w1.heap.size := by have := hb1.size; simp at this; omega
  have Va_1 := hideIt ((hb1.block w.heap.size (by simp)).trans (at_new rfl))
  have B_1 := hideIt (below_trans hb0 hb1 (by simp <;> omega))
  clear hb0 hb1
  obtain ⟨la0, la1, la2, la3, -, -, -, -⟩ := four_cells Va_1.out
  go_wp2_with fail
  refine (szMicroS_any aL l.length cL _ _ hl hl0 hl1).mono ?_
  rw [E2.out]
  rintro e w' ⟨rfl, hw'⟩
  subst w'
  clear la0 la1 la2 la3
  obtain ⟨la0, la1, la2, la3, -, -, -, -⟩ := four_cells Va_1.out
  go_wp2_with fail
  refine (toDevices_any _ ws ps es qs _ (HR.out.below B_1.out) hws hps hes hqs).mono ?_
  rintro e w2 ⟨v2, rfl, hr2, hb2⟩
  clear la0 la1 la2 la3
  obtain ⟨aW2, cW2, aP2, cP2, aS2, cS2, aQ2, cQ2, rfl, -, -⟩ := hr2.rd.form
  have hz2 : w1.heap.size ≤ w2.heap.size := hb2.size
  have B_2 := hideIt (below_trans B_1.out hb2 (by omega))
  have Va_2 := hideIt ((hb2.block _ (by omega)).trans Va_1.out)
  clear B_1 Va_1 
  have Rt_2 := hideIt hr2
  clear hr2 hb2
  go_wp2_with fail
  refine (toMicroS_any _ l _ (Rd.below HL.out B_2.out) hll).mono ?_
  rintro e w3 ⟨v3, rfl, hr3, hb3⟩
  obtain ⟨aM3, cM3, rfl⟩ := rdM_form hr3.rd (n := l.length) rfl
  have hz3 : w2.heap.size ≤ w3.heap.size := hb3.size
  have B_3 := hideIt (below_trans B_2.out hb3 (by omega))
  have Va_3 := hideIt ((hb3.block _ (by omega)).trans Va_2.out)
  have Rt_3 := hideIt (Rt_2.out.below hb3 (by omega))
  clear B_2 Va_2 Rt_2
  have T3 := hideIt hr3.rd
  clear hr3 hb3
  go_wp2_with fail
  refine (SC.out _ _ _ Rt_3.out.rd T3.out).mono ?_
  rintro e w4 ⟨v4, rfl, hr4, hb4⟩
  obtain ⟨aWs, cWs, aPs, cPs, aSs, cSs, aQs, cQs, rfl, -, -⟩ := hr4.rd.form
  clear Rt_3 T3
  have hz4 : w3.heap.size ≤ w4.heap.size := hb4.size
  have B_4 := hideIt (below_trans B_3.out hb4 (by omega))
  have Va_4 := hideIt ((hb4.block _ (by omega)).trans Va_3.out)
  clear B_3 Va_3 
  have Rs_4 := hideIt hr4
  clear hr4 hb4
  go_upto_region 9 with fail
  obtain ⟨w5, hw5⟩ : ∃ w5 : World, w5 = w4.alloc (.cells #[.slice aWs W.length cWs, .slice aPs P.length cPs, .slice aSs E4.length cSs, .slice aQs Q.length cQs] 41) := ⟨_, rfl⟩
  rw [← hw5]
  have Vs_5 : Hid (w5.heap[w4.heap.size]? = some (.cells #[.slice aWs W.length cWs, .slice aPs P.length cPs, .slice aSs E4.length cSs, .slice aQs Q.length cQs] 41 (0, 0))) := by rw [hw5]; exact at_new rfl
  have hb5 : Below w4.heap.size w4 w5 := by rw [hw5]; exact (Below.refl _ _).alloc (Nat.le_refl _) _
  have hs5 : w4.heap.size < w5.heap.size := by rw [hw5, World.size_alloc]; exact Nat.lt_succ_self _
  have hz5 : w4.heap.size ≤ w5.heap.size := hb5.size
  have B_5 := hideIt (below_trans B_4.out hb5 (by omega))
  have Va_5 := hideIt ((hb5.block _ (by omega)).trans Va_4.out)
  have Rs_5 := hideIt (Rs_4.out.below hb5 (by omega))
  clear B_4 Va_4 Rs_4
  clear hb5 hw5
  obtain ⟨la0, la1, la2, la3, -, -, -, -⟩ := four_cells Va_5.out
  go_wp2_with fail
  refine (toDevices_any _ ws ps es qs _ (HR.out.below B_5.out) hws hps hes hqs).mono ?_
  rintro e w6 ⟨v6, rfl, hr6, hb6⟩
  clear la0 la1 la2 la3
  obtain ⟨aW6, cW6, aP6, cP6, aS6, cS6, aQ6, cQ6, rfl, -, -⟩ := hr6.rd.form
  have hz6 : w5.heap.size ≤ w6.heap.size := hb6.size
  have B_6 := hideIt (below_trans B_5.out hb6 (by omega))
  have Va_6 := hideIt ((hb6.block _ (by omega)).trans Va_5.out)
  have Vs_6 := hideIt ((hb6.block _ (by omega)).trans Vs_5.out)
  have Rs_6 := hideIt (Rs_5.out.below hb6 (by omega))
  clear B_5 Va_5 Vs_5 Rs_5
  have Rx_6 := hideIt hr6
  clear hr6 hb6
  go_upto_region 10 with fail
  obtain ⟨w7, hw7⟩ : ∃ w7 : World, w7 = w6.alloc (.cells #[.slice aW6 ws.length cW6, .slice aP6 ps.length cP6, .slice aS6 es.length cS6, .slice aQ6 qs.length cQ6] 41) := ⟨_, rfl⟩
  rw [← hw7]
  have Vx_7 : Hid (w7.heap[w6.heap.size]? = some (.cells #[.slice aW6 ws.length cW6, .slice aP6 ps.length cP6, .slice aS6 es.length cS6, .slice aQ6 qs.length cQ6] 41 (0, 0))) := by rw [hw7]; exact at_new rfl
  have hb7 : Below w6.heap.size w6 w7 := by rw [hw7]; exact (Below.refl _ _).alloc (Nat.le_refl _) _
  have hs7 : w6.heap.size < w7.heap.size := by rw [hw7, World.size_alloc]; exact Nat.lt_succ_self _
  have hz7 : w6.heap.size ≤ w7.heap.size := hb7.size
  have B_7 := hideIt (below_trans B_6.out hb7 (by omega))
  have Va_7 := hideIt ((hb7.block _ (by omega)).trans Va_6.out)
  have Vs_7 := hideIt ((hb7.block _ (by omega)).trans Vs_6.out)
  have Rs_7 := hideIt (Rs_6.out.below hb7 (by omega))
  have Rx_7 := hideIt (Rx_6.out.below hb7 (by omega))
  clear B_6 Va_6 Vs_6 Rs_6 Rx_6
  clear hb7 hw7
  go_wp2_with fail
  refine (toMicroS_any _ l _ (Rd.below HL.out B_7.out) hll).mono ?_
  rintro e w8 ⟨v8, rfl, hr8, hb8⟩
  obtain ⟨aM8, cM8, rfl⟩ := rdM_form hr8.rd (n := l.length) rfl
  have hz8 : w7.heap.size ≤ w8.heap.size := hb8.size
  have B_8 := hideIt (below_trans B_7.out hb8 (by omega))
  have Va_8 := hideIt ((hb8.block _ (by omega)).trans Va_7.out)
  have Vs_8 := hideIt ((hb8.block _ (by omega)).trans Vs_7.out)
  have Vx_8 := hideIt ((hb8.block _ (by omega)).trans Vx_7.out)
  have Rs_8 := hideIt (Rs_7.out.below hb8 (by omega))
  have Rx_8 := hideIt (Rx_7.out.below hb8 (by omega))
  clear B_7 Va_7 Vs_7 Vx_7 Rs_7 Rx_7
  have X_8 := hideIt hr8
  clear hr8 hb8
  obtain ⟨lx0, lx1, lx2, lx3, -, -, -, -⟩ := four_cells Vx_8.out
  go_wp2_with fail
  refine (IC.out _ _ _ (HS.out.below B_8.out) Rx_8.out.rd X_8.out.rd).mono ?_
  rintro e w9 ⟨v9, rfl, hr9, hb9⟩
  clear lx0 lx1 lx2 lx3
  obtain ⟨aWg, cWg, aPg, cPg, aSg, cSg, aQg, cQg, rfl, -, -⟩ := hr9.rd.form
  have hz9 : w8.heap.size ≤ w9.heap.size := hb9.size
  have B_9 := hideIt (below_trans B_8.out hb9 (by omega))
  have Va_9 := hideIt ((hb9.block _ (by omega)).trans Va_8.out)
  have Vs_9 := hideIt ((hb9.block _ (by omega)).trans Vs_8.out)
  have Vx_9 := hideIt ((hb9.block _ (by omega)).trans Vx_8.out)
  have Rs_9 := hideIt (Rs_8.out.below hb9 (by omega))
  have Rx_9 := hideIt (Rx_8.out.below hb9 (by omega))
  have X_9 := hideIt (X_8.out.below hb9 (by omega))
  clear B_8 Va_8 Vs_8 Vx_8 Rs_8 Rx_8 X_8
  have Rg_9 := hideIt hr9
  clear hr9 hb9
  go_upto_region 12 with fail
  obtain ⟨w10, hw10⟩ : ∃ w10 : World, w10 = w9.alloc (.cells #[.slice aWg W.length cWg, .slice aPg P.length cPg, .slice aSg E4.length cSg, .slice aQg Q.length cQg] 41) := ⟨_, rfl⟩
  rw [← hw10]
  have Vg_10 : Hid (w10.heap[w9.heap.size]? = some (.cells #[.slice aWg W.length cWg, .slice aPg P.length cPg, .slice aSg E4.length cSg, .slice aQg Q.length cQg] 41 (0, 0))) := by rw [hw10]; exact at_new rfl
  have hb10 : Below w9.heap.size w9 w10 := by rw [hw10]; exact (Below.refl _ _).alloc (Nat.le_refl _) _
  have hs10 : w9.heap.size < w10.heap.size := by rw [hw10, World.size_alloc]; exact Nat.lt_succ_self _
  have hz10 : w9.heap.size ≤ w10.heap.size := hb10.size
  have B_10 := hideIt (below_trans B_9.out hb10 (by omega))
  have Va_10 := hideIt ((hb10.block _ (by omega)).trans Va_9.out)
  have Vs_10 := hideIt ((hb10.block _ (by omega)).trans Vs_9.out)
  have Vx_10 := hideIt ((hb10.block _ (by omega)).trans Vx_9.out)
  have Rs_10 := hideIt (Rs_9.out.below hb10 (by omega))
  have Rx_10 := hideIt (Rx_9.out.below hb10 (by omega))
  have Rg_10 := hideIt (Rg_9.out.below hb10 (by omega))
  have X_10 := hideIt (X_9.out.below hb10 (by omega))
  clear B_9 Va_9 Vs_9 Vx_9 Rs_9 Rx_9 Rg_9 X_9
  clear hb10 hw10
  obtain ⟨lg0, lg1, lg2, lg3, -, -, -, -⟩ := four_cells Vg_10.out
  obtain ⟨ls0, ls1, ls2, ls3, -, -, -, -⟩ := four_cells Vs_10.out
  go_wp2_with fail
  refine (eqDevices_same _ _ W P E4 Q _ Rg_10.out.rd Rs_10.out.rd (by omega) (by omega) (by omega) (by omega)).mono ?_
  rintro e w11 ⟨rfl, hb11⟩
  clear lg0 lg1 lg2 lg3 ls0 ls1 ls2 ls3
  have hz11 : w10.heap.size ≤ w11.heap.size := hb11.size
  have B_11 := hideIt (below_trans B_10.out hb11 (by omega))
  have Va_11 := hideIt ((hb11.block _ (by omega)).trans Va_10.out)
  have Vs_11 := hideIt ((hb11.block _ (by omega)).trans Vs_10.out)
  have Vx_11 := hideIt ((hb11.block _ (by omega)).trans Vx_10.out)
  have Vg_11 := hideIt ((hb11.block _ (by omega)).trans Vg_10.out)
  have Rs_11 := hideIt (Rs_10.out.below hb11 (by omega))
  have Rx_11 := hideIt (Rx_10.out.below hb11 (by omega))
  have Rg_11 := hideIt (Rg_10.out.below hb11 (by omega))
  have X_11 := hideIt (X_10.out.below hb11 (by omega))
  clear B_10 Va_10 Vs_10 Vx_10 Vg_10 Rs_10 Rx_10 Rg_10 X_10
  clear hb11
  go_upto_region 14 with fail
  obtain ⟨la0, la1, la2, la3, -, -, -, -⟩ := four_cells Va_11.out
  obtain ⟨lx0, lx1, lx2, lx3, -, -, -, -⟩ := four_cells Vx_11.out
  go_cut [58] (fun s wx => s = .bool false ∧ Below w11.heap.size w11 wx)
  case first =>
    as_aux_lemma =>
      go_region_with (first
        | (go_at_call 7; refine (toDevices_any _ ws ps es qs _ (by first | exact HR.out.below B_11.out.drew | exact HR.out.below B_11.out) hws hps hes hqs).mono ?_; rintro e wa ⟨va, rfl, hra, hba⟩; obtain ⟨aWa, cWa, aPa, cPa, aSa, cSa, aQa, cQa, rfl, -, -⟩ := hra.rd.form; have RA := hideIt hra.rd; obtain ⟨y0, y1, y2, y3, -, -, -, -⟩ := four_cells ((hba.block w6.heap.size (show w6.heap.size < w11.heap.size by omega)).trans Vx_11.out))
        | (go_at_call 10; refine (eqDevices_same _ _ ws ps es qs _ (by first | exact (Rx_11.out.rd.below ((Below.refl _ _).drew)).below ‹_› | exact Rx_11.out.rd.below ‹_›) RA.out (by omega) (by omega) (by omega) (by omega)).mono ?_; rintro e wb ⟨rfl, hbb⟩))
      all_goals
        go_wp2_with fail
        go_meet
        have hza := hba.size
        first
          | exact ⟨rfl, (below_trans ((Below.refl _ _).drew) hba (Nat.le_refl _)).trans (hbb.mono hza)⟩
          | exact ⟨rfl, hba.trans (hbb.mono hza)⟩
  case rest =>
  as_aux_lemma =>
  rename World => w12
  obtain ⟨rfl, hb12⟩ := hcut
  clear la0 la1 la2 la3 lx0 lx1 lx2 lx3
  have hz12 : w11.heap.size ≤ w12.heap.size := hb12.size
  have B_12 := hideIt (below_trans B_11.out hb12 (by omega))
  have Va_12 := hideIt ((hb12.block _ (by omega)).trans Va_11.out)
  have Vs_12 := hideIt ((hb12.block _ (by omega)).trans Vs_11.out)
  have Vx_12 := hideIt ((hb12.block _ (by omega)).trans Vx_11.out)
  have Vg_12 := hideIt ((hb12.block _ (by omega)).trans Vg_11.out)
  have Rs_12 := hideIt (Rs_11.out.below hb12 (by omega))
  have Rx_12 := hideIt (Rx_11.out.below hb12 (by omega))
  have Rg_12 := hideIt (Rg_11.out.below hb12 (by omega))
  have X_12 := hideIt (X_11.out.below hb12 (by omega))
  clear B_11 Va_11 Vs_11 Vx_11 Vg_11 Rs_11 Rx_11 Rg_11 X_11
  clear hb12
  go_wp2_with fail
  refine (toMicroS_any _ l _ (Rd.below HL.out B_12.out) hll).mono ?_
  rintro e w13 ⟨v13, rfl, hr13, hb13⟩
  obtain ⟨aM13, cM13, rfl⟩ := rdM_form hr13.rd (n := l.length) rfl
  have hz13 : w12.heap.size ≤ w13.heap.size := hb13.size
  have B_13 := hideIt (below_trans B_12.out hb13 (by omega))
  have Va_13 := hideIt ((hb13.block _ (by omega)).trans Va_12.out)
  have Vs_13 := hideIt ((hb13.block _ (by omega)).trans Vs_12.out)
  have Vx_13 := hideIt ((hb13.block _ (by omega)).trans Vx_12.out)
  have Vg_13 := hideIt ((hb13.block _ (by omega)).trans Vg_12.out)
  have Rs_13 := hideIt (Rs_12.out.below hb13 (by omega))
  have Rx_13 := hideIt (Rx_12.out.below hb13 (by omega))
  have Rg_13 := hideIt (Rg_12.out.below hb13 (by omega))
  have X_13 := hideIt (X_12.out.below hb13 (by omega))
  clear B_12 Va_12 Vs_12 Vx_12 Vg_12 Rs_12 Rx_12 Rg_12 X_12
  have T13 := hideIt hr13.rd
  clear hr13 hb13
  go_wp2_with fail
  refine (eqMicroS_same _ _ l _ X_13.out.rd T13.out (by omega)).mono ?_
  rintro e w14 ⟨rfl, hb14⟩
  clear T13
  have hz14 : w13.heap.size ≤ w14.heap.size := hb14.size
  have B_14 := hideIt (below_trans B_13.out hb14 (by omega))
  have Va_14 := hideIt ((hb14.block _ (by omega)).trans Va_13.out)
  have Vs_14 := hideIt ((hb14.block _ (by omega)).trans Vs_13.out)
  have Vx_14 := hideIt ((hb14.block _ (by omega)).trans Vx_13.out)
  have Vg_14 := hideIt ((hb14.block _ (by omega)).trans Vg_13.out)
  have Rs_14 := hideIt (Rs_13.out.below hb14 (by omega))
  have Rx_14 := hideIt (Rx_13.out.below hb14 (by omega))
  have Rg_14 := hideIt (Rg_13.out.below hb14 (by omega))
  have X_14 := hideIt (X_13.out.below hb14 (by omega))
  clear B_13 Va_13 Vs_13 Vx_13 Vg_13 Rs_13 Rx_13 Rg_13 X_13
  clear hb14
  obtain ⟨lx0, lx1, lx2, lx3, -, -, -, -⟩ := four_cells Vx_14.out
  go_wp2_with fail
  refine (markDevices_any _ ws ps es qs 1 w5.heap.size w6.heap.size _ Rx_14.out (by omega) (by omega) (by omega) (by omega) (by omega) (by decide) (by decide)).mono ?_
  rintro e w15 ⟨rfl, hr15, ho15⟩
  clear lx0 lx1 lx2 lx3
  clear hr15
  have hz15 : w14.heap.size ≤ w15.heap.size := ho15.size
  have B_15 := hideIt (B_14.out.trans (ho15.below (B := w.heap.size) (by omega) (by omega)))
  have Va_15 := hideIt ((ho15.block _ (by omega) (by omega)).trans Va_14.out)
  have Vs_15 := hideIt ((ho15.block _ (by omega) (by omega)).trans Vs_14.out)
  have Vx_15 := hideIt ((ho15.block _ (by omega) (by omega)).trans Vx_14.out)
  have Vg_15 := hideIt ((ho15.block _ (by omega) (by omega)).trans Vg_14.out)
  have Rs_15 := hideIt (Rs_14.out.outside ho15 (by omega) (by omega))
  have Rg_15 := hideIt (Rg_14.out.outside ho15 (by omega) (by omega))
  have X_15 := hideIt (X_14.out.outside ho15 (by omega) (by omega))
  clear B_14 Va_14 Vs_14 Vx_14 Vg_14 Rs_14 Rx_14 Rg_14 X_14
  clear ho15
  generalize hkk : (1 + (ws.length : Int) + 3 * (ps.length : Int) + (es.length : Int) + 2 * (qs.length : Int)) = kk at *
  have hk0 : 0 ≤ kk := by omega
  have hk1 : kk ≤ 67108864 := by omega
  clear hkk
  go_wp2_with fail
  refine (markMicroS_any _ l.length _ kk w7.heap.size w8.heap.size _ X_15.out (isMis l) (by omega) hk0 (by omega)).mono ?_
  rintro e w16 ⟨rfl, hr16, hg16, hs16⟩
  have ho16 := outside_grown X_15.out hg16
  clear hr16 hg16 hs16
  have hz16 : w15.heap.size ≤ w16.heap.size := ho16.size
  have B_16 := hideIt (B_15.out.trans (ho16.below (B := w.heap.size) (by omega) (by omega)))
  have Va_16 := hideIt ((ho16.block _ (by omega) (by omega)).trans Va_15.out)
  have Vs_16 := hideIt ((ho16.block _ (by omega) (by omega)).trans Vs_15.out)
  have Vx_16 := hideIt ((ho16.block _ (by omega) (by omega)).trans Vx_15.out)
  have Vg_16 := hideIt ((ho16.block _ (by omega) (by omega)).trans Vg_15.out)
  have Rs_16 := hideIt (Rs_15.out.outside ho16 (by omega) (by omega))
  have Rg_16 := hideIt (Rg_15.out.outside ho16 (by omega) (by omega))
  clear B_15 Va_15 Vs_15 Vx_15 Vg_15 Rs_15 Rg_15 X_15
  clear ho16
  obtain ⟨lg0, lg1, lg2, lg3, -, -, -, -⟩ := four_cells Vg_16.out
  obtain ⟨ls0, ls1, ls2, ls3, -, -, -, -⟩ := four_cells Vs_16.out
  go_wp2_with fail
  refine (eqDevices_same _ _ W P E4 Q _ Rg_16.out.rd Rs_16.out.rd (by omega) (by omega) (by omega) (by omega)).mono ?_
  rintro e w17 ⟨rfl, hb17⟩
  clear lg0 lg1 lg2 lg3 ls0 ls1 ls2 ls3
  have hz17 : w16.heap.size ≤ w17.heap.size := hb17.size
  have B_17 := hideIt (below_trans B_16.out hb17 (by omega))
  have Va_17 := hideIt ((hb17.block _ (by omega)).trans Va_16.out)
  have Vs_17 := hideIt ((hb17.block _ (by omega)).trans Vs_16.out)
  have Vx_17 := hideIt ((hb17.block _ (by omega)).trans Vx_16.out)
  have Vg_17 := hideIt ((hb17.block _ (by omega)).trans Vg_16.out)
  have Rs_17 := hideIt (Rs_16.out.below hb17 (by omega))
  have Rg_17 := hideIt (Rg_16.out.below hb17 (by omega))
  clear B_16 Va_16 Vs_16 Vx_16 Vg_16 Rs_16 Rg_16
  clear hb17
  obtain ⟨lg0, lg1, lg2, lg3, -, -, -, -⟩ := four_cells Vg_17.out
  go_wp2_with fail
  refine (markDevices_any _ W P E4 Q 1 w8.heap.size w9.heap.size _ Rg_17.out (by omega) (by omega) (by omega) (by omega) (by omega) (by decide) (by decide)).mono ?_
  rintro e w18 ⟨rfl, hr18, ho18⟩
  clear lg0 lg1 lg2 lg3
  have hz18 : w17.heap.size ≤ w18.heap.size := ho18.size
  have B_18 := hideIt (B_17.out.trans (ho18.below (B := w.heap.size) (by omega) (by omega)))
  have Va_18 := hideIt ((ho18.block _ (by omega) (by omega)).trans Va_17.out)
  have Vs_18 := hideIt ((ho18.block _ (by omega) (by omega)).trans Vs_17.out)
  have Vx_18 := hideIt ((ho18.block _ (by omega) (by omega)).trans Vx_17.out)
  have Vg_18 := hideIt ((ho18.block _ (by omega) (by omega)).trans Vg_17.out)
  have Rs_18 := hideIt (Rs_17.out.outside ho18 (by omega) (by omega))
  clear B_17 Va_17 Vs_17 Vx_17 Vg_17 Rs_17 Rg_17
  have Rk_18 := hideIt hr18
  clear ho18 hr18
  obtain ⟨lg0, lg1, lg2, lg3, -, -, -, -⟩ := four_cells Vg_18.out
  go_wp2_with fail
  refine (heldDevices_any _ W.length P.length E4.length Q.length 1 _ Rk_18.out.rd (by omega) (by omega) (by omega) (by omega) (by decide) (by decide)).mono ?_
  rintro e w19 ⟨rfl, hb19⟩
  clear lg0 lg1 lg2 lg3
  have hz19 : w18.heap.size ≤ w19.heap.size := hb19.size
  have B_19 := hideIt (below_trans B_18.out hb19 (by omega))
  have Va_19 := hideIt ((hb19.block _ (by omega)).trans Va_18.out)
  have Vs_19 := hideIt ((hb19.block _ (by omega)).trans Vs_18.out)
  have Vx_19 := hideIt ((hb19.block _ (by omega)).trans Vx_18.out)
  have Vg_19 := hideIt ((hb19.block _ (by omega)).trans Vg_18.out)
  have Rs_19 := hideIt (Rs_18.out.below hb19 (by omega))
  have Rk_19 := hideIt (Rk_18.out.below hb19 (by omega))
  clear B_18 Va_18 Vs_18 Vx_18 Vg_18 Rs_18 Rk_18
  clear hb19
  obtain ⟨la0, la1, la2, la3, -, -, -, -⟩ := four_cells Va_19.out
  go_wp2_with fail
  refine (toDevices_any _ ws ps es qs _ (HR.out.below B_19.out) hws hps hes hqs).mono ?_
  rintro e w20 ⟨v20, rfl, hr20, hb20⟩
  clear la0 la1 la2 la3
  obtain ⟨aW20, cW20, aP20, cP20, aS20, cS20, aQ20, cQ20, rfl, -, -⟩ := hr20.rd.form
  have hz20 : w19.heap.size ≤ w20.heap.size := hb20.size
  have B_20 := hideIt (below_trans B_19.out hb20 (by omega))
  have Va_20 := hideIt ((hb20.block _ (by omega)).trans Va_19.out)
  have Vs_20 := hideIt ((hb20.block _ (by omega)).trans Vs_19.out)
  have Vx_20 := hideIt ((hb20.block _ (by omega)).trans Vx_19.out)
  have Vg_20 := hideIt ((hb20.block _ (by omega)).trans Vg_19.out)
  have Rs_20 := hideIt (Rs_19.out.below hb20 (by omega))
  have Rk_20 := hideIt (Rk_19.out.below hb20 (by omega))
  clear B_19 Va_19 Vs_19 Vx_19 Vg_19 Rs_19 Rk_19
  have Rt_20 := hideIt hr20
  clear hr20 hb20
  go_wp2_with fail
  refine (toMicroS_any _ l _ (Rd.below HL.out B_20.out) hll).mono ?_
  rintro e w21 ⟨v21, rfl, hr21, hb21⟩
  obtain ⟨aM21, cM21, rfl⟩ := rdM_form hr21.rd (n := l.length) rfl
  have hz21 : w20.heap.size ≤ w21.heap.size := hb21.size
  have B_21 := hideIt (below_trans B_20.out hb21 (by omega))
  have Va_21 := hideIt ((hb21.block _ (by omega)).trans Va_20.out)
  have Vs_21 := hideIt ((hb21.block _ (by omega)).trans Vs_20.out)
  have Vx_21 := hideIt ((hb21.block _ (by omega)).trans Vx_20.out)
  have Vg_21 := hideIt ((hb21.block _ (by omega)).trans Vg_20.out)
  have Rs_21 := hideIt (Rs_20.out.below hb21 (by omega))
  have Rk_21 := hideIt (Rk_20.out.below hb21 (by omega))
  have Rt_21 := hideIt (Rt_20.out.below hb21 (by omega))
  clear B_20 Va_20 Vs_20 Vx_20 Vg_20 Rs_20 Rk_20 Rt_20
  have T21 := hideIt hr21.rd
  clear hr21 hb21
  go_wp2_with fail
  refine (IC.out _ _ _ (HS.out.below B_21.out) Rt_21.out.rd T21.out).mono ?_
  rintro e w22 ⟨v22, rfl, hr22, hb22⟩
  obtain ⟨aWh, cWh, aPh, cPh, aSh, cSh, aQh, cQh, rfl, -, -⟩ := hr22.rd.form
  clear Rt_21 T21
  have hz22 : w21.heap.size ≤ w22.heap.size := hb22.size
  have B_22 := hideIt (below_trans B_21.out hb22 (by omega))
  have Va_22 := hideIt ((hb22.block _ (by omega)).trans Va_21.out)
  have Vs_22 := hideIt ((hb22.block _ (by omega)).trans Vs_21.out)
  have Vx_22 := hideIt ((hb22.block _ (by omega)).trans Vx_21.out)
  have Vg_22 := hideIt ((hb22.block _ (by omega)).trans Vg_21.out)
  have Rs_22 := hideIt (Rs_21.out.below hb22 (by omega))
  have Rk_22 := hideIt (Rk_21.out.below hb22 (by omega))
  clear B_21 Va_21 Vs_21 Vx_21 Vg_21 Rs_21 Rk_21
  have Rh_22 := hideIt hr22
  clear hr22 hb22
  go_upto_region 32 with fail
  obtain ⟨w23, hw23⟩ : ∃ w23 : World, w23 = w22.alloc (.cells #[.slice aWh W.length cWh, .slice aPh P.length cPh, .slice aSh E4.length cSh, .slice aQh Q.length cQh] 41) := ⟨_, rfl⟩
  rw [← hw23]
  have Vh_23 : Hid (w23.heap[w22.heap.size]? = some (.cells #[.slice aWh W.length cWh, .slice aPh P.length cPh, .slice aSh E4.length cSh, .slice aQh Q.length cQh] 41 (0, 0))) := by rw [hw23]; exact at_new rfl
  have hb23 : Below w22.heap.size w22 w23 := by rw [hw23]; exact (Below.refl _ _).alloc (Nat.le_refl _) _
  have hs23 : w22.heap.size < w23.heap.size := by rw [hw23, World.size_alloc]; exact Nat.lt_succ_self _
  have hz23 : w22.heap.size ≤ w23.heap.size := hb23.size
  have B_23 := hideIt (below_trans B_22.out hb23 (by omega))
  have Va_23 := hideIt ((hb23.block _ (by omega)).trans Va_22.out)
  have Vs_23 := hideIt ((hb23.block _ (by omega)).trans Vs_22.out)
  have Vx_23 := hideIt ((hb23.block _ (by omega)).trans Vx_22.out)
  have Vg_23 := hideIt ((hb23.block _ (by omega)).trans Vg_22.out)
  have Rs_23 := hideIt (Rs_22.out.below hb23 (by omega))
  have Rk_23 := hideIt (Rk_22.out.below hb23 (by omega))
  have Rh_23 := hideIt (Rh_22.out.below hb23 (by omega))
  clear B_22 Va_22 Vs_22 Vx_22 Vg_22 Rs_22 Rk_22 Rh_22
  clear hb23 hw23
  obtain ⟨lh0, lh1, lh2, lh3, -, -, -, -⟩ := four_cells Vh_23.out
  obtain ⟨ls0, ls1, ls2, ls3, -, -, -, -⟩ := four_cells Vs_23.out
  go_wp2_with fail
  refine (eqDevices_same _ _ W P E4 Q _ Rh_23.out.rd Rs_23.out.rd (by omega) (by omega) (by omega) (by omega)).mono ?_
  rintro e w24 ⟨rfl, hb24⟩
  clear lh0 lh1 lh2 lh3 ls0 ls1 ls2 ls3
  have hz24 : w23.heap.size ≤ w24.heap.size := hb24.size
  have B_24 := hideIt (below_trans B_23.out hb24 (by omega))
  have Va_24 := hideIt ((hb24.block _ (by omega)).trans Va_23.out)
  have Vs_24 := hideIt ((hb24.block _ (by omega)).trans Vs_23.out)
  have Vx_24 := hideIt ((hb24.block _ (by omega)).trans Vx_23.out)
  have Vg_24 := hideIt ((hb24.block _ (by omega)).trans Vg_23.out)
  have Vh_24 := hideIt ((hb24.block _ (by omega)).trans Vh_23.out)
  have Rs_24 := hideIt (Rs_23.out.below hb24 (by omega))
  have Rk_24 := hideIt (Rk_23.out.below hb24 (by omega))
  have Rh_24 := hideIt (Rh_23.out.below hb24 (by omega))
  clear B_23 Va_23 Vs_23 Vx_23 Vg_23 Vh_23 Rs_23 Rk_23 Rh_23
  clear hb24
  obtain ⟨lg0, lg1, lg2, lg3, -, -, -, -⟩ := four_cells Vg_24.out
  go_wp2_with fail
  refine (heldDevices_any _ W.length P.length E4.length Q.length 1 _ Rk_24.out.rd (by omega) (by omega) (by omega) (by omega) (by decide) (by decide)).mono ?_
  rintro e w25 ⟨rfl, hb25⟩
  clear lg0 lg1 lg2 lg3
  have B_25 := hideIt (below_trans B_24.out hb25 (by have := B_24.out.size; omega))
  go_wp2
  go_ret
  exact ⟨rfl, B_25.out⟩
end Go.Proofs.YtenadnlgjobmdakDoor
