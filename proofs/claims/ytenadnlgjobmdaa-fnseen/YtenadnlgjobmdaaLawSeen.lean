/- What is seen: the walk of its law. -/
import Derived.Test.YtenadnlgjobmdaaSeenM
import Derived.Test.YtenadnlgjobmdaaPmFlushI
import Derived.Test.YtenadnlgjobmdaaPmFenceI
import Derived.Test.YtenadnlgjobmdaaPmUnsureI
import Derived.Deep.DeepCutAuto
import Derived.Deep.RegionWith
namespace Go.Proofs.Ytenadnlgjobmdaa
open Go.RowKit

set_option maxRecDepth 100000 in
set_option maxHeartbeats 8000000 in
theorem fnSeen_law (vA vB : Value) (cs bs : List Int) (w : World) (hA : RdB w vA cs) (hB : RdB w vB bs) (_ha : cs.length ≤ maxLen) (_hb : bs.length ≤ maxLen) :
    Calls Try.prog 4 #[vA, vB] w fun e w' => e = .returned (.bool true) ∧ Below w.heap.size w w' := by
  obtain ⟨aA, cA, rfl, -⟩ := hA.shape
  obtain ⟨aB, cB, rfl, -⟩ := hB.shape
  have HA := hideIt hA
  have HB := hideIt hB
  clear hA hB
  by_cases c1 : 1048576 < cs.length
  · go_enter Try.func4, Try.ntmps4
    go_wp2
    go_ret
    exact ⟨rfl, Below.refl _ _⟩
  by_cases c2 : 1048576 < bs.length
  · go_enter Try.func4, Try.ntmps4
    go_wp2
    go_ret
    exact ⟨rfl, Below.refl _ _⟩
  go_enter Try.func4, Try.ntmps4
  go_wp2_with fail
  refine (pmOf_any _ cs w HA.out (by omega)).mono ?_
  rintro e w1 ⟨v1, ws, ps, rfl, hP, hr1, hb1⟩
  have P := hideIt hP
  have OK := hideIt (hP.ok (by omega))
  have hwl : ws.length = 336 := hP.len
  have hpl : ps.length ≤ 29 := hP.few
  obtain ⟨vW1, vP1, rfl, hI1, hS1⟩ := hr1.rd
  obtain ⟨aW1, cW1, rfl⟩ := RdI.form hI1 hwl
  obtain ⟨aP1, cP1, rfl⟩ := RdS.form hS1 rfl
  have B_1 := hideIt hb1
  have Rp_1 := hideIt hr1.rd
  have hz1 : w.heap.size ≤ w1.heap.size := hb1.size
  clear hP hr1 hb1 hI1 hS1
  have B_1b := hideIt (B_1.out.alloc (by omega) (.cells #[.slice aW1 336 cW1, .slice aP1 ps.length cP1] 26))
  have Rp_1b := hideIt (Rp_1.out.below ((Below.refl _ _).alloc (Nat.le_refl _) (.cells #[.slice aW1 336 cW1, .slice aP1 ps.length cP1] 26)))
  have Vp_1b : Hid ((w1.alloc (.cells #[.slice aW1 336 cW1, .slice aP1 ps.length cP1] 26)).heap[w1.heap.size]? = some (.cells #[.slice aW1 336 cW1, .slice aP1 ps.length cP1] 26 (0, 0))) := at_new rfl
  clear B_1 Rp_1
  have SO := hideIt (seen_ok OK.out)
  have hlay : (layW ws ps).length = 336 := (layW_len ws ps).trans hwl
  obtain ⟨lp0, lp1, lp2, lp3⟩ := two_cells Vp_1b.out
  go_wp2_with fail
  refine (implPmSeen_any _ ws ps _ Rp_1b.out (by omega) (by omega)).mono ?_
  rw [SO.out.1, SO.out.2]
  rintro e w2 ⟨v2, rfl, hr2, hb2⟩
  obtain ⟨aL2, cL2, rfl⟩ := RdI.form hr2.rd hlay
  have hz2 : w1.heap.size + 1 ≤ w2.heap.size := by have := hb2.size; first | omega | (simp only [World.size_alloc] at this; omega)
  have B_2 := hideIt (below_trans B_1b.out hb2 (by first | omega | (simp only [World.size_alloc]; omega)))
  have Vp_2 := hideIt ((hb2.block _ (by first | omega | (simp only [World.size_alloc]; omega))).trans Vp_1b.out)
  have Rp_2 := hideIt (Rp_1b.out.below hb2)
  clear B_1b Vp_1b Rp_1b
  have Rl_2 : Hid (RdI w2 _ _) := hr2.rd
  clear lp0 lp1 lp2 lp3 hr2 hb2
  obtain ⟨lp0, lp1, lp2, lp3⟩ := two_cells Vp_2.out
  go_wp2_with fail
  refine (specPmSeen_any _ ws ps _ Rp_2.out (by omega) (by omega)).mono ?_
  rw [SO.out.1, SO.out.2]
  rintro e w3 ⟨v3, rfl, hr3, hb3⟩
  obtain ⟨aL3, cL3, rfl⟩ := RdI.form hr3.rd hlay
  have hz3 : w2.heap.size ≤ w3.heap.size := by have := hb3.size; first | omega | (simp only [World.size_alloc] at this; omega)
  have B_3 := hideIt (below_trans B_2.out hb3 (by first | omega | (simp only [World.size_alloc]; omega)))
  have Vp_3 := hideIt ((hb3.block _ (by first | omega | (simp only [World.size_alloc]; omega))).trans Vp_2.out)
  have Rp_3 := hideIt (Rp_2.out.below hb3)
  have Rl_3 := hideIt (Rl_2.out.below hb3)
  clear B_2 Vp_2 Rp_2 Rl_2
  have Rm_3 : Hid (RdI w3 _ _) := hr3.rd
  clear lp0 lp1 lp2 lp3 hr3 hb3
  obtain ⟨lp0, lp1, lp2, lp3⟩ := two_cells Vp_3.out
  go_upto_region 6 with fail
  go_cut [10, 11] (fun s t wx => ∃ (k : Int) (aW aP : Option Addr) (cW cP bx : Nat), t = .int .i64 0 ∧ s = .pointer (some ⟨bx, 0, none⟩) ∧ Hid (CutF w3 wx ws ps k aW aP cW cP bx))
  case first =>
    obtain ⟨q0, q1, _, _⟩ := two_cells (at_old (o := .cells #[.slice none 0 0, .slice none 0 0] 26) Vp_3.out)
    go_region_with (first
      | (go_at_call 8; refine (at_any _ bs 0 _ (HB.out.below (below_trans B_3.out (by repeat (first | exact Below.refl _ _ | refine below_allocS ?_ _ | refine Below.drew ?_)) (by omega))) (by omega) (by omega) (by omega)).mono ?_; rintro e wa ⟨k, rfl, k0, k1, hba⟩; have BA : Hid (Below w3.heap.size w3 wa) := below_trans (b := _) (by repeat (first | exact Below.refl _ _ | refine below_allocS ?_ _ | refine Below.drew ?_)) hba (Below.size (B := w3.heap.size) (by repeat (first | exact Below.refl _ _ | refine below_allocS ?_ _ | refine Below.drew ?_))); have hza : w3.heap.size ≤ wa.heap.size := BA.out.size; (first | (have VX : Hid (wa.heap[w3.heap.size]? = some (.cells #[.slice none 0 0, .slice none 0 0] 26 (0, 0))) := (hba.block w3.heap.size (by first | (rw [World.size_alloc]; exact Nat.lt_succ_self _) | (show _ < (World.alloc _ _).heap.size; rw [World.size_alloc]; exact Nat.lt_succ_self _))).trans (at_new rfl)) | skip); obtain ⟨y1, y2, _, _⟩ := two_cells ((BA.out.block w1.heap.size (by omega)).trans Vp_3.out); obtain ⟨u0, u1, _, _⟩ := two_cells (at_old (o := .cells #[.slice none 0 0, .slice none 0 0] 26) ((BA.out.block w1.heap.size (by omega)).trans Vp_3.out)); clear hba)
      | (go_at_call 12; refine (implPmFlush_any _ ws ps _ _ (Rp_3.out.below (by repeat (first | exact BA.out | exact Below.refl _ _ | refine below_allocS ?_ _ | refine Below.drew ?_))) (by omega) (by omega)).mono ?_; rw [askC_ok OK.out (show placeB k = true from decide_eq_true ⟨k0, k1⟩), show flushWs ws ps k = ws by unfold flushWs; rw [if_pos (askC_ok OK.out (show placeB k = true from decide_eq_true ⟨k0, k1⟩))], show flushPs ws ps k = ps.map (fl1 k) by unfold flushPs; rw [if_pos (askC_ok OK.out (show placeB k = true from decide_eq_true ⟨k0, k1⟩))]]; rintro e wf ⟨vf, rfl, hrf, hbf⟩; obtain ⟨vWf, vPf, rfl, hIf, hSf⟩ := hrf.rd; obtain ⟨aWf, cWf, rfl⟩ := RdI.form hIf hwl; obtain ⟨aPf, cPf, rfl⟩ := RdS.form hSf (n := ps.length) (by simp); have RF := hideIt hrf.rd; have BF : Hid (Below w3.heap.size w3 wf) := below_trans (b := _) (by repeat (first | exact BA.out | exact Below.refl _ _ | refine below_allocS ?_ _ | refine Below.drew ?_)) hbf (Below.size (B := w3.heap.size) (by repeat (first | exact BA.out | exact Below.refl _ _ | refine below_allocS ?_ _ | refine Below.drew ?_))); (first | (have VY : Hid (wf.heap[w3.heap.size]? = some (.cells #[.slice none 0 0, .slice none 0 0] 26 (0, 0))) := (hbf.block w3.heap.size (Array.getElem?_eq_some_iff.1 VX.out).1).trans VX.out; obtain ⟨t1, t2, t3, t4⟩ := two_cells VY.out) | (have VY : Hid (wf.heap[wa.heap.size]? = some (.cells #[.slice none 0 0, .slice none 0 0] 26 (0, 0))) := (hbf.block wa.heap.size (by first | (rw [World.size_alloc]; exact Nat.lt_succ_self _) | (show _ < (World.alloc _ _).heap.size; rw [World.size_alloc]; exact Nat.lt_succ_self _))).trans (at_new rfl); obtain ⟨t1, t2, t3, t4⟩ := two_cells VY.out) | skip); clear hrf hbf hIf hSf))
    all_goals
      go_wp2_with fail
      go_meet
      refine ⟨k, aWf, aPf, cWf, cPf, _, rfl, rfl, ?_⟩
      first
        | exact CutF.new k0 k1 RF.out BF.out
        | exact (CutF.new k0 k1 RF.out BF.out).drew
        | exact CutF.old k0 k1 hwl RF.out BF.out (Nat.le_refl _) VY.out
        | exact (CutF.old k0 k1 hwl RF.out BF.out (Nat.le_refl _) VY.out).drew
        | exact CutF.old k0 k1 hwl RF.out BF.out BA.out.size VY.out
        | exact (CutF.old k0 k1 hwl RF.out BF.out BA.out.size VY.out).drew
  case rest =>
  obtain ⟨k, aWf, aPf, cWf, cPf, bx, rfl, rfl, C⟩ := hcut
  have hb4 := C.out.below
  have hbx := C.out.lo
  have hbx2 := C.out.hi
  clear lp0 lp1 lp2 lp3
  have hz4 : w3.heap.size ≤ wc.heap.size := by have := hb4.size; first | omega | (simp only [World.size_alloc] at this; omega)
  have B_4 := hideIt (below_trans B_3.out hb4 (by first | omega | (simp only [World.size_alloc]; omega)))
  have Vp_4 := hideIt ((hb4.block _ (by first | omega | (simp only [World.size_alloc]; omega))).trans Vp_3.out)
  have Rp_4 := hideIt (Rp_3.out.below hb4)
  have Rl_4 := hideIt (Rl_3.out.below hb4)
  have Rm_4 := hideIt (Rm_3.out.below hb4)
  clear B_3 Vp_3 Rp_3 Rl_3 Rm_3
  have Vf_4 := hideIt C.out.box
  have Rf_4 := hideIt C.out.rd
  have PF := hideIt (P.out.flush k)
  have FO := hideIt (fence_ok (PF.out.ok (by omega)))
  have PS := hideIt PF.out.fence
  have SS := hideIt (seen_ok (PS.out.ok (by omega)))
  have SE := hideIt (seen_same P.out k)
  have hml : (ps.map (fl1 k)).length ≤ 29 := by simpa using hpl
  have hfl : (fenP (ps.map (fl1 k))).length ≤ 29 := Nat.le_trans (fenP_le _) hml
  have hfw : (fenW ws (ps.map (fl1 k))).length = 336 := (fenW_len _ _).trans hwl
  clear hb4 C
  obtain ⟨lf0, lf1, lf2, lf3⟩ := two_cells Vf_4.out
  go_wp2_with fail
  refine (implPmFence_any _ ws (ps.map (fl1 k)) _ Rf_4.out (by omega) (by omega)).mono ?_
  rw [FO.out.1, FO.out.2.1, FO.out.2.2]
  rintro e w5 ⟨v5, rfl, hr5, hb5⟩
  obtain ⟨vW5, vP5, rfl, hI5, hS5⟩ := hr5.rd
  obtain ⟨aW5, cW5, rfl⟩ := RdI.form hI5 hfw
  obtain ⟨aP5, cP5, rfl⟩ := RdS.form hS5 rfl
  have hz5 : wc.heap.size ≤ w5.heap.size := by have := hb5.size; first | omega | (simp only [World.size_alloc] at this; omega)
  have B_5 := hideIt (below_trans B_4.out hb5 (by first | omega | (simp only [World.size_alloc]; omega)))
  have Vp_5 := hideIt ((hb5.block _ (by first | omega | (simp only [World.size_alloc]; omega))).trans Vp_4.out)
  have Vf_5 := hideIt ((hb5.block _ (by first | omega | (simp only [World.size_alloc]; omega))).trans Vf_4.out)
  have Rp_5 := hideIt (Rp_4.out.below hb5)
  have Rl_5 := hideIt (Rl_4.out.below hb5)
  have Rm_5 := hideIt (Rm_4.out.below hb5)
  have Rf_5 := hideIt (Rf_4.out.below hb5)
  clear B_4 Vp_4 Vf_4 Rp_4 Rl_4 Rm_4 Rf_4
  have Rs_5 := hideIt hr5.rd
  clear lf0 lf1 lf2 lf3 hI5 hS5 hr5 hb5
  have B_5b := hideIt (B_5.out.alloc (by omega) (.cells #[.slice aW5 336 cW5, .slice aP5 (fenP (ps.map (fl1 k))).length cP5] 26))
  have Vp_5b := hideIt (at_old (o := .cells #[.slice aW5 336 cW5, .slice aP5 (fenP (ps.map (fl1 k))).length cP5] 26) Vp_5.out)
  have Vf_5b := hideIt (at_old (o := .cells #[.slice aW5 336 cW5, .slice aP5 (fenP (ps.map (fl1 k))).length cP5] 26) Vf_5.out)
  have Rp_5b := hideIt (Rp_5.out.below ((Below.refl _ _).alloc (Nat.le_refl _) (.cells #[.slice aW5 336 cW5, .slice aP5 (fenP (ps.map (fl1 k))).length cP5] 26)))
  have Rl_5b := hideIt (Rl_5.out.below ((Below.refl _ _).alloc (Nat.le_refl _) (.cells #[.slice aW5 336 cW5, .slice aP5 (fenP (ps.map (fl1 k))).length cP5] 26)))
  have Rm_5b := hideIt (Rm_5.out.below ((Below.refl _ _).alloc (Nat.le_refl _) (.cells #[.slice aW5 336 cW5, .slice aP5 (fenP (ps.map (fl1 k))).length cP5] 26)))
  have Rf_5b := hideIt (Rf_5.out.below ((Below.refl _ _).alloc (Nat.le_refl _) (.cells #[.slice aW5 336 cW5, .slice aP5 (fenP (ps.map (fl1 k))).length cP5] 26)))
  have Rs_5b := hideIt (Rs_5.out.below ((Below.refl _ _).alloc (Nat.le_refl _) (.cells #[.slice aW5 336 cW5, .slice aP5 (fenP (ps.map (fl1 k))).length cP5] 26)))
  have Vs_5b : Hid ((w5.alloc (.cells #[.slice aW5 336 cW5, .slice aP5 (fenP (ps.map (fl1 k))).length cP5] 26)).heap[w5.heap.size]? = some (.cells #[.slice aW5 336 cW5, .slice aP5 (fenP (ps.map (fl1 k))).length cP5] 26 (0, 0))) := at_new rfl
  clear B_5 Vp_5 Vf_5 Rp_5 Rl_5 Rm_5 Rf_5 Rs_5
  obtain ⟨ls0, ls1, ls2, ls3⟩ := two_cells Vs_5b.out
  go_wp2_with fail
  refine (implPmSeen_any _ (fenW ws (ps.map (fl1 k))) (fenP (ps.map (fl1 k))) _ Rs_5b.out (by omega) (by omega)).mono ?_
  rw [SS.out.1, SS.out.2, SE.out]
  rintro e w6 ⟨v6, rfl, hr6, hb6⟩
  obtain ⟨aL6, cL6, rfl⟩ := RdI.form hr6.rd hlay
  have hz6 : w5.heap.size + 1 ≤ w6.heap.size := by have := hb6.size; first | omega | (simp only [World.size_alloc] at this; omega)
  have B_6 := hideIt (below_trans B_5b.out hb6 (by first | omega | (simp only [World.size_alloc]; omega)))
  have Vp_6 := hideIt ((hb6.block _ (by first | omega | (simp only [World.size_alloc]; omega))).trans Vp_5b.out)
  have Vf_6 := hideIt ((hb6.block _ (by first | omega | (simp only [World.size_alloc]; omega))).trans Vf_5b.out)
  have Vs_6 := hideIt ((hb6.block _ (by first | omega | (simp only [World.size_alloc]; omega))).trans Vs_5b.out)
  have Rp_6 := hideIt (Rp_5b.out.below hb6)
  have Rl_6 := hideIt (Rl_5b.out.below hb6)
  have Rm_6 := hideIt (Rm_5b.out.below hb6)
  have Rf_6 := hideIt (Rf_5b.out.below hb6)
  have Rs_6 := hideIt (Rs_5b.out.below hb6)
  clear B_5b Vp_5b Vf_5b Vs_5b Rp_5b Rl_5b Rm_5b Rf_5b Rs_5b
  have Rn_6 : Hid (RdI w6 _ _) := hr6.rd
  clear ls0 ls1 ls2 ls3 hr6 hb6
  go_wp2_with fail
  refine (at_any _ bs 1 _ (HB.out.below B_6.out) (by omega) (by omega) (by omega)).mono ?_
  rintro e w7 ⟨q, rfl, q0, q1, hb7⟩
  have hz7 : w6.heap.size ≤ w7.heap.size := by have := hb7.size; first | omega | (simp only [World.size_alloc] at this; omega)
  have B_7 := hideIt (below_trans B_6.out hb7 (by first | omega | (simp only [World.size_alloc]; omega)))
  have Vp_7 := hideIt ((hb7.block _ (by first | omega | (simp only [World.size_alloc]; omega))).trans Vp_6.out)
  have Vf_7 := hideIt ((hb7.block _ (by first | omega | (simp only [World.size_alloc]; omega))).trans Vf_6.out)
  have Vs_7 := hideIt ((hb7.block _ (by first | omega | (simp only [World.size_alloc]; omega))).trans Vs_6.out)
  have Rp_7 := hideIt (Rp_6.out.below hb7)
  have Rl_7 := hideIt (Rl_6.out.below hb7)
  have Rm_7 := hideIt (Rm_6.out.below hb7)
  have Rf_7 := hideIt (Rf_6.out.below hb7)
  have Rs_7 := hideIt (Rs_6.out.below hb7)
  have Rn_7 := hideIt (Rn_6.out.below hb7)
  clear B_6 Vp_6 Vf_6 Vs_6 Rp_6 Rl_6 Rm_6 Rf_6 Rs_6 Rn_6
  clear hb7
  obtain ⟨j, rfl⟩ : ∃ j : Nat, q = j := ⟨q.toNat, by omega⟩
  have hj : j < (layW ws ps).length := by omega
  have LD := hideIt (show loadV ws ps (j : Int) = (layW ws ps)[j] by rw [loadV_ok (askC_ok OK.out (show placeB (j : Int) = true from decide_eq_true ⟨q0, q1⟩)) (by omega), layW_at ps ws j (by omega) (fun p hp => (P.out.store p hp).1.1) hj])
  have AO := hideIt (askC_ok OK.out (show placeB (j : Int) = true from decide_eq_true ⟨q0, q1⟩))
  obtain ⟨lp0, lp1, lp2, lp3⟩ := two_cells Vp_7.out
  go_wp2_with fail
  refine (implPmLoad_any _ ws ps _ _ Rp_7.out (by omega) (by omega)).mono ?_
  rw [LD.out, AO.out]
  rintro e w8 ⟨rfl, hb8⟩
  have hz8 : w7.heap.size ≤ w8.heap.size := by have := hb8.size; first | omega | (simp only [World.size_alloc] at this; omega)
  have B_8 := hideIt (below_trans B_7.out hb8 (by first | omega | (simp only [World.size_alloc]; omega)))
  have Vp_8 := hideIt ((hb8.block _ (by first | omega | (simp only [World.size_alloc]; omega))).trans Vp_7.out)
  have Vf_8 := hideIt ((hb8.block _ (by first | omega | (simp only [World.size_alloc]; omega))).trans Vf_7.out)
  have Vs_8 := hideIt ((hb8.block _ (by first | omega | (simp only [World.size_alloc]; omega))).trans Vs_7.out)
  have Rp_8 := hideIt (Rp_7.out.below hb8)
  have Rl_8 := hideIt (Rl_7.out.below hb8)
  have Rm_8 := hideIt (Rm_7.out.below hb8)
  have Rf_8 := hideIt (Rf_7.out.below hb8)
  have Rs_8 := hideIt (Rs_7.out.below hb8)
  have Rn_8 := hideIt (Rn_7.out.below hb8)
  clear B_7 Vp_7 Vf_7 Vs_7 Rp_7 Rl_7 Rm_7 Rf_7 Rs_7 Rn_7
  clear lp0 lp1 lp2 lp3 hb8
  have UO := hideIt (show seenC ws ps = 0 ∧ unsZ ws ps = unsL ps 336 from ⟨SO.out.1, by unfold unsZ; rw [if_pos OK.out]⟩)
  have hul := unsL_le ps 336
  obtain ⟨lp0, lp1, lp2, lp3⟩ := two_cells Vp_8.out
  go_wp2_with fail
  refine (implPmUnsure_any _ ws ps _ Rp_8.out (by omega) (by omega)).mono ?_
  rw [UO.out.1, UO.out.2]
  rintro e w9 ⟨v9, rfl, hr9, hb9⟩
  obtain ⟨aL9, cL9, rfl⟩ := RdI.form hr9.rd rfl
  have hz9 : w8.heap.size ≤ w9.heap.size := by have := hb9.size; first | omega | (simp only [World.size_alloc] at this; omega)
  have B_9 := hideIt (below_trans B_8.out hb9 (by first | omega | (simp only [World.size_alloc]; omega)))
  have Vp_9 := hideIt ((hb9.block _ (by first | omega | (simp only [World.size_alloc]; omega))).trans Vp_8.out)
  have Vf_9 := hideIt ((hb9.block _ (by first | omega | (simp only [World.size_alloc]; omega))).trans Vf_8.out)
  have Vs_9 := hideIt ((hb9.block _ (by first | omega | (simp only [World.size_alloc]; omega))).trans Vs_8.out)
  have Rp_9 := hideIt (Rp_8.out.below hb9)
  have Rl_9 := hideIt (Rl_8.out.below hb9)
  have Rm_9 := hideIt (Rm_8.out.below hb9)
  have Rf_9 := hideIt (Rf_8.out.below hb9)
  have Rs_9 := hideIt (Rs_8.out.below hb9)
  have Rn_9 := hideIt (Rn_8.out.below hb9)
  clear B_8 Vp_8 Vf_8 Vs_8 Rp_8 Rl_8 Rm_8 Rf_8 Rs_8 Rn_8
  have Ru_9 : Hid (RdI w9 _ _) := hr9.rd
  clear lp0 lp1 lp2 lp3 hr9 hb9
  obtain ⟨lp0, lp1, lp2, lp3⟩ := two_cells Vp_9.out
  go_wp2_with fail
  refine (specPmUnsure_any _ ws ps _ Rp_9.out (by omega) (by omega)).mono ?_
  rw [UO.out.1, UO.out.2]
  rintro e w10 ⟨v10, rfl, hr10, hb10⟩
  obtain ⟨aL10, cL10, rfl⟩ := RdI.form hr10.rd rfl
  have hz10 : w9.heap.size ≤ w10.heap.size := by have := hb10.size; first | omega | (simp only [World.size_alloc] at this; omega)
  have B_10 := hideIt (below_trans B_9.out hb10 (by first | omega | (simp only [World.size_alloc]; omega)))
  have Vp_10 := hideIt ((hb10.block _ (by first | omega | (simp only [World.size_alloc]; omega))).trans Vp_9.out)
  have Vf_10 := hideIt ((hb10.block _ (by first | omega | (simp only [World.size_alloc]; omega))).trans Vf_9.out)
  have Vs_10 := hideIt ((hb10.block _ (by first | omega | (simp only [World.size_alloc]; omega))).trans Vs_9.out)
  have Rp_10 := hideIt (Rp_9.out.below hb10)
  have Rl_10 := hideIt (Rl_9.out.below hb10)
  have Rm_10 := hideIt (Rm_9.out.below hb10)
  have Rf_10 := hideIt (Rf_9.out.below hb10)
  have Rs_10 := hideIt (Rs_9.out.below hb10)
  have Rn_10 := hideIt (Rn_9.out.below hb10)
  have Ru_10 := hideIt (Ru_9.out.below hb10)
  clear B_9 Vp_9 Vf_9 Vs_9 Rp_9 Rl_9 Rm_9 Rf_9 Rs_9 Rn_9 Ru_9
  have Rt_10 : Hid (RdI w10 _ _) := hr10.rd
  clear lp0 lp1 lp2 lp3 hr10 hb10
  obtain ⟨ao, cap, e', -, hc'⟩ := RdI.shape Rl_10.out
  simp only [Value.slice.injEq] at e'
  obtain ⟨rfl, he', rfl⟩ := e'
  obtain ⟨bl, ol, rfl, hbl10, hcl⟩ := hc' (by omega)
  have X0 := hideIt (hcl j hj)
  have j1 : (j : Int) < 336 := by omega
  have j0 : (0 : Int) ≤ (j : Int) := by omega
  clear hc' hcl he'
  clear LD
  generalize (layW ws ps)[j] = yv at *
  clear Vp_10 Vf_10 Vs_10 Rp_10 Rf_10 Rs_10 HA HB P OK SO PF FO PS SS SE AO UO
  have zz10 : w.heap.size ≤ w10.heap.size := B_10.out.size
  clear hz1 hz2 hz3 hz4 hz5 hz6 hz7 hz8 hz9 hz10 hbx hbx2 hml hfl hfw
  have X_10 := X0
  clear X0
  go_wp2_with fail
  refine (sameInts_same _ _ (layW ws ps) _ Rl_10.out Rm_10.out (by omega)).mono ?_
  rintro e w11 ⟨rfl, hb11⟩
  have B_11 := hideIt (below_trans B_10.out hb11 zz10)
  have zz11 := Nat.le_trans zz10 hb11.size
  have Rl_11 := hideIt (Rl_10.out.below hb11)
  have Rm_11 := hideIt (Rm_10.out.below hb11)
  have Rn_11 := hideIt (Rn_10.out.below hb11)
  have Ru_11 := hideIt (Ru_10.out.below hb11)
  have Rt_11 := hideIt (Rt_10.out.below hb11)
  have X_11 := hideIt ((hb11.cell (p := ⟨bl, ol + j, none⟩) hbl10).trans X_10.out)
  have hbl11 := Nat.lt_of_lt_of_le hbl10 hb11.size
  clear zz10 hbl10 hb11 X_10 B_10 Rl_10 Rm_10 Rn_10 Ru_10 Rt_10
  go_wp2_with fail
  refine (sameInts_same _ _ (layW ws ps) _ Rn_11.out Rl_11.out (by omega)).mono ?_
  rintro e w12 ⟨rfl, hb12⟩
  have B_12 := hideIt (below_trans B_11.out hb12 zz11)
  have zz12 := Nat.le_trans zz11 hb12.size
  have Rl_12 := hideIt (Rl_11.out.below hb12)
  have Rm_12 := hideIt (Rm_11.out.below hb12)
  have Rn_12 := hideIt (Rn_11.out.below hb12)
  have Ru_12 := hideIt (Ru_11.out.below hb12)
  have Rt_12 := hideIt (Rt_11.out.below hb12)
  have X_12 := hideIt ((hb12.cell (p := ⟨bl, ol + j, none⟩) hbl11).trans X_11.out)
  have hbl12 := Nat.lt_of_lt_of_le hbl11 hb12.size
  clear zz11 hbl11 hb12 X_11 B_11 Rl_11 Rm_11 Rn_11 Ru_11 Rt_11
  have x0 := X_12.out
  go_wp2_with fail
  refine (sameInts_same _ _ (unsL ps 336) _ Ru_12.out Rt_12.out (by omega)).mono ?_
  rintro e w13 ⟨rfl, hb13⟩
  have B_13 := hideIt (below_trans B_12.out hb13 zz12)
  have zz13 := Nat.le_trans zz12 hb13.size
  have Rl_13 := hideIt (Rl_12.out.below hb13)
  have Rm_13 := hideIt (Rm_12.out.below hb13)
  have Rn_13 := hideIt (Rn_12.out.below hb13)
  have Ru_13 := hideIt (Ru_12.out.below hb13)
  have Rt_13 := hideIt (Rt_12.out.below hb13)
  have X_13 := hideIt ((hb13.cell (p := ⟨bl, ol + j, none⟩) hbl12).trans X_12.out)
  have hbl13 := Nat.lt_of_lt_of_le hbl12 hb13.size
  clear zz12 hbl12 hb13 X_12 B_12 Rl_12 Rm_12 Rn_12 Ru_12 Rt_12
  go_wp2
  go_ret
  exact ⟨rfl, B_13.out⟩
end Go.Proofs.Ytenadnlgjobmdaa
