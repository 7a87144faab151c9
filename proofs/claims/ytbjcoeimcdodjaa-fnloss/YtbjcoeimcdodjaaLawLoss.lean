/- What a crash takes away: the walk of its law. -/
import Derived.Test.YtbjcoeimcdodjaaLossM
import Derived.Deep.DeepCutAuto
import Derived.Deep.RegionWith
namespace Go.Proofs.Ytbjcoeimcdodjaa
open Go.RowKit
set_option maxRecDepth 100000 in
set_option maxHeartbeats 4000000 in
theorem fnLoss_law (vA vB : Value) (cs bs : List Int) (w : World) (hA : RdB w vA cs) (hB : RdB w vB bs) (_ha : cs.length ≤ maxLen) (_hb : bs.length ≤ maxLen) :
    Calls Try.prog 4 #[vA, vB] w fun e w' => e = .returned (.bool true) ∧ Below w.heap.size w w' := by
  obtain ⟨aA, cA, rfl, -⟩ := hA.shape
  obtain ⟨aB, cB, rfl, -⟩ := hB.shape
  have HA := hideIt hA
  have HB := hideIt hB
  clear hA hB
  by_cases ccs : 1048576 < cs.length
  · go_enter Try.func4, Try.ntmps4
    go_wp2
    go_ret
    exact ⟨rfl, Below.refl _ _⟩
  by_cases cbs : 1048576 < bs.length
  · go_enter Try.func4, Try.ntmps4
    go_wp2
    go_ret
    exact ⟨rfl, Below.refl _ _⟩
  go_enter Try.func4, Try.ntmps4
  go_wp2_with fail
  refine (pmOf_any _ cs w HA.out (by omega)).mono ?_
  rintro e w1 ⟨v1, ws, ps, rfl, hP, hr1, hb1⟩
  have P := hideIt hP
  have OK := hideIt (hP.ok (by omega))
  have hwl : ws.length = 336 := hP.len
  have hpl : ps.length ≤ 29 := hP.few
  obtain ⟨vW1, vP1, rfl, hI1, hS1⟩ := hr1.rd
  obtain ⟨aW1, cW1, rfl⟩ := RdI.form hI1 hwl
  obtain ⟨aP1, cP1, rfl⟩ := RdS.form hS1 rfl
  have B_1 := hideIt hb1
  have Rp_1 := hideIt hr1.rd
  have hz1 : w.heap.size ≤ w1.heap.size := hb1.size
  clear hP hr1 hb1 hI1 hS1
  have B_1b := hideIt (B_1.out.alloc (by first | omega | (simp only [World.size_alloc]; omega)) (.cells #[.slice aW1 336 cW1, .slice aP1 ps.length cP1] 26))
  have Rp_1b := hideIt (Rp_1.out.below ((Below.refl _ _).alloc (Nat.le_refl _) (.cells #[.slice aW1 336 cW1, .slice aP1 ps.length cP1] 26)))
  clear B_1 Rp_1
  have Vp_1b : Hid ((w1.alloc (.cells #[.slice aW1 336 cW1, .slice aP1 ps.length cP1] 26)).heap[w1.heap.size]? = some (.cells #[.slice aW1 336 cW1, .slice aP1 ps.length cP1] 26 (0, 0))) := at_new rfl
  go_upto_region 4 with fail
  obtain ⟨w2, hw2⟩ : ∃ w2 : World, w2 = w1.alloc (.cells #[.slice aW1 336 cW1, .slice aP1 ps.length cP1] 26) := ⟨_, rfl⟩
  rw [← hw2]
  have hz2 : w1.heap.size + 1 ≤ w2.heap.size := by rw [hw2]; simp
  have B_2 := B_1b
  rw [← hw2] at B_2
  have Vp_2 := Vp_1b
  rw [← hw2] at Vp_2
  have Rp_2 := Rp_1b
  rw [← hw2] at Rp_2
  clear hw2 B_1b Vp_1b Rp_1b
  have hkz := keepZ_len bs
  have CO := hideIt (crash_ok OK.out (keepZ_B bs) (by omega))
  have CO0 := hideIt (crash_ok OK.out (zs := [0]) (keepsB_mk (fun k hk => by simp)) (by simp))
  have CO4 := hideIt (crash_ok OK.out (zs := [400]) (keepsB_mk (fun k hk => by simp)) (by simp))
  have E0 := hideIt (crW_none ws ps)
  have E4 := hideIt (crW_all P.out (by omega))
  have FINE := hideIt (crW_fine ws ps (keepZ bs))
  have hcl : (crW ws ps (keepZ bs)).length = 336 := crW_len.trans hwl
  have hlay : (layW ws ps).length = 336 := (layW_len ws ps).trans hwl
  generalize hX : crW ws ps (keepZ bs) = X at *
  clear hX
  obtain ⟨ls0, ls1, ls2, ls3⟩ := two_cells Vp_2.out
  go_cut [6, 7] (fun s t wx => ∃ (aW aP : Option Addr) (cW cP bx : Nat), t = .int .i64 0 ∧ s = .pointer (some ⟨bx, 0, none⟩) ∧ Hid (CutC w2 wx X aW aP cW cP bx))
  case first =>
    obtain ⟨q2, q3, _, _⟩ := two_cells (at_old (o := .cells #[.slice none 0 0, .slice none 0 0] 26) Vp_2.out)
    go_region_with (first
      | (go_at_call 14; refine (keepsOf_any _ bs _ (HB.out.below (below_trans B_2.out (by repeat (first | exact Below.refl _ _ | refine below_allocS ?_ _ | refine Below.drew ?_)) (by omega))) (by omega)).mono ?_; rintro e wa ⟨va, rfl, hra, hba⟩; obtain ⟨aZ, cZ, rfl⟩ := RdI.form hra.rd rfl; have RZ := hideIt hra.rd; have BA : Hid (Below w2.heap.size w2 wa) := below_trans (b := _) (by repeat (first | exact Below.refl _ _ | refine below_allocS ?_ _ | refine Below.drew ?_)) hba (Below.size (B := w2.heap.size) (by repeat (first | exact Below.refl _ _ | refine below_allocS ?_ _ | refine Below.drew ?_))); have hza : w2.heap.size ≤ wa.heap.size := BA.out.size; (first | (have VX : Hid (wa.heap[w2.heap.size]? = some (.cells #[.slice none 0 0, .slice none 0 0] 26 (0, 0))) := (hba.block w2.heap.size (by first | (rw [World.size_alloc]; exact Nat.lt_succ_self _) | (show _ < (World.alloc _ _).heap.size; rw [World.size_alloc]; exact Nat.lt_succ_self _))).trans (at_new rfl)) | skip); obtain ⟨y1, y2, _, _⟩ := two_cells ((BA.out.block w1.heap.size (by omega)).trans Vp_2.out); obtain ⟨u0, u1, _, _⟩ := two_cells (at_old (o := .cells #[.slice none 0 0, .slice none 0 0] 26) ((BA.out.block w1.heap.size (by omega)).trans Vp_2.out)); clear hra hba)
      | (go_at_call 13; refine (implPmCrash_any _ _ ws ps (keepZ bs) _ (Rp_2.out.below (by repeat (first | exact BA.out | exact Below.refl _ _ | refine below_allocS ?_ _ | refine Below.drew ?_))) (by first | exact RZ.out | exact Rd.below RZ.out (by repeat (first | exact Below.refl _ _ | refine below_allocS ?_ _ | refine Below.drew ?_))) (by omega) (by omega) (by omega)).mono ?_; rw [CO.out.1, CO.out.2]; rintro e wf ⟨vf, rfl, hrf, hbf⟩; obtain ⟨vWf, vPf, rfl, hIf, hSf⟩ := hrf.rd; obtain ⟨aWf, cWf, rfl⟩ := RdI.form hIf hcl; obtain ⟨aPf, cPf, rfl⟩ := RdS.form hSf (n := 0) rfl; have RF := hideIt hrf.rd; have BF : Hid (Below w2.heap.size w2 wf) := below_trans (b := _) (by repeat (first | exact BA.out | exact Below.refl _ _ | refine below_allocS ?_ _ | refine Below.drew ?_)) hbf (Below.size (B := w2.heap.size) (by repeat (first | exact BA.out | exact Below.refl _ _ | refine below_allocS ?_ _ | refine Below.drew ?_))); (first | (have VY : Hid (wf.heap[w2.heap.size]? = some (.cells #[.slice none 0 0, .slice none 0 0] 26 (0, 0))) := (hbf.block w2.heap.size (Array.getElem?_eq_some_iff.1 VX.out).1).trans VX.out; obtain ⟨t1, t2, t3, t4⟩ := two_cells VY.out) | (have VY : Hid (wf.heap[wa.heap.size]? = some (.cells #[.slice none 0 0, .slice none 0 0] 26 (0, 0))) := (hbf.block wa.heap.size (by first | (rw [World.size_alloc]; exact Nat.lt_succ_self _) | (show _ < (World.alloc _ _).heap.size; rw [World.size_alloc]; exact Nat.lt_succ_self _))).trans (at_new rfl); obtain ⟨t1, t2, t3, t4⟩ := two_cells VY.out) | skip); clear hrf hbf hIf hSf))
    all_goals
      go_wp2_with fail
      go_meet
      refine ⟨aWf, aPf, cWf, cPf, _, rfl, rfl, ?_⟩
      first
        | exact CutC.new RF.out BF.out
        | exact (CutC.new RF.out BF.out).drew
        | exact CutC.old hcl RF.out BF.out (Nat.le_refl _) VY.out
        | exact (CutC.old hcl RF.out BF.out (Nat.le_refl _) VY.out).drew
        | exact CutC.old hcl RF.out BF.out BA.out.size VY.out
        | exact (CutC.old hcl RF.out BF.out BA.out.size VY.out).drew
  case rest =>
  clear ls0 ls1 ls2 ls3
  obtain ⟨aWx, aPx, cWx, cPx, bx, rfl, rfl, C⟩ := hcut
  have hb3 := C.out.below
  have hbx := C.out.lo
  have hbx2 := C.out.hi
  have hz3 : w2.heap.size + 0 ≤ wc.heap.size := by have := hb3.size; first | omega | (simp only [World.size_alloc] at this; omega)
  have B_3 := hideIt (below_trans B_2.out hb3 (by first | omega | (simp only [World.size_alloc]; omega)))
  have Vp_3 := hideIt ((hb3.block _ (by first | omega | (simp only [World.size_alloc]; omega))).trans Vp_2.out)
  have Rp_3 := hideIt (Rp_2.out.below hb3)
  clear B_2 Vp_2 Rp_2
  have Vx_3 := hideIt C.out.box
  have Rx_3 := hideIt C.out.rd
  clear hb3 C CO
  obtain ⟨lp0, lp1, lp2, lp3⟩ := two_cells Vp_3.out
  have B_3b := hideIt (B_3.out.alloc (by first | omega | (simp only [World.size_alloc]; omega)) (.cells #[.int .i64 0] 3))
  have Vp_3b := hideIt (at_old (o := .cells #[.int .i64 0] 3) Vp_3.out)
  have Vx_3b := hideIt (at_old (o := .cells #[.int .i64 0] 3) Vx_3.out)
  have Rp_3b := hideIt (Rp_3.out.below ((Below.refl _ _).alloc (Nat.le_refl _) (.cells #[.int .i64 0] 3)))
  have Rx_3b := hideIt (Rx_3.out.below ((Below.refl _ _).alloc (Nat.le_refl _) (.cells #[.int .i64 0] 3)))
  clear B_3 Vp_3 Vx_3 Rp_3 Rx_3
  have RZ : Hid (RdI (wc.alloc (.cells #[.int .i64 0] 3)) (.slice (some ⟨wc.heap.size, 0, none⟩) 1 1) [0]) := by
    have h := rd_int wc 0
    exact h
  go_wp2_with fail
  refine (implPmCrash_any _ _ ws ps [0] _ Rp_3b.out RZ.out (by omega) (by omega) (by simp)).mono ?_
  rw [CO0.out.1, CO0.out.2, E0.out]
  rintro e w4 ⟨v4, rfl, hr4, hb4⟩
  obtain ⟨vW4, vP4, rfl, hI4, hS4⟩ := hr4.rd
  obtain ⟨aW4, cW4, rfl⟩ := RdI.form hI4 hwl
  obtain ⟨aP4, cP4, rfl⟩ := RdS.form hS4 (n := 0) rfl
  clear lp0 lp1 lp2 lp3
  have hz4 : wc.heap.size + 1 ≤ w4.heap.size := by have := hb4.size; first | omega | (simp only [World.size_alloc] at this; omega)
  have B_4 := hideIt (below_trans B_3b.out hb4 (by first | omega | (simp only [World.size_alloc]; omega)))
  have Vp_4 := hideIt ((hb4.block _ (by first | omega | (simp only [World.size_alloc]; omega))).trans Vp_3b.out)
  have Vx_4 := hideIt ((hb4.block _ (by first | omega | (simp only [World.size_alloc]; omega))).trans Vx_3b.out)
  have Rp_4 := hideIt (Rp_3b.out.below hb4)
  have Rx_4 := hideIt (Rx_3b.out.below hb4)
  clear B_3b Vp_3b Vx_3b Rp_3b Rx_3b
  have Rn_4 := hideIt hr4.rd
  clear hI4 hS4 hr4 hb4 CO0 E0 RZ
  have B_4b := hideIt (B_4.out.alloc (by first | omega | (simp only [World.size_alloc]; omega)) (.cells #[.slice aW4 336 cW4, .slice aP4 0 cP4] 26))
  have Vp_4b := hideIt (at_old (o := .cells #[.slice aW4 336 cW4, .slice aP4 0 cP4] 26) Vp_4.out)
  have Vx_4b := hideIt (at_old (o := .cells #[.slice aW4 336 cW4, .slice aP4 0 cP4] 26) Vx_4.out)
  have Rp_4b := hideIt (Rp_4.out.below ((Below.refl _ _).alloc (Nat.le_refl _) (.cells #[.slice aW4 336 cW4, .slice aP4 0 cP4] 26)))
  have Rx_4b := hideIt (Rx_4.out.below ((Below.refl _ _).alloc (Nat.le_refl _) (.cells #[.slice aW4 336 cW4, .slice aP4 0 cP4] 26)))
  have Rn_4b := hideIt (Rn_4.out.below ((Below.refl _ _).alloc (Nat.le_refl _) (.cells #[.slice aW4 336 cW4, .slice aP4 0 cP4] 26)))
  clear B_4 Vp_4 Vx_4 Rp_4 Rx_4 Rn_4
  have Vn_4b : Hid ((w4.alloc (.cells #[.slice aW4 336 cW4, .slice aP4 0 cP4] 26)).heap[w4.heap.size]? = some (.cells #[.slice aW4 336 cW4, .slice aP4 0 cP4] 26 (0, 0))) := at_new rfl
  obtain ⟨lp0, lp1, lp2, lp3⟩ := two_cells Vp_4b.out
  have B_4bb := hideIt (B_4b.out.alloc (by first | omega | (simp only [World.size_alloc]; omega)) (.cells #[.int .i64 400] 3))
  have Vp_4bb := hideIt (at_old (o := .cells #[.int .i64 400] 3) Vp_4b.out)
  have Vx_4bb := hideIt (at_old (o := .cells #[.int .i64 400] 3) Vx_4b.out)
  have Vn_4bb := hideIt (at_old (o := .cells #[.int .i64 400] 3) Vn_4b.out)
  have Rp_4bb := hideIt (Rp_4b.out.below ((Below.refl _ _).alloc (Nat.le_refl _) (.cells #[.int .i64 400] 3)))
  have Rx_4bb := hideIt (Rx_4b.out.below ((Below.refl _ _).alloc (Nat.le_refl _) (.cells #[.int .i64 400] 3)))
  have Rn_4bb := hideIt (Rn_4b.out.below ((Below.refl _ _).alloc (Nat.le_refl _) (.cells #[.int .i64 400] 3)))
  clear B_4b Vp_4b Vx_4b Vn_4b Rp_4b Rx_4b Rn_4b
  have RZ : Hid (RdI ((w4.alloc (.cells #[.slice aW4 336 cW4, .slice aP4 0 cP4] 26)).alloc (.cells #[.int .i64 400] 3)) (.slice (some ⟨w4.heap.size + 1, 0, none⟩) 1 1) [400]) := by
    have h := rd_int (w4.alloc (.cells #[.slice aW4 336 cW4, .slice aP4 0 cP4] 26)) 400
    rw [World.size_alloc] at h
    exact h
  go_wp2_with fail
  refine (implPmCrash_any _ _ ws ps [400] _ Rp_4bb.out RZ.out (by omega) (by omega) (by simp)).mono ?_
  rw [CO4.out.1, CO4.out.2, E4.out]
  rintro e w6 ⟨v6, rfl, hr6, hb6⟩
  obtain ⟨vW6, vP6, rfl, hI6, hS6⟩ := hr6.rd
  obtain ⟨aW6, cW6, rfl⟩ := RdI.form hI6 hlay
  obtain ⟨aP6, cP6, rfl⟩ := RdS.form hS6 (n := 0) rfl
  clear lp0 lp1 lp2 lp3
  have hz6 : w4.heap.size + 2 ≤ w6.heap.size := by have := hb6.size; first | omega | (simp only [World.size_alloc] at this; omega)
  have B_6 := hideIt (below_trans B_4bb.out hb6 (by first | omega | (simp only [World.size_alloc]; omega)))
  have Vp_6 := hideIt ((hb6.block _ (by first | omega | (simp only [World.size_alloc]; omega))).trans Vp_4bb.out)
  have Vx_6 := hideIt ((hb6.block _ (by first | omega | (simp only [World.size_alloc]; omega))).trans Vx_4bb.out)
  have Vn_6 := hideIt ((hb6.block _ (by first | omega | (simp only [World.size_alloc]; omega))).trans Vn_4bb.out)
  have Rp_6 := hideIt (Rp_4bb.out.below hb6)
  have Rx_6 := hideIt (Rx_4bb.out.below hb6)
  have Rn_6 := hideIt (Rn_4bb.out.below hb6)
  clear B_4bb Vp_4bb Vx_4bb Vn_4bb Rp_4bb Rx_4bb Rn_4bb
  have Rl_6 := hideIt hr6.rd
  clear hI6 hS6 hr6 hb6 CO4 E4 RZ
  have B_6b := hideIt (B_6.out.alloc (by first | omega | (simp only [World.size_alloc]; omega)) (.cells #[.slice aW6 336 cW6, .slice aP6 0 cP6] 26))
  have Vp_6b := hideIt (at_old (o := .cells #[.slice aW6 336 cW6, .slice aP6 0 cP6] 26) Vp_6.out)
  have Vx_6b := hideIt (at_old (o := .cells #[.slice aW6 336 cW6, .slice aP6 0 cP6] 26) Vx_6.out)
  have Vn_6b := hideIt (at_old (o := .cells #[.slice aW6 336 cW6, .slice aP6 0 cP6] 26) Vn_6.out)
  have Rp_6b := hideIt (Rp_6.out.below ((Below.refl _ _).alloc (Nat.le_refl _) (.cells #[.slice aW6 336 cW6, .slice aP6 0 cP6] 26)))
  have Rx_6b := hideIt (Rx_6.out.below ((Below.refl _ _).alloc (Nat.le_refl _) (.cells #[.slice aW6 336 cW6, .slice aP6 0 cP6] 26)))
  have Rn_6b := hideIt (Rn_6.out.below ((Below.refl _ _).alloc (Nat.le_refl _) (.cells #[.slice aW6 336 cW6, .slice aP6 0 cP6] 26)))
  have Rl_6b := hideIt (Rl_6.out.below ((Below.refl _ _).alloc (Nat.le_refl _) (.cells #[.slice aW6 336 cW6, .slice aP6 0 cP6] 26)))
  clear B_6 Vp_6 Vx_6 Vn_6 Rp_6 Rx_6 Rn_6 Rl_6
  have Vl_6b : Hid ((w6.alloc (.cells #[.slice aW6 336 cW6, .slice aP6 0 cP6] 26)).heap[w6.heap.size]? = some (.cells #[.slice aW6 336 cW6, .slice aP6 0 cP6] 26 (0, 0))) := at_new rfl
  have SO := hideIt (seen_ok OK.out)
  obtain ⟨lp0, lp1, lp2, lp3⟩ := two_cells Vp_6b.out
  go_wp2_with fail
  refine (implPmSeen_any _ ws ps _ Rp_6b.out (by omega) (by omega)).mono ?_
  rw [SO.out.1, SO.out.2]
  rintro e w8 ⟨v8, rfl, hr8, hb8⟩
  obtain ⟨aL8, cL8, rfl⟩ := RdI.form hr8.rd hlay
  have hz8 : w6.heap.size + 1 ≤ w8.heap.size := by have := hb8.size; first | omega | (simp only [World.size_alloc] at this; omega)
  have B_8 := hideIt (below_trans B_6b.out hb8 (by first | omega | (simp only [World.size_alloc]; omega)))
  have Vp_8 := hideIt ((hb8.block _ (by first | omega | (simp only [World.size_alloc]; omega))).trans Vp_6b.out)
  have Vx_8 := hideIt ((hb8.block _ (by first | omega | (simp only [World.size_alloc]; omega))).trans Vx_6b.out)
  have Vn_8 := hideIt ((hb8.block _ (by first | omega | (simp only [World.size_alloc]; omega))).trans Vn_6b.out)
  have Vl_8 := hideIt ((hb8.block _ (by first | omega | (simp only [World.size_alloc]; omega))).trans Vl_6b.out)
  have Rp_8 := hideIt (Rp_6b.out.below hb8)
  have Rx_8 := hideIt (Rx_6b.out.below hb8)
  have Rn_8 := hideIt (Rn_6b.out.below hb8)
  have Rl_8 := hideIt (Rl_6b.out.below hb8)
  clear B_6b Vp_6b Vx_6b Vn_6b Vl_6b Rp_6b Rx_6b Rn_6b Rl_6b
  have Rq_8 : Hid (RdI w8 _ _) := hr8.rd
  clear lp0 lp1 lp2 lp3 hr8 hb8 SO HA HB P OK
  obtain ⟨ln0, ln1, ln2, ln3⟩ := two_cells Vn_8.out
  obtain ⟨lp0, lp1, lp2, lp3⟩ := two_cells Vp_8.out
  go_wp2_with fail
  refine (sameInts_same _ _ ws _ (RdPm.words Rn_8.out) (RdPm.words Rp_8.out) (by omega)).mono ?_
  rintro e w9 ⟨rfl, hb9⟩
  have hz9 : w8.heap.size + 0 ≤ w9.heap.size := by have := hb9.size; first | omega | (simp only [World.size_alloc] at this; omega)
  have B_9 := hideIt (below_trans B_8.out hb9 (by first | omega | (simp only [World.size_alloc]; omega)))
  have Vp_9 := hideIt ((hb9.block _ (by first | omega | (simp only [World.size_alloc]; omega))).trans Vp_8.out)
  have Vx_9 := hideIt ((hb9.block _ (by first | omega | (simp only [World.size_alloc]; omega))).trans Vx_8.out)
  have Vn_9 := hideIt ((hb9.block _ (by first | omega | (simp only [World.size_alloc]; omega))).trans Vn_8.out)
  have Vl_9 := hideIt ((hb9.block _ (by first | omega | (simp only [World.size_alloc]; omega))).trans Vl_8.out)
  have Rp_9 := hideIt (Rp_8.out.below hb9)
  have Rx_9 := hideIt (Rx_8.out.below hb9)
  have Rn_9 := hideIt (Rn_8.out.below hb9)
  have Rl_9 := hideIt (Rl_8.out.below hb9)
  have Rq_9 := hideIt (Rq_8.out.below hb9)
  clear B_8 Vp_8 Vx_8 Vn_8 Vl_8 Rp_8 Rx_8 Rn_8 Rl_8 Rq_8
  clear ln0 ln1 ln2 ln3 lp0 lp1 lp2 lp3 hb9
  obtain ⟨ll0, ll1, ll2, ll3⟩ := two_cells Vl_9.out
  go_wp2_with fail
  refine (sameInts_same _ _ (layW ws ps) _ (RdPm.words Rl_9.out) Rq_9.out (by omega)).mono ?_
  rintro e w10 ⟨rfl, hb10⟩
  have hz10 : w9.heap.size + 0 ≤ w10.heap.size := by have := hb10.size; first | omega | (simp only [World.size_alloc] at this; omega)
  have B_10 := hideIt (below_trans B_9.out hb10 (by first | omega | (simp only [World.size_alloc]; omega)))
  have Vp_10 := hideIt ((hb10.block _ (by first | omega | (simp only [World.size_alloc]; omega))).trans Vp_9.out)
  have Vx_10 := hideIt ((hb10.block _ (by first | omega | (simp only [World.size_alloc]; omega))).trans Vx_9.out)
  have Vn_10 := hideIt ((hb10.block _ (by first | omega | (simp only [World.size_alloc]; omega))).trans Vn_9.out)
  have Vl_10 := hideIt ((hb10.block _ (by first | omega | (simp only [World.size_alloc]; omega))).trans Vl_9.out)
  have Rp_10 := hideIt (Rp_9.out.below hb10)
  have Rx_10 := hideIt (Rx_9.out.below hb10)
  have Rn_10 := hideIt (Rn_9.out.below hb10)
  have Rl_10 := hideIt (Rl_9.out.below hb10)
  have Rq_10 := hideIt (Rq_9.out.below hb10)
  clear B_9 Vp_9 Vx_9 Vn_9 Vl_9 Rp_9 Rx_9 Rn_9 Rl_9 Rq_9
  clear ll0 ll1 ll2 ll3 hb10
  obtain ⟨lx0, lx1, lx2, lx3⟩ := two_cells Vx_10.out
  have zz : w.heap.size ≤ w10.heap.size := B_10.out.size
  have px : bx < w10.heap.size := by omega
  have pp : w1.heap.size < w10.heap.size := by omega
  clear Vn_10 Vl_10 Rn_10 Rl_10 Rq_10 hz1 hz2 hz3 hz4 hz6 hz8 hz9 hz10 hbx hbx2 hkz
  go_wp2
  clear lx0 lx1 lx2 lx3
  obtain ⟨ax, kx, ex, -, hx⟩ := RdI.shape (RdPm.words Rx_10.out)
  simp only [Value.slice.injEq] at ex
  obtain ⟨rfl, -, rfl⟩ := ex
  obtain ⟨b1, o1, rfl, hb1, hc1⟩ := hx (by omega)
  obtain ⟨aw, kw, ew, -, hw⟩ := RdI.shape (RdPm.words Rp_10.out)
  simp only [Value.slice.injEq] at ew
  obtain ⟨rfl, -, rfl⟩ := ew
  obtain ⟨b2, o2, rfl, hb2, hc2⟩ := hw (by omega)
  obtain ⟨ap, kp, ep, -, hp⟩ := RdS.shape (RdPm.pend Rp_10.out)
  simp only [Value.slice.injEq] at ep
  obtain ⟨rfl, -, rfl⟩ := ep
  have C1 := hideIt hc1
  have C2 := hideIt hc2
  have C3 := hideIt hp
  clear hx hc1 hw hc2 hp Rx_10 Rp_10
  go_loopw [14, 15, 16] (fun ii _ _ wr => ∃ i : Nat, i ≤ 336 ∧ ii = .int .i64 i ∧ Hid (Below w10.heap.size w10 wr)) (fun ii _ _ _ => 336 - (intOf ii).toNat)
  case atStart => exact ⟨0, by omega, rfl, Below.refl _ _⟩
  case round =>
    obtain ⟨i, hi, rfl, HW⟩ := hrel
    by_cases hlt : i < 336
    · have l0 : (0 : Int) ≤ (i : Int) := by omega
      have l1 : (i : Int) < 336 := by omega
      have iX : i < X.length := by omega
      have iW : i < ws.length := by omega
      obtain ⟨vx0, vx1, -, -⟩ := two_cells ((HW.out.block bx px).trans Vx_10.out)
      obtain ⟨vp0, vp1, -, -⟩ := two_cells ((HW.out.block w1.heap.size pp).trans Vp_10.out)
      have cx := (HW.out.cell (p := ⟨b1, o1 + i, none⟩) hb1).trans (C1.out i iX)
      have cw := (HW.out.cell (p := ⟨b2, o2 + i, none⟩) hb2).trans (C2.out i iW)
      have FI := hideIt (FINE.out i iW iX)
      have CX := hideIt (C1.out i iX)
      generalize X[i] = xv at *
      generalize ws[i] = dv at *
      go_wp2
      go_quiet (fail)
      go_wp2
      clear vx0 vx1 vp0 vp1 cx cw
      go_loopw [15, 16] (fun f kk wr2 => ∃ k : Nat, k ≤ ps.length ∧ kk = .int .i64 k ∧ f = .bool (fineB xv dv (i : Int) (ps.take k)) ∧ Hid (Below w10.heap.size w10 wr2)) (fun _ kk _ => ps.length - (intOf kk).toNat)
      case atStart => exact ⟨0, by omega, rfl, by rw [List.take_zero, fineB_nil], by first | exact HW.out.drewN' _ | exact Below.drewN' HW.out _⟩
      case round =>
        obtain ⟨k, hk, rfl, rfl, HV⟩ := hrel
        obtain ⟨vp0, vp1, -, -⟩ := two_cells ((HV.out.block w1.heap.size pp).trans Vp_10.out)
        by_cases hkl : k < ps.length
        · have hk0 : (0 : Int) ≤ (k : Int) := by omega
          have hk1 : (k : Int) < (ps.length : Int) := by omega
          obtain ⟨b3, o3, rfl, hb3, hc3⟩ := C3.out (by omega)
          obtain ⟨vx0, vx1, -, -⟩ := two_cells ((HV.out.block bx px).trans Vx_10.out)
          have cx := (HV.out.cell (p := ⟨b1, o1 + i, none⟩) hb1).trans CX.out
          have y0 := (HV.out.cell (p := ⟨b3, o3 + k * 3, none⟩) hb3).trans (hc3 k hkl).1
          have y1 := (HV.out.cell (p := ⟨b3, o3 + k * 3 + 1, none⟩) hb3).trans (hc3 k hkl).2.1
          have SN := hideIt (show fineB xv dv (i : Int) (ps.take (k + 1)) = (fineB xv dv (i : Int) (ps.take k) || (ps[k].at_ == (i : Int) && ps[k].val == xv)) by rw [take_snoc ps k hkl, fineB_snoc])
          clear hc3
          generalize ps[k].at_ = pa at *
          generalize ps[k].val = pv at *
          generalize hf : fineB xv dv (i : Int) (ps.take k) = fb at *
          clear hf
          rcases (show fb = true ∨ (fb = false ∧ (pa == (i : Int)) = false) ∨ (fb = false ∧ (pa == (i : Int)) = true ∧ (pv == xv) = false) ∨ (fb = false ∧ (pa == (i : Int)) = true ∧ (pv == xv) = true) by cases fb <;> cases (pa == (i : Int)) <;> cases (pv == xv) <;> simp) with rfl | ⟨rfl, q1⟩ | ⟨rfl, q1, q2⟩ | ⟨rfl, q1, q2⟩
          all_goals
            go_wp2
            go_quiet (fail)
            go_wp2
            go_roundw
            case rel => exact ⟨k + 1, by omega, by go_num, by rw [SN.out]; first | rfl | (simp only [q1, q2]; rfl) | (simp only [q1]; rfl), by first | exact HV.out | exact Below.drewN' HV.out _⟩
            case measure => simp [intOf]; omega
        · have ek : k = ps.length := by omega
          subst ek
          rw [List.take_length, FI.out]
          go_wp2
          go_roundw
          case rel => exact ⟨i + 1, by omega, by go_num, by first | exact HV.out | exact Below.drewN' HV.out _⟩
          case measure => simp [intOf]; omega
    · have ei : i = 336 := by omega
      subst ei
      go_wp2
      go_ret
      exact ⟨rfl, B_10.out.trans (HW.out.mono zz)⟩
end Go.Proofs.Ytbjcoeimcdodjaa
