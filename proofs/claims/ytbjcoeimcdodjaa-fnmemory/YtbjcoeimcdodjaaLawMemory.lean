/- What is stored, flushed and fenced is sure: the walk of its law. -/
import Derived.Test.YtbjcoeimcdodjaaMemM
import Derived.Test.YtbjcoeimcdodjaaPmStoreI
import Derived.Test.YtbjcoeimcdodjaaPmFlushI
import Derived.Test.YtbjcoeimcdodjaaPmFenceI
import Derived.Deep.DeepCutAuto
import Derived.Deep.RegionWith
namespace Go.Proofs.Ytbjcoeimcdodjaa
open Go.RowKit
set_option maxRecDepth 100000 in
set_option maxHeartbeats 8000000 in
theorem fnMemory_law (vA vB : Value) (cs bs : List Int) (w : World) (hA : RdB w vA cs) (hB : RdB w vB bs) (_ha : cs.length ≤ maxLen) (_hb : bs.length ≤ maxLen) :
    Calls Try.prog 3 #[vA, vB] w fun e w' => e = .returned (.bool true) ∧ Below w.heap.size w w' := by
  obtain ⟨aA, cA, rfl, -⟩ := hA.shape
  obtain ⟨aB, cB, rfl, -⟩ := hB.shape
  have HA := hideIt hA
  have HB := hideIt hB
  clear hA hB
  by_cases ccs : 1048576 < cs.length
  · go_enter Try.func3, Try.ntmps3
    go_wp2
    go_ret
    exact ⟨rfl, Below.refl _ _⟩
  by_cases cbs : 1048576 < bs.length
  · go_enter Try.func3, Try.ntmps3
    go_wp2
    go_ret
    exact ⟨rfl, Below.refl _ _⟩
  go_enter Try.func3, Try.ntmps3
  go_wp2_with fail
  refine (pmOf_any _ cs w HA.out (by omega)).mono ?_
  rintro e w1 ⟨v1, ws, ps, rfl, hP, hr1, hb1⟩
  have P := hideIt hP
  have OK := hideIt (hP.ok (by omega))
  have hwl : ws.length = 336 := hP.len
  have hpl : ps.length ≤ 29 := hP.few
  obtain ⟨vW1, vP1, rfl, hI1, hS1⟩ := hr1.rd
  obtain ⟨aW1, cW1, rfl⟩ := RdI.form hI1 hwl
  obtain ⟨aP1, cP1, rfl⟩ := RdS.form hS1 rfl
  have B_1 := hideIt hb1
  have Rp_1 := hideIt hr1.rd
  have hz1 : w.heap.size ≤ w1.heap.size := hb1.size
  clear hP hr1 hb1 hI1 hS1
  have B_1b := hideIt (B_1.out.alloc (by omega) (.cells #[.slice aW1 336 cW1, .slice aP1 ps.length cP1] 26))
  have Rp_1b := hideIt (Rp_1.out.below ((Below.refl _ _).alloc (Nat.le_refl _) (.cells #[.slice aW1 336 cW1, .slice aP1 ps.length cP1] 26)))
  have Vp_1b : Hid ((w1.alloc (.cells #[.slice aW1 336 cW1, .slice aP1 ps.length cP1] 26)).heap[w1.heap.size]? = some (.cells #[.slice aW1 336 cW1, .slice aP1 ps.length cP1] 26 (0, 0))) := at_new rfl
  clear B_1 Rp_1
  go_wp2_with fail
  refine (at_any _ bs 0 _ (HB.out.below B_1b.out) (by omega) (by omega) (by omega)).mono ?_
  rintro e w2 ⟨q, rfl, q0, q1, hb2⟩
  have hz2 : w1.heap.size + 1 ≤ w2.heap.size := by have := hb2.size; first | omega | (simp only [World.size_alloc] at this; omega)
  have B_2 := hideIt (below_trans B_1b.out hb2 (by first | omega | (simp only [World.size_alloc]; omega)))
  have Vp_2 := hideIt ((hb2.block _ (by first | omega | (simp only [World.size_alloc]; omega))).trans Vp_1b.out)
  have Rp_2 := hideIt (Rp_1b.out.below hb2)
  clear B_1b Vp_1b Rp_1b
  clear hb2
  obtain ⟨k, rfl⟩ : ∃ k : Nat, q = k := ⟨q.toNat, by omega⟩
  go_wp2_with fail
  refine (wordOf_any _ bs _ (HB.out.below B_2.out) (by omega)).mono ?_
  rintro e w3 ⟨x, rfl, x0, x1, hb3⟩
  have hz3 : w2.heap.size ≤ w3.heap.size := by have := hb3.size; first | omega | (simp only [World.size_alloc] at this; omega)
  have B_3 := hideIt (below_trans B_2.out hb3 (by first | omega | (simp only [World.size_alloc]; omega)))
  have Vp_3 := hideIt ((hb3.block _ (by first | omega | (simp only [World.size_alloc]; omega))).trans Vp_2.out)
  have Rp_3 := hideIt (Rp_2.out.below hb3)
  clear B_2 Vp_2 Rp_2
  clear hb3
  have WB : Hid (wordB x = true) := decide_eq_true ⟨x0, x1⟩
  have AO := hideIt (askC_ok OK.out (show placeB (k : Int) = true from decide_eq_true ⟨q0, q1⟩))
  have SO : Hid (storeC ws ps (k : Int) x = 0 ∧ storeWs ws ps (k : Int) x = ws ∧ storePs ws ps (k : Int) x = ps ++ [(⟨(k : Int), x, false⟩ : St)]) := by
    rcases store_cases ws ps (k : Int) x with ⟨hc, _⟩ | ⟨_, hx, _⟩ | ⟨_, _, hl, _⟩ | ⟨_, _, _, h⟩
    · have := AO.out; omega
    · rw [WB.out] at hx; cases hx
    · omega
    · exact h
  have P2 := hideIt (P.out.add (a := (k : Int)) (x := x) ⟨q0, q1⟩ ⟨x0, x1⟩)
  have hkl : k < ws.length := by omega
  generalize hqs : ps ++ [(⟨(k : Int), x, false⟩ : St)] = qs at *
  have QS := hideIt hqs
  clear hqs
  have hql : qs.length ≤ 30 := by have h : qs.length = ps.length + 1 := by rw [← QS.out]; simp
                                  omega
  obtain ⟨lp0, lp1, lp2, lp3⟩ := two_cells Vp_3.out
  go_wp2_with fail
  refine (implPmStore_any _ ws ps (k : Int) x _ Rp_3.out (by omega) (by omega)).mono ?_
  rw [SO.out.1, SO.out.2.1, SO.out.2.2]
  rintro e w4 ⟨v4, rfl, hr4, hb4⟩
  obtain ⟨vW4, vP4, rfl, hI4, hS4⟩ := hr4.rd
  obtain ⟨aW4, cW4, rfl⟩ := RdI.form hI4 hwl
  obtain ⟨aP4, cP4, rfl⟩ := RdS.form hS4 (n := qs.length) rfl
  have hz4 : w3.heap.size ≤ w4.heap.size := by have := hb4.size; first | omega | (simp only [World.size_alloc] at this; omega)
  have B_4 := hideIt (below_trans B_3.out hb4 (by first | omega | (simp only [World.size_alloc]; omega)))
  have Vp_4 := hideIt ((hb4.block _ (by first | omega | (simp only [World.size_alloc]; omega))).trans Vp_3.out)
  have Rp_4 := hideIt (Rp_3.out.below hb4)
  clear B_3 Vp_3 Rp_3
  have Ra_4 := hideIt hr4.rd
  clear lp0 lp1 lp2 lp3 hI4 hS4 hr4 hb4
  have B_4b := hideIt (B_4.out.alloc (by omega) (.cells #[.slice aW4 336 cW4, .slice aP4 (qs.length) cP4] 26))
  have Vp_4b := hideIt (at_old (o := .cells #[.slice aW4 336 cW4, .slice aP4 (qs.length) cP4] 26) Vp_4.out)
  have Rp_4b := hideIt (Rp_4.out.below ((Below.refl _ _).alloc (Nat.le_refl _) (.cells #[.slice aW4 336 cW4, .slice aP4 (qs.length) cP4] 26)))
  have Ra_4b := hideIt (Ra_4.out.below ((Below.refl _ _).alloc (Nat.le_refl _) (.cells #[.slice aW4 336 cW4, .slice aP4 (qs.length) cP4] 26)))
  have Va_4b : Hid ((w4.alloc (.cells #[.slice aW4 336 cW4, .slice aP4 (qs.length) cP4] 26)).heap[w4.heap.size]? = some (.cells #[.slice aW4 336 cW4, .slice aP4 (qs.length) cP4] 26 (0, 0))) := at_new rfl
  clear B_4 Vp_4 Rp_4 Ra_4
  have OK2 := hideIt (P2.out.ok (by omega))
  have AO2 := hideIt (askC_ok OK2.out (show placeB (k : Int) = true from decide_eq_true ⟨q0, q1⟩))
  have LD := hideIt (show loadV ws qs (k : Int) = x by rw [loadV_ok AO2.out hkl, ← QS.out, lastW_snoc])
  obtain ⟨la0, la1, la2, la3⟩ := two_cells Va_4b.out
  go_wp2_with fail
  refine (implPmLoad_any _ ws qs _ _ Ra_4b.out (by omega) (by omega)).mono ?_
  rw [LD.out, AO2.out]
  rintro e w5 ⟨rfl, hb5⟩
  have hz5 : w4.heap.size + 1 ≤ w5.heap.size := by have := hb5.size; first | omega | (simp only [World.size_alloc] at this; omega)
  have B_5 := hideIt (below_trans B_4b.out hb5 (by first | omega | (simp only [World.size_alloc]; omega)))
  have Vp_5 := hideIt ((hb5.block _ (by first | omega | (simp only [World.size_alloc]; omega))).trans Vp_4b.out)
  have Va_5 := hideIt ((hb5.block _ (by first | omega | (simp only [World.size_alloc]; omega))).trans Va_4b.out)
  have Rp_5 := hideIt (Rp_4b.out.below hb5)
  have Ra_5 := hideIt (Ra_4b.out.below hb5)
  clear B_4b Vp_4b Va_4b Rp_4b Ra_4b
  clear la0 la1 la2 la3 hb5
  have FO := hideIt (show flushWs ws qs (k : Int) = ws ∧ flushPs ws qs (k : Int) = qs.map (fl1 (k : Int)) from ⟨by unfold flushWs; rw [if_pos AO2.out], by unfold flushPs; rw [if_pos AO2.out]⟩)
  have P3 := hideIt (P2.out.flush (k : Int))
  have GO := hideIt (fence_ok (P3.out.ok (by omega)))
  have P4 := hideIt P3.out.fence
  have hfw : (fenW ws (qs.map (fl1 (k : Int)))).length = 336 := (fenW_len _ _).trans hwl
  have hfp : (fenP (qs.map (fl1 (k : Int)))).length ≤ 30 := Nat.le_trans P4.out.few (by omega)
  have SURE := hideIt (show (crW (fenW ws (qs.map (fl1 (k : Int)))) (fenP (qs.map (fl1 (k : Int)))) (keepZ bs))[k]?.getD 0 = x by rw [← QS.out]; exact sure_there k x false ps ws (keepZ bs) hkl)
  generalize hff : qs.map (fl1 (k : Int)) = fs at *
  have FF := hideIt hff
  clear hff
  have hfl : fs.length ≤ 30 := by have h : fs.length = qs.length := by rw [← FF.out]; simp
                                  omega
  obtain ⟨la0, la1, la2, la3⟩ := two_cells Va_5.out
  go_wp2_with fail
  refine (implPmFlush_any _ ws qs (k : Int) _ Ra_5.out (by omega) (by omega)).mono ?_
  rw [AO2.out, FO.out.1, FO.out.2]
  rintro e w6 ⟨v6, rfl, hr6, hb6⟩
  obtain ⟨vW6, vP6, rfl, hI6, hS6⟩ := hr6.rd
  obtain ⟨aW6, cW6, rfl⟩ := RdI.form hI6 hwl
  obtain ⟨aP6, cP6, rfl⟩ := RdS.form hS6 (n := fs.length) rfl
  have hz6 : w5.heap.size ≤ w6.heap.size := by have := hb6.size; first | omega | (simp only [World.size_alloc] at this; omega)
  have B_6 := hideIt (below_trans B_5.out hb6 (by first | omega | (simp only [World.size_alloc]; omega)))
  have Vp_6 := hideIt ((hb6.block _ (by first | omega | (simp only [World.size_alloc]; omega))).trans Vp_5.out)
  have Va_6 := hideIt ((hb6.block _ (by first | omega | (simp only [World.size_alloc]; omega))).trans Va_5.out)
  have Rp_6 := hideIt (Rp_5.out.below hb6)
  have Ra_6 := hideIt (Ra_5.out.below hb6)
  clear B_5 Vp_5 Va_5 Rp_5 Ra_5
  have Rf_6 := hideIt hr6.rd
  clear la0 la1 la2 la3 hI6 hS6 hr6 hb6
  have B_6b := hideIt (B_6.out.alloc (by omega) (.cells #[.slice aW6 336 cW6, .slice aP6 (fs.length) cP6] 26))
  have Vp_6b := hideIt (at_old (o := .cells #[.slice aW6 336 cW6, .slice aP6 (fs.length) cP6] 26) Vp_6.out)
  have Va_6b := hideIt (at_old (o := .cells #[.slice aW6 336 cW6, .slice aP6 (fs.length) cP6] 26) Va_6.out)
  have Rp_6b := hideIt (Rp_6.out.below ((Below.refl _ _).alloc (Nat.le_refl _) (.cells #[.slice aW6 336 cW6, .slice aP6 (fs.length) cP6] 26)))
  have Ra_6b := hideIt (Ra_6.out.below ((Below.refl _ _).alloc (Nat.le_refl _) (.cells #[.slice aW6 336 cW6, .slice aP6 (fs.length) cP6] 26)))
  have Rf_6b := hideIt (Rf_6.out.below ((Below.refl _ _).alloc (Nat.le_refl _) (.cells #[.slice aW6 336 cW6, .slice aP6 (fs.length) cP6] 26)))
  have Vf_6b : Hid ((w6.alloc (.cells #[.slice aW6 336 cW6, .slice aP6 (fs.length) cP6] 26)).heap[w6.heap.size]? = some (.cells #[.slice aW6 336 cW6, .slice aP6 (fs.length) cP6] 26 (0, 0))) := at_new rfl
  clear B_6 Vp_6 Va_6 Rp_6 Ra_6 Rf_6
  generalize hgw : fenW ws fs = gw at *
  generalize hgp : fenP fs = gp at *
  clear hgw hgp
  obtain ⟨lf0, lf1, lf2, lf3⟩ := two_cells Vf_6b.out
  go_wp2_with fail
  refine (implPmFence_any _ ws fs _ Rf_6b.out (by omega) (by omega)).mono ?_
  rw [GO.out.1, GO.out.2.1, GO.out.2.2]
  rintro e w7 ⟨v7, rfl, hr7, hb7⟩
  obtain ⟨vW7, vP7, rfl, hI7, hS7⟩ := hr7.rd
  obtain ⟨aW7, cW7, rfl⟩ := RdI.form hI7 hfw
  obtain ⟨aP7, cP7, rfl⟩ := RdS.form hS7 (n := gp.length) rfl
  have hz7 : w6.heap.size + 1 ≤ w7.heap.size := by have := hb7.size; first | omega | (simp only [World.size_alloc] at this; omega)
  have B_7 := hideIt (below_trans B_6b.out hb7 (by first | omega | (simp only [World.size_alloc]; omega)))
  have Vp_7 := hideIt ((hb7.block _ (by first | omega | (simp only [World.size_alloc]; omega))).trans Vp_6b.out)
  have Va_7 := hideIt ((hb7.block _ (by first | omega | (simp only [World.size_alloc]; omega))).trans Va_6b.out)
  have Vf_7 := hideIt ((hb7.block _ (by first | omega | (simp only [World.size_alloc]; omega))).trans Vf_6b.out)
  have Rp_7 := hideIt (Rp_6b.out.below hb7)
  have Ra_7 := hideIt (Ra_6b.out.below hb7)
  have Rf_7 := hideIt (Rf_6b.out.below hb7)
  clear B_6b Vp_6b Va_6b Vf_6b Rp_6b Ra_6b Rf_6b
  have Rs_7 := hideIt hr7.rd
  clear lf0 lf1 lf2 lf3 hI7 hS7 hr7 hb7
  have B_7b := hideIt (B_7.out.alloc (by omega) (.cells #[.slice aW7 336 cW7, .slice aP7 (gp.length) cP7] 26))
  have Vp_7b := hideIt (at_old (o := .cells #[.slice aW7 336 cW7, .slice aP7 (gp.length) cP7] 26) Vp_7.out)
  have Va_7b := hideIt (at_old (o := .cells #[.slice aW7 336 cW7, .slice aP7 (gp.length) cP7] 26) Va_7.out)
  have Vf_7b := hideIt (at_old (o := .cells #[.slice aW7 336 cW7, .slice aP7 (gp.length) cP7] 26) Vf_7.out)
  have Rp_7b := hideIt (Rp_7.out.below ((Below.refl _ _).alloc (Nat.le_refl _) (.cells #[.slice aW7 336 cW7, .slice aP7 (gp.length) cP7] 26)))
  have Ra_7b := hideIt (Ra_7.out.below ((Below.refl _ _).alloc (Nat.le_refl _) (.cells #[.slice aW7 336 cW7, .slice aP7 (gp.length) cP7] 26)))
  have Rf_7b := hideIt (Rf_7.out.below ((Below.refl _ _).alloc (Nat.le_refl _) (.cells #[.slice aW7 336 cW7, .slice aP7 (gp.length) cP7] 26)))
  have Rs_7b := hideIt (Rs_7.out.below ((Below.refl _ _).alloc (Nat.le_refl _) (.cells #[.slice aW7 336 cW7, .slice aP7 (gp.length) cP7] 26)))
  have Vs_7b : Hid ((w7.alloc (.cells #[.slice aW7 336 cW7, .slice aP7 (gp.length) cP7] 26)).heap[w7.heap.size]? = some (.cells #[.slice aW7 336 cW7, .slice aP7 (gp.length) cP7] 26 (0, 0))) := at_new rfl
  clear B_7 Vp_7 Va_7 Vf_7 Rp_7 Ra_7 Rf_7 Rs_7
  have OK4 := hideIt (P4.out.ok (by omega))
  have CO := hideIt (crash_ok OK4.out (keepZ_B bs) (by have := keepZ_len bs; omega))
  have P5 := hideIt (crW_ok (zs := keepZ bs) P4.out)
  have hkz := keepZ_len bs
  have hcl : (crW gw gp (keepZ bs)).length = 336 := crW_len.trans hfw
  generalize hX : crW gw gp (keepZ bs) = X at *
  have HX := hideIt hX
  clear hX
  go_upto_region 10 with fail
  obtain ⟨w8, hw8⟩ : ∃ w8 : World, w8 = w7.alloc (.cells #[.slice aW7 336 cW7, .slice aP7 (gp.length) cP7] 26) := ⟨_, rfl⟩
  rw [← hw8]
  have hz8 : w7.heap.size + 1 ≤ w8.heap.size := by rw [hw8]; simp
  have B_8 := B_7b
  rw [← hw8] at B_8
  have Vp_8 := Vp_7b
  rw [← hw8] at Vp_8
  have Va_8 := Va_7b
  rw [← hw8] at Va_8
  have Vf_8 := Vf_7b
  rw [← hw8] at Vf_8
  have Vs_8 := Vs_7b
  rw [← hw8] at Vs_8
  have Rp_8 := Rp_7b
  rw [← hw8] at Rp_8
  have Ra_8 := Ra_7b
  rw [← hw8] at Ra_8
  have Rf_8 := Rf_7b
  rw [← hw8] at Rf_8
  have Rs_8 := Rs_7b
  rw [← hw8] at Rs_8
  clear hw8 B_7b Vp_7b Va_7b Vf_7b Vs_7b Rp_7b Ra_7b Rf_7b Rs_7b
  obtain ⟨ls0, ls1, ls2, ls3⟩ := two_cells Vs_8.out
  go_cut [16, 17] (fun s t wx => ∃ (aW aP : Option Addr) (cW cP bx : Nat), t = .int .i64 0 ∧ s = .pointer (some ⟨bx, 0, none⟩) ∧ Hid (CutC w8 wx X aW aP cW cP bx))
  case first =>
    obtain ⟨q2, q3, _, _⟩ := two_cells (at_old (o := .cells #[.slice none 0 0, .slice none 0 0] 26) Vs_8.out)
    go_region_with (first
      | (go_at_call 14; refine (keepsOf_any _ bs _ (HB.out.below (below_trans B_8.out (by repeat (first | exact Below.refl _ _ | refine below_allocS ?_ _ | refine Below.drew ?_)) (by omega))) (by omega)).mono ?_; rintro e wa ⟨va, rfl, hra, hba⟩; obtain ⟨aZ, cZ, rfl⟩ := RdI.form hra.rd rfl; have RZ := hideIt hra.rd; have BA : Hid (Below w8.heap.size w8 wa) := below_trans (b := _) (by repeat (first | exact Below.refl _ _ | refine below_allocS ?_ _ | refine Below.drew ?_)) hba (Below.size (B := w8.heap.size) (by repeat (first | exact Below.refl _ _ | refine below_allocS ?_ _ | refine Below.drew ?_))); have hza : w8.heap.size ≤ wa.heap.size := BA.out.size; (first | (have VX : Hid (wa.heap[w8.heap.size]? = some (.cells #[.slice none 0 0, .slice none 0 0] 26 (0, 0))) := (hba.block w8.heap.size (by first | (rw [World.size_alloc]; exact Nat.lt_succ_self _) | (show _ < (World.alloc _ _).heap.size; rw [World.size_alloc]; exact Nat.lt_succ_self _))).trans (at_new rfl)) | skip); obtain ⟨y1, y2, _, _⟩ := two_cells ((BA.out.block w7.heap.size (by omega)).trans Vs_8.out); obtain ⟨u0, u1, _, _⟩ := two_cells (at_old (o := .cells #[.slice none 0 0, .slice none 0 0] 26) ((BA.out.block w7.heap.size (by omega)).trans Vs_8.out)); clear hra hba)
      | (go_at_call 13; refine (implPmCrash_any _ _ gw gp (keepZ bs) _ (Rs_8.out.below (by repeat (first | exact BA.out | exact Below.refl _ _ | refine below_allocS ?_ _ | refine Below.drew ?_))) (by first | exact RZ.out | exact Rd.below RZ.out (by repeat (first | exact Below.refl _ _ | refine below_allocS ?_ _ | refine Below.drew ?_))) (by omega) (by omega) (by omega)).mono ?_; rw [CO.out.1, CO.out.2]; rintro e wf ⟨vf, rfl, hrf, hbf⟩; obtain ⟨vWf, vPf, rfl, hIf, hSf⟩ := hrf.rd; obtain ⟨aWf, cWf, rfl⟩ := RdI.form hIf hcl; obtain ⟨aPf, cPf, rfl⟩ := RdS.form hSf (n := 0) rfl; have RF := hideIt hrf.rd; have BF : Hid (Below w8.heap.size w8 wf) := below_trans (b := _) (by repeat (first | exact BA.out | exact Below.refl _ _ | refine below_allocS ?_ _ | refine Below.drew ?_)) hbf (Below.size (B := w8.heap.size) (by repeat (first | exact BA.out | exact Below.refl _ _ | refine below_allocS ?_ _ | refine Below.drew ?_))); (first | (have VY : Hid (wf.heap[w8.heap.size]? = some (.cells #[.slice none 0 0, .slice none 0 0] 26 (0, 0))) := (hbf.block w8.heap.size (Array.getElem?_eq_some_iff.1 VX.out).1).trans VX.out; obtain ⟨t1, t2, t3, t4⟩ := two_cells VY.out) | (have VY : Hid (wf.heap[wa.heap.size]? = some (.cells #[.slice none 0 0, .slice none 0 0] 26 (0, 0))) := (hbf.block wa.heap.size (by first | (rw [World.size_alloc]; exact Nat.lt_succ_self _) | (show _ < (World.alloc _ _).heap.size; rw [World.size_alloc]; exact Nat.lt_succ_self _))).trans (at_new rfl); obtain ⟨t1, t2, t3, t4⟩ := two_cells VY.out) | skip); clear hrf hbf hIf hSf))
    all_goals
      go_wp2_with fail
      go_meet
      refine ⟨aWf, aPf, cWf, cPf, _, rfl, rfl, ?_⟩
      first
        | exact CutC.new RF.out BF.out
        | exact (CutC.new RF.out BF.out).drew
        | exact CutC.old hcl RF.out BF.out (Nat.le_refl _) VY.out
        | exact (CutC.old hcl RF.out BF.out (Nat.le_refl _) VY.out).drew
        | exact CutC.old hcl RF.out BF.out BA.out.size VY.out
        | exact (CutC.old hcl RF.out BF.out BA.out.size VY.out).drew
  case rest =>
  clear ls0 ls1 ls2 ls3
  obtain ⟨aWx, aPx, cWx, cPx, bx, rfl, rfl, C⟩ := hcut
  have hb9 := C.out.below
  have hbx := C.out.lo
  have hbx2 := C.out.hi
  have hz9 : w8.heap.size ≤ wc.heap.size := by have := hb9.size; first | omega | (simp only [World.size_alloc] at this; omega)
  have B_9 := hideIt (below_trans B_8.out hb9 (by first | omega | (simp only [World.size_alloc]; omega)))
  have Vp_9 := hideIt ((hb9.block _ (by first | omega | (simp only [World.size_alloc]; omega))).trans Vp_8.out)
  have Va_9 := hideIt ((hb9.block _ (by first | omega | (simp only [World.size_alloc]; omega))).trans Va_8.out)
  have Vf_9 := hideIt ((hb9.block _ (by first | omega | (simp only [World.size_alloc]; omega))).trans Vf_8.out)
  have Vs_9 := hideIt ((hb9.block _ (by first | omega | (simp only [World.size_alloc]; omega))).trans Vs_8.out)
  have Rp_9 := hideIt (Rp_8.out.below hb9)
  have Ra_9 := hideIt (Ra_8.out.below hb9)
  have Rf_9 := hideIt (Rf_8.out.below hb9)
  have Rs_9 := hideIt (Rs_8.out.below hb9)
  clear B_8 Vp_8 Va_8 Vf_8 Vs_8 Rp_8 Ra_8 Rf_8 Rs_8
  have Vx_9 := hideIt C.out.box
  have Rx_9 := hideIt C.out.rd
  clear hb9 C
  have OK5 := hideIt (P5.out.ok (by omega))
  have AO5 := hideIt (askC_ok OK5.out (show placeB (k : Int) = true from decide_eq_true ⟨q0, q1⟩))
  have LX := hideIt (show loadV X [] (k : Int) = x by rw [loadV_ok AO5.out (by omega)]; have h := SURE.out; rw [List.getElem?_eq_getElem (by omega), Option.getD_some] at h; exact h)
  obtain ⟨lx0, lx1, lx2, lx3⟩ := two_cells Vx_9.out
  go_wp2_with fail
  refine (implPmLoad_any _ X [] _ _ Rx_9.out (by omega) (by simp)).mono ?_
  rw [LX.out, AO5.out]
  rintro e w10 ⟨rfl, hb10⟩
  have hz10 : wc.heap.size ≤ w10.heap.size := by have := hb10.size; first | omega | (simp only [World.size_alloc] at this; omega)
  have B_10 := hideIt (below_trans B_9.out hb10 (by first | omega | (simp only [World.size_alloc]; omega)))
  have Vp_10 := hideIt ((hb10.block _ (by first | omega | (simp only [World.size_alloc]; omega))).trans Vp_9.out)
  have Va_10 := hideIt ((hb10.block _ (by first | omega | (simp only [World.size_alloc]; omega))).trans Va_9.out)
  have Vf_10 := hideIt ((hb10.block _ (by first | omega | (simp only [World.size_alloc]; omega))).trans Vf_9.out)
  have Vs_10 := hideIt ((hb10.block _ (by first | omega | (simp only [World.size_alloc]; omega))).trans Vs_9.out)
  have Vx_10 := hideIt ((hb10.block _ (by first | omega | (simp only [World.size_alloc]; omega))).trans Vx_9.out)
  have Rp_10 := hideIt (Rp_9.out.below hb10)
  have Ra_10 := hideIt (Ra_9.out.below hb10)
  have Rf_10 := hideIt (Rf_9.out.below hb10)
  have Rs_10 := hideIt (Rs_9.out.below hb10)
  have Rx_10 := hideIt (Rx_9.out.below hb10)
  clear B_9 Vp_9 Va_9 Vf_9 Vs_9 Vx_9 Rp_9 Ra_9 Rf_9 Rs_9 Rx_9
  clear lx0 lx1 lx2 lx3 hb10
  obtain ⟨ls0, ls1, ls2, ls3⟩ := two_cells Vs_10.out
  go_upto_region 12 with fail
  go_cut [20, 21] (fun s t wx => ∃ (aW aP : Option Addr) (cW cP bx : Nat), t = .int .i64 0 ∧ s = .pointer (some ⟨bx, 0, none⟩) ∧ Hid (CutC w10 wx X aW aP cW cP bx))
  case first =>
    obtain ⟨q2, q3, _, _⟩ := two_cells (at_old (o := .cells #[.slice none 0 0, .slice none 0 0] 26) Vs_10.out)
    go_region_with (first
      | (go_at_call 14; refine (keepsOf_any _ bs _ (HB.out.below (below_trans B_10.out (by repeat (first | exact Below.refl _ _ | refine below_allocS ?_ _ | refine Below.drew ?_)) (by omega))) (by omega)).mono ?_; rintro e wa ⟨va, rfl, hra, hba⟩; obtain ⟨aZ, cZ, rfl⟩ := RdI.form hra.rd rfl; have RZ := hideIt hra.rd; have BA : Hid (Below w10.heap.size w10 wa) := below_trans (b := _) (by repeat (first | exact Below.refl _ _ | refine below_allocS ?_ _ | refine Below.drew ?_)) hba (Below.size (B := w10.heap.size) (by repeat (first | exact Below.refl _ _ | refine below_allocS ?_ _ | refine Below.drew ?_))); have hza : w10.heap.size ≤ wa.heap.size := BA.out.size; (first | (have VX : Hid (wa.heap[w10.heap.size]? = some (.cells #[.slice none 0 0, .slice none 0 0] 26 (0, 0))) := (hba.block w10.heap.size (by first | (rw [World.size_alloc]; exact Nat.lt_succ_self _) | (show _ < (World.alloc _ _).heap.size; rw [World.size_alloc]; exact Nat.lt_succ_self _))).trans (at_new rfl)) | skip); obtain ⟨y1, y2, _, _⟩ := two_cells ((BA.out.block w7.heap.size (by omega)).trans Vs_10.out); obtain ⟨u0, u1, _, _⟩ := two_cells (at_old (o := .cells #[.slice none 0 0, .slice none 0 0] 26) ((BA.out.block w7.heap.size (by omega)).trans Vs_10.out)); clear hra hba)
      | (go_at_call 15; refine (specPmCrash_any _ _ gw gp (keepZ bs) _ (Rs_10.out.below (by repeat (first | exact BA.out | exact Below.refl _ _ | refine below_allocS ?_ _ | refine Below.drew ?_))) (by first | exact RZ.out | exact Rd.below RZ.out (by repeat (first | exact Below.refl _ _ | refine below_allocS ?_ _ | refine Below.drew ?_))) (by omega) (by omega) (by omega)).mono ?_; rw [CO.out.1, CO.out.2]; rintro e wf ⟨vf, rfl, hrf, hbf⟩; obtain ⟨vWf, vPf, rfl, hIf, hSf⟩ := hrf.rd; obtain ⟨aWf, cWf, rfl⟩ := RdI.form hIf hcl; obtain ⟨aPf, cPf, rfl⟩ := RdS.form hSf (n := 0) rfl; have RF := hideIt hrf.rd; have BF : Hid (Below w10.heap.size w10 wf) := below_trans (b := _) (by repeat (first | exact BA.out | exact Below.refl _ _ | refine below_allocS ?_ _ | refine Below.drew ?_)) hbf (Below.size (B := w10.heap.size) (by repeat (first | exact BA.out | exact Below.refl _ _ | refine below_allocS ?_ _ | refine Below.drew ?_))); (first | (have VY : Hid (wf.heap[w10.heap.size]? = some (.cells #[.slice none 0 0, .slice none 0 0] 26 (0, 0))) := (hbf.block w10.heap.size (Array.getElem?_eq_some_iff.1 VX.out).1).trans VX.out; obtain ⟨t1, t2, t3, t4⟩ := two_cells VY.out) | (have VY : Hid (wf.heap[wa.heap.size]? = some (.cells #[.slice none 0 0, .slice none 0 0] 26 (0, 0))) := (hbf.block wa.heap.size (by first | (rw [World.size_alloc]; exact Nat.lt_succ_self _) | (show _ < (World.alloc _ _).heap.size; rw [World.size_alloc]; exact Nat.lt_succ_self _))).trans (at_new rfl); obtain ⟨t1, t2, t3, t4⟩ := two_cells VY.out) | skip); clear hrf hbf hIf hSf))
    all_goals
      go_wp2_with fail
      go_meet
      refine ⟨aWf, aPf, cWf, cPf, _, rfl, rfl, ?_⟩
      first
        | exact CutC.new RF.out BF.out
        | exact (CutC.new RF.out BF.out).drew
        | exact CutC.old hcl RF.out BF.out (Nat.le_refl _) VY.out
        | exact (CutC.old hcl RF.out BF.out (Nat.le_refl _) VY.out).drew
        | exact CutC.old hcl RF.out BF.out BA.out.size VY.out
        | exact (CutC.old hcl RF.out BF.out BA.out.size VY.out).drew
  case rest =>
  clear ls0 ls1 ls2 ls3
  obtain ⟨aWy, aPy, cWy, cPy, by_, rfl, rfl, C⟩ := hcut
  have hb11 := C.out.below
  have hby := C.out.lo
  have hby2 := C.out.hi
  have hz11 : w10.heap.size ≤ wc.heap.size := by have := hb11.size; first | omega | (simp only [World.size_alloc] at this; omega)
  have B_11 := hideIt (below_trans B_10.out hb11 (by first | omega | (simp only [World.size_alloc]; omega)))
  have Vp_11 := hideIt ((hb11.block _ (by first | omega | (simp only [World.size_alloc]; omega))).trans Vp_10.out)
  have Va_11 := hideIt ((hb11.block _ (by first | omega | (simp only [World.size_alloc]; omega))).trans Va_10.out)
  have Vf_11 := hideIt ((hb11.block _ (by first | omega | (simp only [World.size_alloc]; omega))).trans Vf_10.out)
  have Vs_11 := hideIt ((hb11.block _ (by first | omega | (simp only [World.size_alloc]; omega))).trans Vs_10.out)
  have Vx_11 := hideIt ((hb11.block _ (by first | omega | (simp only [World.size_alloc]; omega))).trans Vx_10.out)
  have Rp_11 := hideIt (Rp_10.out.below hb11)
  have Ra_11 := hideIt (Ra_10.out.below hb11)
  have Rf_11 := hideIt (Rf_10.out.below hb11)
  have Rs_11 := hideIt (Rs_10.out.below hb11)
  have Rx_11 := hideIt (Rx_10.out.below hb11)
  clear B_10 Vp_10 Va_10 Vf_10 Vs_10 Vx_10 Rp_10 Ra_10 Rf_10 Rs_10 Rx_10
  have Vy_11 := hideIt C.out.box
  have Ry_11 := hideIt C.out.rd
  clear hb11 C
  clear Vp_11 Vf_11 Vs_11 Rp_11 Rf_11 Rs_11
  obtain ⟨lx0, lx1, lx2, lx3⟩ := two_cells Vx_11.out
  obtain ⟨ly0, ly1, ly2, ly3⟩ := two_cells Vy_11.out
  clear HA HB P OK WB AO SO P2 QS AO2 LD FO P3 GO P4 SURE FF CO P5 HX AO5 LX OK4
  go_wp2_with fail
  refine (samePm_same _ _ X _ Rx_11.out Ry_11.out (by omega)).mono ?_
  rintro e w12 ⟨rfl, hb12⟩
  have hz12 : wc.heap.size ≤ w12.heap.size := by have := hb12.size; first | omega | (simp only [World.size_alloc] at this; omega)
  have B_12 := hideIt (below_trans B_11.out hb12 (by first | omega | (simp only [World.size_alloc]; omega)))
  have Va_12 := hideIt ((hb12.block _ (by first | omega | (simp only [World.size_alloc]; omega))).trans Va_11.out)
  have Vx_12 := hideIt ((hb12.block _ (by first | omega | (simp only [World.size_alloc]; omega))).trans Vx_11.out)
  have Vy_12 := hideIt ((hb12.block _ (by first | omega | (simp only [World.size_alloc]; omega))).trans Vy_11.out)
  have Ra_12 := hideIt (Ra_11.out.below hb12)
  have Rx_12 := hideIt (Rx_11.out.below hb12)
  have Ry_12 := hideIt (Ry_11.out.below hb12)
  clear B_11 Va_11 Vx_11 Vy_11 Ra_11 Rx_11 Ry_11
  clear lx0 lx1 lx2 lx3 ly0 ly1 ly2 ly3 hb12
  clear Vy_12 Ry_12
  obtain ⟨lx0, lx1, lx2, lx3⟩ := two_cells Vx_12.out
  go_wp2_with fail
  refine (implPmOK_any _ X [] _ Rx_12.out (by omega) (by simp)).mono ?_
  rw [OK5.out]
  rintro e w13 ⟨rfl, hb13⟩
  have hz13 : w12.heap.size ≤ w13.heap.size := by have := hb13.size; first | omega | (simp only [World.size_alloc] at this; omega)
  have B_13 := hideIt (below_trans B_12.out hb13 (by first | omega | (simp only [World.size_alloc]; omega)))
  have Va_13 := hideIt ((hb13.block _ (by first | omega | (simp only [World.size_alloc]; omega))).trans Va_12.out)
  have Vx_13 := hideIt ((hb13.block _ (by first | omega | (simp only [World.size_alloc]; omega))).trans Vx_12.out)
  have Ra_13 := hideIt (Ra_12.out.below hb13)
  have Rx_13 := hideIt (Rx_12.out.below hb13)
  clear B_12 Va_12 Vx_12 Ra_12 Rx_12
  clear lx0 lx1 lx2 lx3 hb13
  obtain ⟨la0, la1, la2, la3⟩ := two_cells Va_13.out
  go_wp2_with fail
  refine (implPmOK_any _ ws qs _ Ra_13.out (by omega) (by omega)).mono ?_
  rw [OK2.out]
  rintro e w14 ⟨rfl, hb14⟩
  have hz14 : w13.heap.size ≤ w14.heap.size := by have := hb14.size; first | omega | (simp only [World.size_alloc] at this; omega)
  have B_14 := hideIt (below_trans B_13.out hb14 (by first | omega | (simp only [World.size_alloc]; omega)))
  have Va_14 := hideIt ((hb14.block _ (by first | omega | (simp only [World.size_alloc]; omega))).trans Va_13.out)
  have Vx_14 := hideIt ((hb14.block _ (by first | omega | (simp only [World.size_alloc]; omega))).trans Vx_13.out)
  have Ra_14 := hideIt (Ra_13.out.below hb14)
  have Rx_14 := hideIt (Rx_13.out.below hb14)
  clear B_13 Va_13 Vx_13 Ra_13 Rx_13
  clear la0 la1 la2 la3 hb14
  go_wp2
  go_ret
  exact ⟨rfl, B_14.out⟩
end Go.Proofs.Ytbjcoeimcdodjaa
