/- What is written is read; behind a barrier it is sure: the walk of its law. -/
import Derived.Test.YtbjcoeimcdodjaaDoorMemE
import Derived.Deep.DeepCutAuto
import Derived.Deep.RegionWith
namespace Go.Proofs.YtbjcoeimcdodjaaDoor
open Go.RowKit
set_option maxRecDepth 100000 in
set_option maxHeartbeats 8000000 in
theorem fnBlock_law (vA vB : Value) (cs bs : List Int) (w : World) (hA : RdB w vA cs) (hB : RdB w vB bs) (hG : NW w) (_ha : cs.length ≤ maxLen) (_hb : bs.length ≤ maxLen) :
    Calls Tryd.prog 3 #[vA, vB] w fun e w' => e = .returned (.bool true) ∧ Below w.heap.size w w' := by
  obtain ⟨aA, cA, rfl, -⟩ := hA.shape
  obtain ⟨aB, cB, rfl, -⟩ := hB.shape
  have HA := hideIt hA
  have HB := hideIt hB
  have HG := hideIt hG
  clear hA hB hG
  by_cases ccs : 1048576 < cs.length
  · go_enter Tryd.func3, Tryd.ntmps3
    go_wp2
    go_ret
    exact ⟨rfl, Below.refl _ _⟩
  by_cases cbs : 1048576 < bs.length
  · go_enter Tryd.func3, Tryd.ntmps3
    go_wp2
    go_ret
    exact ⟨rfl, Below.refl _ _⟩
  go_enter Tryd.func3, Tryd.ntmps3
  go_wp2_with fail
  refine (blkOf_any _ cs w HA.out (by omega)).mono ?_
  rintro e w1 ⟨v1, ws, ps, rfl, hP, hr1, hb1⟩
  have P := hideIt hP
  have OK := hideIt (hP.ok (by omega))
  have hwl : ws.length = 32 := hP.len
  have hpl : ps.length ≤ 19 := hP.few
  obtain ⟨vW1, vP1, rfl, hI1, hS1⟩ := hr1.rd
  obtain ⟨aW1, cW1, rfl⟩ := RdI.form hI1 hwl
  obtain ⟨aP1, cP1, rfl⟩ := RdE.form hS1 rfl
  have B_1 := hideIt hb1
  have Rp_1 := hideIt hr1.rd
  have hz1 : w.heap.size ≤ w1.heap.size := hb1.size
  clear hP hr1 hb1 hI1 hS1
  have B_1b := hideIt (B_1.out.alloc (by first | omega | (simp only [World.size_alloc]; omega)) (.cells #[.slice aW1 32 cW1, .slice aP1 ps.length cP1] 26))
  have Rp_1b := hideIt (Rp_1.out.below ((Below.refl _ _).alloc (Nat.le_refl _) (.cells #[.slice aW1 32 cW1, .slice aP1 ps.length cP1] 26)))
  clear B_1 Rp_1
  have Vp_1b : Hid ((w1.alloc (.cells #[.slice aW1 32 cW1, .slice aP1 ps.length cP1] 26)).heap[w1.heap.size]? = some (.cells #[.slice aW1 32 cW1, .slice aP1 ps.length cP1] 26 (0, 0))) := at_new rfl
  go_wp2_with fail
  refine (at_exact _ bs 0 32 _ (HB.out.below B_1b.out) (by omega) (by omega) (by omega) (by omega) (by omega)).mono ?_
  rintro e w2 ⟨rfl, hb2⟩
  have hz2 : w1.heap.size + 1 ≤ w2.heap.size := by have := hb2.size; first | omega | (simp only [World.size_alloc] at this; omega)
  have B_2 := hideIt (below_trans B_1b.out hb2 (by first | omega | (simp only [World.size_alloc]; omega)))
  have Vp_2 := hideIt ((hb2.block _ (by first | omega | (simp only [World.size_alloc]; omega))).trans Vp_1b.out)
  have Rp_2 := hideIt (Rp_1b.out.below hb2)
  clear B_1b Vp_1b Rp_1b
  clear hb2
  have bd := atV_bd bs 0 32 (by omega)
  generalize atV bs 0 32 = q at *
  obtain ⟨k, rfl⟩ : ∃ k : Nat, q = k := ⟨q.toNat, by omega⟩
  obtain ⟨q0, q1⟩ := bd
  go_wp2_with fail
  refine (wordOf_any _ bs _ (HB.out.below B_2.out) (by omega)).mono ?_
  rintro e w3 ⟨x, rfl, x0, x1, hb3⟩
  have hz3 : w2.heap.size + 0 ≤ w3.heap.size := by have := hb3.size; first | omega | (simp only [World.size_alloc] at this; omega)
  have B_3 := hideIt (below_trans B_2.out hb3 (by first | omega | (simp only [World.size_alloc]; omega)))
  have Vp_3 := hideIt ((hb3.block _ (by first | omega | (simp only [World.size_alloc]; omega))).trans Vp_2.out)
  have Rp_3 := hideIt (Rp_2.out.below hb3)
  clear B_2 Vp_2 Rp_2
  clear hb3
  have WB : Hid (wordB x = true) := decide_eq_true ⟨x0, x1⟩
  have AO := hideIt (askE_ok OK.out (show secB (k : Int) = true from decide_eq_true ⟨q0, q1⟩))
  have SO : Hid (writeC ws ps (k : Int) x = 0 ∧ writeWs ws ps (k : Int) x = ws ∧ writePs ws ps (k : Int) x = ps ++ [(⟨(k : Int), x⟩ : Se)]) := by
    rcases write_cases ws ps (k : Int) x with ⟨hc, _⟩ | ⟨_, hx, _⟩ | ⟨_, _, hl, _⟩ | ⟨_, _, _, h⟩
    · have := AO.out; omega
    · rw [WB.out] at hx; cases hx
    · omega
    · exact h
  have P2 := hideIt (P.out.add (a := (k : Int)) (x := x) ⟨q0, q1⟩ ⟨x0, x1⟩)
  have hkl : k < ws.length := by omega
  have AT := hideIt (layE_there k x ps ws hkl)
  have LS := hideIt (lastE_snoc (k : Int) (ws[k]) x ps)
  generalize hqs : ps ++ [(⟨(k : Int), x⟩ : Se)] = qs at *
  have QS := hideIt hqs
  clear hqs
  have hql : qs.length ≤ 20 := P2.out.few
  obtain ⟨lp0, lp1, lp2, lp3⟩ := two_cells Vp_3.out
  go_wp2_with fail
  refine (implBlkWrite_any _ ws ps (k : Int) x _ Rp_3.out (by omega) (by omega)).mono ?_
  rw [SO.out.1, SO.out.2.1, SO.out.2.2]
  rintro e w4 ⟨v4, rfl, hr4, hb4⟩
  obtain ⟨vW4, vP4, rfl, hI4, hS4⟩ := hr4.rd
  obtain ⟨aW4, cW4, rfl⟩ := RdI.form hI4 hwl
  obtain ⟨aP4, cP4, rfl⟩ := RdE.form hS4 (n := qs.length) rfl
  clear lp0 lp1 lp2 lp3
  have hz4 : w3.heap.size + 0 ≤ w4.heap.size := by have := hb4.size; first | omega | (simp only [World.size_alloc] at this; omega)
  have B_4 := hideIt (below_trans B_3.out hb4 (by first | omega | (simp only [World.size_alloc]; omega)))
  have Vp_4 := hideIt ((hb4.block _ (by first | omega | (simp only [World.size_alloc]; omega))).trans Vp_3.out)
  have Rp_4 := hideIt (Rp_3.out.below hb4)
  clear B_3 Vp_3 Rp_3
  have Ra_4 := hideIt hr4.rd
  clear hI4 hS4 hr4 hb4
  have B_4b := hideIt (B_4.out.alloc (by first | omega | (simp only [World.size_alloc]; omega)) (.cells #[.slice aW4 32 cW4, .slice aP4 (qs.length) cP4] 26))
  have Vp_4b := hideIt (at_old (o := .cells #[.slice aW4 32 cW4, .slice aP4 (qs.length) cP4] 26) Vp_4.out)
  have Rp_4b := hideIt (Rp_4.out.below ((Below.refl _ _).alloc (Nat.le_refl _) (.cells #[.slice aW4 32 cW4, .slice aP4 (qs.length) cP4] 26)))
  have Ra_4b := hideIt (Ra_4.out.below ((Below.refl _ _).alloc (Nat.le_refl _) (.cells #[.slice aW4 32 cW4, .slice aP4 (qs.length) cP4] 26)))
  clear B_4 Vp_4 Rp_4 Ra_4
  have Va_4b : Hid ((w4.alloc (.cells #[.slice aW4 32 cW4, .slice aP4 (qs.length) cP4] 26)).heap[w4.heap.size]? = some (.cells #[.slice aW4 32 cW4, .slice aP4 (qs.length) cP4] 26 (0, 0))) := at_new rfl
  clear SO WB AO P OK QS
  have OK2 := hideIt (P2.out.ok (by omega))
  have AO2 := hideIt (askE_ok OK2.out (show secB (k : Int) = true from decide_eq_true ⟨q0, q1⟩))
  have LD := hideIt (show readV ws qs (k : Int) = x by rw [readV_ok AO2.out hkl]; exact LS.out)
  obtain ⟨la0, la1, la2, la3⟩ := two_cells Va_4b.out
  go_wp2_with fail
  refine (implBlkRead_any _ ws qs (k : Int) _ Ra_4b.out (HG.out.below B_4b.out) (by omega) (by omega)).mono ?_
  rw [LD.out, AO2.out]
  rintro e w5 ⟨rfl, hb5⟩
  clear la0 la1 la2 la3
  have hz5 : w4.heap.size + 1 ≤ w5.heap.size := by have := hb5.size; first | omega | (simp only [World.size_alloc] at this; omega)
  have B_5 := hideIt (below_trans B_4b.out hb5 (by first | omega | (simp only [World.size_alloc]; omega)))
  have Vp_5 := hideIt ((hb5.block _ (by first | omega | (simp only [World.size_alloc]; omega))).trans Vp_4b.out)
  have Va_5 := hideIt ((hb5.block _ (by first | omega | (simp only [World.size_alloc]; omega))).trans Va_4b.out)
  have Rp_5 := hideIt (Rp_4b.out.below hb5)
  have Ra_5 := hideIt (Ra_4b.out.below hb5)
  clear B_4b Vp_4b Va_4b Rp_4b Ra_4b
  clear hb5
  have BO := hideIt (bar_ok OK2.out)
  have E0 := hideIt (show crashCE ws qs [0] = 0 ∧ crashWE ws qs [0] = ws from ⟨(crashE_ok OK2.out (zs := [0]) (keepsB_mk (fun k hk => by simp)) (by simp)).1, (crashE_ok OK2.out (zs := [0]) (keepsB_mk (fun k hk => by simp)) (by simp)).2.trans (crE_none ws qs)⟩)
  have E4 := hideIt (show crashCE ws qs [400] = 0 ∧ crashWE ws qs [400] = layE ws qs from ⟨(crashE_ok OK2.out (zs := [400]) (keepsB_mk (fun k hk => by simp)) (by simp)).1, (crashE_ok OK2.out (zs := [400]) (keepsB_mk (fun k hk => by simp)) (by simp)).2.trans (crE_all P2.out (by omega))⟩)
  have P5 := hideIt P2.out.bar
  have hL : (layE ws qs).length = 32 := (layE_len ws qs).trans hwl
  have hkz := keepZ_len bs
  have hkc := keepZ_len cs
  have YO := hideIt (crashE_ok OK2.out (keepZ_BE cs) (by omega))
  have hY : (crE ws qs (keepZ cs)).length = 32 := crE_len.trans hwl
  generalize hYg : crE ws qs (keepZ cs) = Y at *
  clear hYg
  have ATk : Hid (∀ h : k < (layE ws qs).length, (layE ws qs)[k] = x) := fun h => AT.out h
  clear AT LS
  generalize hLg : layE ws qs = L at *
  clear hLg
  have XO := hideIt (show crashCE L [] (keepZ bs) = 0 ∧ crashWE L [] (keepZ bs) = L from ⟨(crashE_ok (P5.out.ok (by omega)) (keepZ_BE bs) (by omega)).1, (crashE_ok (P5.out.ok (by omega)) (keepZ_BE bs) (by omega)).2.trans (crE_nil L (keepZ bs))⟩)
  have AO5 := hideIt (askE_ok (P5.out.ok (by omega)) (show secB (k : Int) = true from decide_eq_true ⟨q0, q1⟩))
  have LX := hideIt (show readV L [] (k : Int) = x by rw [readV_ok AO5.out (by omega)]; exact ATk.out (by omega))
  have UO := hideIt (unsE_ok OK2.out)
  obtain ⟨la0, la1, la2, la3⟩ := two_cells Va_5.out
  go_wp2_with fail
  refine (implBlkBarrier_any _ ws qs _ Ra_5.out (by omega) (by omega)).mono ?_
  rw [BO.out.1, BO.out.2]
  rintro e w6 ⟨v6, rfl, hr6, hb6⟩
  obtain ⟨vW6, vP6, rfl, hI6, hS6⟩ := hr6.rd
  obtain ⟨aW6, cW6, rfl⟩ := RdI.form hI6 hL
  obtain ⟨aP6, cP6, rfl⟩ := RdE.form hS6 (n := 0) rfl
  clear la0 la1 la2 la3
  have hz6 : w5.heap.size + 0 ≤ w6.heap.size := by have := hb6.size; first | omega | (simp only [World.size_alloc] at this; omega)
  have B_6 := hideIt (below_trans B_5.out hb6 (by first | omega | (simp only [World.size_alloc]; omega)))
  have Vp_6 := hideIt ((hb6.block _ (by first | omega | (simp only [World.size_alloc]; omega))).trans Vp_5.out)
  have Va_6 := hideIt ((hb6.block _ (by first | omega | (simp only [World.size_alloc]; omega))).trans Va_5.out)
  have Rp_6 := hideIt (Rp_5.out.below hb6)
  have Ra_6 := hideIt (Ra_5.out.below hb6)
  clear B_5 Vp_5 Va_5 Rp_5 Ra_5
  have Rs_6 := hideIt hr6.rd
  clear hI6 hS6 hr6 hb6
  have B_6b := hideIt (B_6.out.alloc (by first | omega | (simp only [World.size_alloc]; omega)) (.cells #[.slice aW6 32 cW6, .slice aP6 0 cP6] 26))
  have Vp_6b := hideIt (at_old (o := .cells #[.slice aW6 32 cW6, .slice aP6 0 cP6] 26) Vp_6.out)
  have Va_6b := hideIt (at_old (o := .cells #[.slice aW6 32 cW6, .slice aP6 0 cP6] 26) Va_6.out)
  have Rp_6b := hideIt (Rp_6.out.below ((Below.refl _ _).alloc (Nat.le_refl _) (.cells #[.slice aW6 32 cW6, .slice aP6 0 cP6] 26)))
  have Ra_6b := hideIt (Ra_6.out.below ((Below.refl _ _).alloc (Nat.le_refl _) (.cells #[.slice aW6 32 cW6, .slice aP6 0 cP6] 26)))
  have Rs_6b := hideIt (Rs_6.out.below ((Below.refl _ _).alloc (Nat.le_refl _) (.cells #[.slice aW6 32 cW6, .slice aP6 0 cP6] 26)))
  clear B_6 Vp_6 Va_6 Rp_6 Ra_6 Rs_6
  have Vs_6b : Hid ((w6.alloc (.cells #[.slice aW6 32 cW6, .slice aP6 0 cP6] 26)).heap[w6.heap.size]? = some (.cells #[.slice aW6 32 cW6, .slice aP6 0 cP6] 26 (0, 0))) := at_new rfl
  go_upto_region 9 with fail
  obtain ⟨w7, hw7⟩ : ∃ w7 : World, w7 = w6.alloc (.cells #[.slice aW6 32 cW6, .slice aP6 0 cP6] 26) := ⟨_, rfl⟩
  rw [← hw7]
  have hz7 : w6.heap.size + 1 ≤ w7.heap.size := by rw [hw7]; simp
  have B_7 := B_6b
  rw [← hw7] at B_7
  have Vp_7 := Vp_6b
  rw [← hw7] at Vp_7
  have Va_7 := Va_6b
  rw [← hw7] at Va_7
  have Vs_7 := Vs_6b
  rw [← hw7] at Vs_7
  have Rp_7 := Rp_6b
  rw [← hw7] at Rp_7
  have Ra_7 := Ra_6b
  rw [← hw7] at Ra_7
  have Rs_7 := Rs_6b
  rw [← hw7] at Rs_7
  clear hw7 B_6b Vp_6b Va_6b Vs_6b Rp_6b Ra_6b Rs_6b
  obtain ⟨ls0, ls1, ls2, ls3⟩ := two_cells Vs_7.out
  go_cut [14, 15] (fun s t wx => ∃ (aW aP : Option Addr) (cW cP bx : Nat), t = .int .i64 0 ∧ s = .pointer (some ⟨bx, 0, none⟩) ∧ Hid (CutE w7 wx (L) aW aP cW cP bx))
  case first =>
    as_aux_lemma =>
      obtain ⟨q2, q3, -, -⟩ := two_cells (at_old (o := .cells #[.slice none 0 0, .slice none 0 0] 26) Vs_7.out)
      go_region_with (first
        | (go_at_call 12; refine (keepsOf_any _ bs _ (HB.out.below (below_trans B_7.out (by repeat (first | exact Below.refl _ _ | refine below_allocQ ?_ _ | refine Below.drew ?_)) (by omega))) (by omega)).mono ?_; rintro e wa ⟨va, rfl, hra, hba⟩; obtain ⟨aZ, cZ, rfl⟩ := RdI.form hra.rd rfl; have RZ := hideIt hra.rd; have BA : Hid (Below w7.heap.size w7 wa) := below_trans (b := _) (by repeat (first | exact Below.refl _ _ | refine below_allocQ ?_ _ | refine Below.drew ?_)) hba (Below.size (B := w7.heap.size) (by repeat (first | exact Below.refl _ _ | refine below_allocQ ?_ _ | refine Below.drew ?_))); have hza : w7.heap.size ≤ wa.heap.size := BA.out.size; (first | (have VX : Hid (wa.heap[w7.heap.size]? = some (.cells #[.slice none 0 0, .slice none 0 0] 26 (0, 0))) := (hba.block w7.heap.size (by first | (rw [World.size_alloc]; exact Nat.lt_succ_self _) | (show _ < (World.alloc _ _).heap.size; rw [World.size_alloc]; exact Nat.lt_succ_self _))).trans (at_new rfl)) | skip); obtain ⟨y1, y2, -, -⟩ := two_cells ((BA.out.block w6.heap.size (by omega)).trans Vs_7.out); obtain ⟨u0, u1, -, -⟩ := two_cells (at_old (o := .cells #[.slice none 0 0, .slice none 0 0] 26) ((BA.out.block w6.heap.size (by omega)).trans Vs_7.out)); clear hra hba)
        | (go_at_call 11; refine (implBlkCrash_any _ _ L [] (keepZ bs) _ (Rs_7.out.below (by repeat (first | exact BA.out | exact Below.refl _ _ | refine below_allocQ ?_ _ | refine Below.drew ?_))) (by first | exact RZ.out | exact Rd.below RZ.out (by repeat (first | exact Below.refl _ _ | refine below_allocQ ?_ _ | refine Below.drew ?_))) (HG.out.below (below_trans B_7.out (by repeat (first | exact BA.out | exact Below.refl _ _ | refine below_allocQ ?_ _ | refine Below.drew ?_)) (by omega))) (by omega) (by first | omega | simp) (by omega)).mono ?_; rw [XO.out.1, XO.out.2]; rintro e wf ⟨vf, rfl, hrf, hbf⟩; obtain ⟨vWf, vPf, rfl, hIf, hSf⟩ := hrf.rd; obtain ⟨aWf, cWf, rfl⟩ := RdI.form hIf hL; obtain ⟨aPf, cPf, rfl⟩ := RdE.form hSf (n := 0) rfl; have RF := hideIt hrf; have BF : Hid (Below w7.heap.size w7 wf) := below_trans (b := _) (by repeat (first | exact BA.out | exact Below.refl _ _ | refine below_allocQ ?_ _ | refine Below.drew ?_)) hbf (Below.size (B := w7.heap.size) (by repeat (first | exact BA.out | exact Below.refl _ _ | refine below_allocQ ?_ _ | refine Below.drew ?_))); (first | (have VY : Hid (wf.heap[w7.heap.size]? = some (.cells #[.slice none 0 0, .slice none 0 0] 26 (0, 0))) := (hbf.block w7.heap.size (Array.getElem?_eq_some_iff.1 VX.out).1).trans VX.out; obtain ⟨t1, t2, t3, t4⟩ := two_cells VY.out) | (have VY : Hid (wf.heap[wa.heap.size]? = some (.cells #[.slice none 0 0, .slice none 0 0] 26 (0, 0))) := (hbf.block wa.heap.size (by first | (rw [World.size_alloc]; exact Nat.lt_succ_self _) | (show _ < (World.alloc _ _).heap.size; rw [World.size_alloc]; exact Nat.lt_succ_self _))).trans (at_new rfl); obtain ⟨t1, t2, t3, t4⟩ := two_cells VY.out) | skip); clear hrf hbf hIf hSf))
      all_goals
        go_wp2_with fail
        go_meet
        refine ⟨aWf, aPf, cWf, cPf, _, rfl, rfl, ?_⟩
        first
          | exact CutE.new RF.out BF.out
          | exact (CutE.new RF.out BF.out).drew
          | exact CutE.old (by first | exact (Array.getElem?_eq_some_iff.1 VX.out).1 | (rw [World.size_alloc]; exact Nat.lt_succ_self _) | (show _ < (World.alloc _ _).heap.size; rw [World.size_alloc]; exact Nat.lt_succ_self _)) RF.out BF.out (Nat.le_refl _) VY.out
          | exact (CutE.old (by first | exact (Array.getElem?_eq_some_iff.1 VX.out).1 | (rw [World.size_alloc]; exact Nat.lt_succ_self _) | (show _ < (World.alloc _ _).heap.size; rw [World.size_alloc]; exact Nat.lt_succ_self _)) RF.out BF.out (Nat.le_refl _) VY.out).drew
          | exact CutE.old (by first | exact (Array.getElem?_eq_some_iff.1 VX.out).1 | (rw [World.size_alloc]; exact Nat.lt_succ_self _) | (show _ < (World.alloc _ _).heap.size; rw [World.size_alloc]; exact Nat.lt_succ_self _)) RF.out BF.out BA.out.size VY.out
          | exact (CutE.old (by first | exact (Array.getElem?_eq_some_iff.1 VX.out).1 | (rw [World.size_alloc]; exact Nat.lt_succ_self _) | (show _ < (World.alloc _ _).heap.size; rw [World.size_alloc]; exact Nat.lt_succ_self _)) RF.out BF.out BA.out.size VY.out).drew
  case rest =>
  as_aux_lemma =>
  rename World => w8
  clear ls0 ls1 ls2 ls3
  obtain ⟨aWx, aPx, cWx, cPx, bx, rfl, rfl, C⟩ := hcut
  have hb8 := C.out.below
  have hlx := C.out.lo
  have hhx := C.out.hi
  have Vx_8 := hideIt C.out.box
  have Rx_8 := hideIt C.out.rd
  clear C
  have hz8 : w7.heap.size + 0 ≤ w8.heap.size := by have := hb8.size; first | omega | (simp only [World.size_alloc] at this; omega)
  have B_8 := hideIt (below_trans B_7.out hb8 (by first | omega | (simp only [World.size_alloc]; omega)))
  have Vp_8 := hideIt ((hb8.block _ (by first | omega | (simp only [World.size_alloc]; omega))).trans Vp_7.out)
  have Va_8 := hideIt ((hb8.block _ (by first | omega | (simp only [World.size_alloc]; omega))).trans Va_7.out)
  have Vs_8 := hideIt ((hb8.block _ (by first | omega | (simp only [World.size_alloc]; omega))).trans Vs_7.out)
  have Rp_8 := hideIt (Rp_7.out.below hb8)
  have Ra_8 := hideIt (Ra_7.out.below hb8)
  have Rs_8 := hideIt (Rs_7.out.below hb8)
  clear B_7 Vp_7 Va_7 Vs_7 Rp_7 Ra_7 Rs_7
  clear hb8
  clear Vs_8 Rs_8
  obtain ⟨lx0, lx1, lx2, lx3⟩ := two_cells Vx_8.out
  go_wp2_with fail
  refine (implBlkRead_any _ L [] (k : Int) _ Rx_8.out (HG.out.below B_8.out) (by omega) (by simp)).mono ?_
  rw [LX.out, AO5.out]
  rintro e w9 ⟨rfl, hb9⟩
  clear lx0 lx1 lx2 lx3
  have hz9 : w8.heap.size + 0 ≤ w9.heap.size := by have := hb9.size; first | omega | (simp only [World.size_alloc] at this; omega)
  have B_9 := hideIt (below_trans B_8.out hb9 (by first | omega | (simp only [World.size_alloc]; omega)))
  have Vp_9 := hideIt ((hb9.block _ (by first | omega | (simp only [World.size_alloc]; omega))).trans Vp_8.out)
  have Va_9 := hideIt ((hb9.block _ (by first | omega | (simp only [World.size_alloc]; omega))).trans Va_8.out)
  have Vx_9 := hideIt ((hb9.block _ (by first | omega | (simp only [World.size_alloc]; omega))).trans Vx_8.out)
  have Rp_9 := hideIt (Rp_8.out.below hb9)
  have Ra_9 := hideIt (Ra_8.out.below hb9)
  have Rx_9 := hideIt (Rx_8.out.below hb9)
  clear B_8 Vp_8 Va_8 Vx_8 Rp_8 Ra_8 Rx_8
  clear hb9
  clear Vx_9 Rx_9
  obtain ⟨la0, la1, la2, la3⟩ := two_cells Va_9.out
  have B_9b := hideIt (B_9.out.alloc (by first | omega | (simp only [World.size_alloc]; omega)) (.cells #[.int .i64 0] 3))
  have Vp_9b := hideIt (at_old (o := .cells #[.int .i64 0] 3) Vp_9.out)
  have Va_9b := hideIt (at_old (o := .cells #[.int .i64 0] 3) Va_9.out)
  have Rp_9b := hideIt (Rp_9.out.below ((Below.refl _ _).alloc (Nat.le_refl _) (.cells #[.int .i64 0] 3)))
  have Ra_9b := hideIt (Ra_9.out.below ((Below.refl _ _).alloc (Nat.le_refl _) (.cells #[.int .i64 0] 3)))
  clear B_9 Vp_9 Va_9 Rp_9 Ra_9
  have RZ : Hid (RdI (w9.alloc (.cells #[.int .i64 0] 3)) (.slice (some ⟨w9.heap.size, 0, none⟩) 1 1) [0]) := by
    have h := rd_int w9 0
    exact h
  go_wp2_with fail
  refine (implBlkCrash_any _ _ ws qs [0] _ Ra_9b.out RZ.out (HG.out.below B_9b.out) (by omega) (by omega) (by simp)).mono ?_
  rw [E0.out.1, E0.out.2]
  rintro e w10 ⟨v10, rfl, hr10, hb10⟩
  obtain ⟨vW10, vP10, rfl, hI10, hS10⟩ := hr10.rd
  obtain ⟨aW10, cW10, rfl⟩ := RdI.form hI10 hwl
  obtain ⟨aP10, cP10, rfl⟩ := RdE.form hS10 (n := 0) rfl
  clear la0 la1 la2 la3
  have hz10 : w9.heap.size + 1 ≤ w10.heap.size := by have := hb10.size; first | omega | (simp only [World.size_alloc] at this; omega)
  have B_10 := hideIt (below_trans B_9b.out hb10 (by first | omega | (simp only [World.size_alloc]; omega)))
  have Vp_10 := hideIt ((hb10.block _ (by first | omega | (simp only [World.size_alloc]; omega))).trans Vp_9b.out)
  have Va_10 := hideIt ((hb10.block _ (by first | omega | (simp only [World.size_alloc]; omega))).trans Va_9b.out)
  have Rp_10 := hideIt (Rp_9b.out.below hb10)
  have Ra_10 := hideIt (Ra_9b.out.below hb10)
  clear B_9b Vp_9b Va_9b Rp_9b Ra_9b
  have Rn_10 := hideIt hr10.rd
  clear hI10 hS10 hr10 hb10 E0 RZ
  have B_10b := hideIt (B_10.out.alloc (by first | omega | (simp only [World.size_alloc]; omega)) (.cells #[.slice aW10 32 cW10, .slice aP10 0 cP10] 26))
  have Vp_10b := hideIt (at_old (o := .cells #[.slice aW10 32 cW10, .slice aP10 0 cP10] 26) Vp_10.out)
  have Va_10b := hideIt (at_old (o := .cells #[.slice aW10 32 cW10, .slice aP10 0 cP10] 26) Va_10.out)
  have Rp_10b := hideIt (Rp_10.out.below ((Below.refl _ _).alloc (Nat.le_refl _) (.cells #[.slice aW10 32 cW10, .slice aP10 0 cP10] 26)))
  have Ra_10b := hideIt (Ra_10.out.below ((Below.refl _ _).alloc (Nat.le_refl _) (.cells #[.slice aW10 32 cW10, .slice aP10 0 cP10] 26)))
  have Rn_10b := hideIt (Rn_10.out.below ((Below.refl _ _).alloc (Nat.le_refl _) (.cells #[.slice aW10 32 cW10, .slice aP10 0 cP10] 26)))
  clear B_10 Vp_10 Va_10 Rp_10 Ra_10 Rn_10
  have Vn_10b : Hid ((w10.alloc (.cells #[.slice aW10 32 cW10, .slice aP10 0 cP10] 26)).heap[w10.heap.size]? = some (.cells #[.slice aW10 32 cW10, .slice aP10 0 cP10] 26 (0, 0))) := at_new rfl
  obtain ⟨la0, la1, la2, la3⟩ := two_cells Va_10b.out
  have B_10bb := hideIt (B_10b.out.alloc (by first | omega | (simp only [World.size_alloc]; omega)) (.cells #[.int .i64 400] 3))
  have Vp_10bb := hideIt (at_old (o := .cells #[.int .i64 400] 3) Vp_10b.out)
  have Va_10bb := hideIt (at_old (o := .cells #[.int .i64 400] 3) Va_10b.out)
  have Vn_10bb := hideIt (at_old (o := .cells #[.int .i64 400] 3) Vn_10b.out)
  have Rp_10bb := hideIt (Rp_10b.out.below ((Below.refl _ _).alloc (Nat.le_refl _) (.cells #[.int .i64 400] 3)))
  have Ra_10bb := hideIt (Ra_10b.out.below ((Below.refl _ _).alloc (Nat.le_refl _) (.cells #[.int .i64 400] 3)))
  have Rn_10bb := hideIt (Rn_10b.out.below ((Below.refl _ _).alloc (Nat.le_refl _) (.cells #[.int .i64 400] 3)))
  clear B_10b Vp_10b Va_10b Vn_10b Rp_10b Ra_10b Rn_10b
  have RZ : Hid (RdI ((w10.alloc (.cells #[.slice aW10 32 cW10, .slice aP10 0 cP10] 26)).alloc (.cells #[.int .i64 400] 3)) (.slice (some ⟨w10.heap.size + 1, 0, none⟩) 1 1) [400]) := by
    have h := rd_int (w10.alloc (.cells #[.slice aW10 32 cW10, .slice aP10 0 cP10] 26)) 400
    rw [World.size_alloc] at h
    exact h
  go_wp2_with fail
  refine (implBlkCrash_any _ _ ws qs [400] _ Ra_10bb.out RZ.out (HG.out.below B_10bb.out) (by omega) (by omega) (by simp)).mono ?_
  rw [E4.out.1, E4.out.2]
  rintro e w11 ⟨v11, rfl, hr11, hb11⟩
  obtain ⟨vW11, vP11, rfl, hI11, hS11⟩ := hr11.rd
  obtain ⟨aW11, cW11, rfl⟩ := RdI.form hI11 hL
  obtain ⟨aP11, cP11, rfl⟩ := RdE.form hS11 (n := 0) rfl
  clear la0 la1 la2 la3
  have hz11 : w10.heap.size + 2 ≤ w11.heap.size := by have := hb11.size; first | omega | (simp only [World.size_alloc] at this; omega)
  have B_11 := hideIt (below_trans B_10bb.out hb11 (by first | omega | (simp only [World.size_alloc]; omega)))
  have Vp_11 := hideIt ((hb11.block _ (by first | omega | (simp only [World.size_alloc]; omega))).trans Vp_10bb.out)
  have Va_11 := hideIt ((hb11.block _ (by first | omega | (simp only [World.size_alloc]; omega))).trans Va_10bb.out)
  have Vn_11 := hideIt ((hb11.block _ (by first | omega | (simp only [World.size_alloc]; omega))).trans Vn_10bb.out)
  have Rp_11 := hideIt (Rp_10bb.out.below hb11)
  have Ra_11 := hideIt (Ra_10bb.out.below hb11)
  have Rn_11 := hideIt (Rn_10bb.out.below hb11)
  clear B_10bb Vp_10bb Va_10bb Vn_10bb Rp_10bb Ra_10bb Rn_10bb
  have Rl_11 := hideIt hr11.rd
  clear hI11 hS11 hr11 hb11 E4 RZ
  have B_11b := hideIt (B_11.out.alloc (by first | omega | (simp only [World.size_alloc]; omega)) (.cells #[.slice aW11 32 cW11, .slice aP11 0 cP11] 26))
  have Vp_11b := hideIt (at_old (o := .cells #[.slice aW11 32 cW11, .slice aP11 0 cP11] 26) Vp_11.out)
  have Va_11b := hideIt (at_old (o := .cells #[.slice aW11 32 cW11, .slice aP11 0 cP11] 26) Va_11.out)
  have Vn_11b := hideIt (at_old (o := .cells #[.slice aW11 32 cW11, .slice aP11 0 cP11] 26) Vn_11.out)
  have Rp_11b := hideIt (Rp_11.out.below ((Below.refl _ _).alloc (Nat.le_refl _) (.cells #[.slice aW11 32 cW11, .slice aP11 0 cP11] 26)))
  have Ra_11b := hideIt (Ra_11.out.below ((Below.refl _ _).alloc (Nat.le_refl _) (.cells #[.slice aW11 32 cW11, .slice aP11 0 cP11] 26)))
  have Rn_11b := hideIt (Rn_11.out.below ((Below.refl _ _).alloc (Nat.le_refl _) (.cells #[.slice aW11 32 cW11, .slice aP11 0 cP11] 26)))
  have Rl_11b := hideIt (Rl_11.out.below ((Below.refl _ _).alloc (Nat.le_refl _) (.cells #[.slice aW11 32 cW11, .slice aP11 0 cP11] 26)))
  clear B_11 Vp_11 Va_11 Vn_11 Rp_11 Ra_11 Rn_11 Rl_11
  have Vl_11b : Hid ((w11.alloc (.cells #[.slice aW11 32 cW11, .slice aP11 0 cP11] 26)).heap[w11.heap.size]? = some (.cells #[.slice aW11 32 cW11, .slice aP11 0 cP11] 26 (0, 0))) := at_new rfl
  go_upto_region 13 with fail
  obtain ⟨w12, hw12⟩ : ∃ w12 : World, w12 = w11.alloc (.cells #[.slice aW11 32 cW11, .slice aP11 0 cP11] 26) := ⟨_, rfl⟩
  rw [← hw12]
  have hz12 : w11.heap.size + 1 ≤ w12.heap.size := by rw [hw12]; simp
  have B_12 := B_11b
  rw [← hw12] at B_12
  have Vp_12 := Vp_11b
  rw [← hw12] at Vp_12
  have Va_12 := Va_11b
  rw [← hw12] at Va_12
  have Vn_12 := Vn_11b
  rw [← hw12] at Vn_12
  have Vl_12 := Vl_11b
  rw [← hw12] at Vl_12
  have Rp_12 := Rp_11b
  rw [← hw12] at Rp_12
  have Ra_12 := Ra_11b
  rw [← hw12] at Ra_12
  have Rn_12 := Rn_11b
  rw [← hw12] at Rn_12
  have Rl_12 := Rl_11b
  rw [← hw12] at Rl_12
  clear hw12 B_11b Vp_11b Va_11b Vn_11b Vl_11b Rp_11b Ra_11b Rn_11b Rl_11b
  obtain ⟨la0, la1, la2, la3⟩ := two_cells Va_12.out
  go_cut [22, 23] (fun s t wx => ∃ (aW aP : Option Addr) (cW cP bx : Nat), t = .int .i64 0 ∧ s = .pointer (some ⟨bx, 0, none⟩) ∧ Hid (CutE w12 wx (Y) aW aP cW cP bx))
  case first =>
    as_aux_lemma =>
      obtain ⟨q2, q3, -, -⟩ := two_cells (at_old (o := .cells #[.slice none 0 0, .slice none 0 0] 26) Va_12.out)
      go_region_with (first
        | (go_at_call 12; refine (keepsOf_any _ cs _ (HA.out.below (below_trans B_12.out (by repeat (first | exact Below.refl _ _ | refine below_allocQ ?_ _ | refine Below.drew ?_)) (by omega))) (by omega)).mono ?_; rintro e wa ⟨va, rfl, hra, hba⟩; obtain ⟨aZ, cZ, rfl⟩ := RdI.form hra.rd rfl; have RZ := hideIt hra.rd; have BA : Hid (Below w12.heap.size w12 wa) := below_trans (b := _) (by repeat (first | exact Below.refl _ _ | refine below_allocQ ?_ _ | refine Below.drew ?_)) hba (Below.size (B := w12.heap.size) (by repeat (first | exact Below.refl _ _ | refine below_allocQ ?_ _ | refine Below.drew ?_))); have hza : w12.heap.size ≤ wa.heap.size := BA.out.size; (first | (have VX : Hid (wa.heap[w12.heap.size]? = some (.cells #[.slice none 0 0, .slice none 0 0] 26 (0, 0))) := (hba.block w12.heap.size (by first | (rw [World.size_alloc]; exact Nat.lt_succ_self _) | (show _ < (World.alloc _ _).heap.size; rw [World.size_alloc]; exact Nat.lt_succ_self _))).trans (at_new rfl)) | skip); obtain ⟨y1, y2, -, -⟩ := two_cells ((BA.out.block w4.heap.size (by omega)).trans Va_12.out); obtain ⟨u0, u1, -, -⟩ := two_cells (at_old (o := .cells #[.slice none 0 0, .slice none 0 0] 26) ((BA.out.block w4.heap.size (by omega)).trans Va_12.out)); clear hra hba)
        | (go_at_call 11; refine (implBlkCrash_any _ _ ws qs (keepZ cs) _ (Ra_12.out.below (by repeat (first | exact BA.out | exact Below.refl _ _ | refine below_allocQ ?_ _ | refine Below.drew ?_))) (by first | exact RZ.out | exact Rd.below RZ.out (by repeat (first | exact Below.refl _ _ | refine below_allocQ ?_ _ | refine Below.drew ?_))) (HG.out.below (below_trans B_12.out (by repeat (first | exact BA.out | exact Below.refl _ _ | refine below_allocQ ?_ _ | refine Below.drew ?_)) (by omega))) (by omega) (by first | omega | simp) (by omega)).mono ?_; rw [YO.out.1, YO.out.2]; rintro e wf ⟨vf, rfl, hrf, hbf⟩; obtain ⟨vWf, vPf, rfl, hIf, hSf⟩ := hrf.rd; obtain ⟨aWf, cWf, rfl⟩ := RdI.form hIf hY; obtain ⟨aPf, cPf, rfl⟩ := RdE.form hSf (n := 0) rfl; have RF := hideIt hrf; have BF : Hid (Below w12.heap.size w12 wf) := below_trans (b := _) (by repeat (first | exact BA.out | exact Below.refl _ _ | refine below_allocQ ?_ _ | refine Below.drew ?_)) hbf (Below.size (B := w12.heap.size) (by repeat (first | exact BA.out | exact Below.refl _ _ | refine below_allocQ ?_ _ | refine Below.drew ?_))); (first | (have VY : Hid (wf.heap[w12.heap.size]? = some (.cells #[.slice none 0 0, .slice none 0 0] 26 (0, 0))) := (hbf.block w12.heap.size (Array.getElem?_eq_some_iff.1 VX.out).1).trans VX.out; obtain ⟨t1, t2, t3, t4⟩ := two_cells VY.out) | (have VY : Hid (wf.heap[wa.heap.size]? = some (.cells #[.slice none 0 0, .slice none 0 0] 26 (0, 0))) := (hbf.block wa.heap.size (by first | (rw [World.size_alloc]; exact Nat.lt_succ_self _) | (show _ < (World.alloc _ _).heap.size; rw [World.size_alloc]; exact Nat.lt_succ_self _))).trans (at_new rfl); obtain ⟨t1, t2, t3, t4⟩ := two_cells VY.out) | skip); clear hrf hbf hIf hSf))
      all_goals
        go_wp2_with fail
        go_meet
        refine ⟨aWf, aPf, cWf, cPf, _, rfl, rfl, ?_⟩
        first
          | exact CutE.new RF.out BF.out
          | exact (CutE.new RF.out BF.out).drew
          | exact CutE.old (by first | exact (Array.getElem?_eq_some_iff.1 VX.out).1 | (rw [World.size_alloc]; exact Nat.lt_succ_self _) | (show _ < (World.alloc _ _).heap.size; rw [World.size_alloc]; exact Nat.lt_succ_self _)) RF.out BF.out (Nat.le_refl _) VY.out
          | exact (CutE.old (by first | exact (Array.getElem?_eq_some_iff.1 VX.out).1 | (rw [World.size_alloc]; exact Nat.lt_succ_self _) | (show _ < (World.alloc _ _).heap.size; rw [World.size_alloc]; exact Nat.lt_succ_self _)) RF.out BF.out (Nat.le_refl _) VY.out).drew
          | exact CutE.old (by first | exact (Array.getElem?_eq_some_iff.1 VX.out).1 | (rw [World.size_alloc]; exact Nat.lt_succ_self _) | (show _ < (World.alloc _ _).heap.size; rw [World.size_alloc]; exact Nat.lt_succ_self _)) RF.out BF.out BA.out.size VY.out
          | exact (CutE.old (by first | exact (Array.getElem?_eq_some_iff.1 VX.out).1 | (rw [World.size_alloc]; exact Nat.lt_succ_self _) | (show _ < (World.alloc _ _).heap.size; rw [World.size_alloc]; exact Nat.lt_succ_self _)) RF.out BF.out BA.out.size VY.out).drew
  case rest =>
  as_aux_lemma =>
  rename World => w13
  clear la0 la1 la2 la3
  obtain ⟨aWg, aPg, cWg, cPg, bg, rfl, rfl, C⟩ := hcut
  have hb13 := C.out.below
  have hlg := C.out.lo
  have hhg := C.out.hi
  have Vg_13 := hideIt C.out.box
  have Rg_13 := hideIt C.out.rd
  clear C
  have hz13 : w12.heap.size + 0 ≤ w13.heap.size := by have := hb13.size; first | omega | (simp only [World.size_alloc] at this; omega)
  have B_13 := hideIt (below_trans B_12.out hb13 (by first | omega | (simp only [World.size_alloc]; omega)))
  have Vp_13 := hideIt ((hb13.block _ (by first | omega | (simp only [World.size_alloc]; omega))).trans Vp_12.out)
  have Va_13 := hideIt ((hb13.block _ (by first | omega | (simp only [World.size_alloc]; omega))).trans Va_12.out)
  have Vn_13 := hideIt ((hb13.block _ (by first | omega | (simp only [World.size_alloc]; omega))).trans Vn_12.out)
  have Vl_13 := hideIt ((hb13.block _ (by first | omega | (simp only [World.size_alloc]; omega))).trans Vl_12.out)
  have Rp_13 := hideIt (Rp_12.out.below hb13)
  have Ra_13 := hideIt (Ra_12.out.below hb13)
  have Rn_13 := hideIt (Rn_12.out.below hb13)
  have Rl_13 := hideIt (Rl_12.out.below hb13)
  clear B_12 Vp_12 Va_12 Vn_12 Vl_12 Rp_12 Ra_12 Rn_12 Rl_12
  clear hb13
  go_upto_region 14 with fail
  obtain ⟨la0, la1, la2, la3⟩ := two_cells Va_13.out
  go_cut [24, 25] (fun s t wx => ∃ (aW aP : Option Addr) (cW cP bx : Nat), t = .int .i64 0 ∧ s = .pointer (some ⟨bx, 0, none⟩) ∧ Hid (CutE w13 wx (Y) aW aP cW cP bx))
  case first =>
    as_aux_lemma =>
      obtain ⟨q2, q3, -, -⟩ := two_cells (at_old (o := .cells #[.slice none 0 0, .slice none 0 0] 26) Va_13.out)
      go_region_with (first
        | (go_at_call 12; refine (keepsOf_any _ cs _ (HA.out.below (below_trans B_13.out (by repeat (first | exact Below.refl _ _ | refine below_allocQ ?_ _ | refine Below.drew ?_)) (by omega))) (by omega)).mono ?_; rintro e wa ⟨va, rfl, hra, hba⟩; obtain ⟨aZ, cZ, rfl⟩ := RdI.form hra.rd rfl; have RZ := hideIt hra.rd; have BA : Hid (Below w13.heap.size w13 wa) := below_trans (b := _) (by repeat (first | exact Below.refl _ _ | refine below_allocQ ?_ _ | refine Below.drew ?_)) hba (Below.size (B := w13.heap.size) (by repeat (first | exact Below.refl _ _ | refine below_allocQ ?_ _ | refine Below.drew ?_))); have hza : w13.heap.size ≤ wa.heap.size := BA.out.size; (first | (have VX : Hid (wa.heap[w13.heap.size]? = some (.cells #[.slice none 0 0, .slice none 0 0] 26 (0, 0))) := (hba.block w13.heap.size (by first | (rw [World.size_alloc]; exact Nat.lt_succ_self _) | (show _ < (World.alloc _ _).heap.size; rw [World.size_alloc]; exact Nat.lt_succ_self _))).trans (at_new rfl)) | skip); obtain ⟨y1, y2, -, -⟩ := two_cells ((BA.out.block w4.heap.size (by omega)).trans Va_13.out); obtain ⟨u0, u1, -, -⟩ := two_cells (at_old (o := .cells #[.slice none 0 0, .slice none 0 0] 26) ((BA.out.block w4.heap.size (by omega)).trans Va_13.out)); clear hra hba)
        | (go_at_call 13; refine (specBlkCrash_any _ _ ws qs (keepZ cs) _ (Ra_13.out.below (by repeat (first | exact BA.out | exact Below.refl _ _ | refine below_allocQ ?_ _ | refine Below.drew ?_))) (by first | exact RZ.out | exact Rd.below RZ.out (by repeat (first | exact Below.refl _ _ | refine below_allocQ ?_ _ | refine Below.drew ?_))) (by omega) (by first | omega | simp) (by omega)).mono ?_; rw [YO.out.1, YO.out.2]; rintro e wf ⟨vf, rfl, hrf, hbf⟩; obtain ⟨vWf, vPf, rfl, hIf, hSf⟩ := hrf.rd; obtain ⟨aWf, cWf, rfl⟩ := RdI.form hIf hY; obtain ⟨aPf, cPf, rfl⟩ := RdE.form hSf (n := 0) rfl; have RF := hideIt hrf; have BF : Hid (Below w13.heap.size w13 wf) := below_trans (b := _) (by repeat (first | exact BA.out | exact Below.refl _ _ | refine below_allocQ ?_ _ | refine Below.drew ?_)) hbf (Below.size (B := w13.heap.size) (by repeat (first | exact BA.out | exact Below.refl _ _ | refine below_allocQ ?_ _ | refine Below.drew ?_))); (first | (have VY : Hid (wf.heap[w13.heap.size]? = some (.cells #[.slice none 0 0, .slice none 0 0] 26 (0, 0))) := (hbf.block w13.heap.size (Array.getElem?_eq_some_iff.1 VX.out).1).trans VX.out; obtain ⟨t1, t2, t3, t4⟩ := two_cells VY.out) | (have VY : Hid (wf.heap[wa.heap.size]? = some (.cells #[.slice none 0 0, .slice none 0 0] 26 (0, 0))) := (hbf.block wa.heap.size (by first | (rw [World.size_alloc]; exact Nat.lt_succ_self _) | (show _ < (World.alloc _ _).heap.size; rw [World.size_alloc]; exact Nat.lt_succ_self _))).trans (at_new rfl); obtain ⟨t1, t2, t3, t4⟩ := two_cells VY.out) | skip); clear hrf hbf hIf hSf))
      all_goals
        go_wp2_with fail
        go_meet
        refine ⟨aWf, aPf, cWf, cPf, _, rfl, rfl, ?_⟩
        first
          | exact CutE.new RF.out BF.out
          | exact (CutE.new RF.out BF.out).drew
          | exact CutE.old (by first | exact (Array.getElem?_eq_some_iff.1 VX.out).1 | (rw [World.size_alloc]; exact Nat.lt_succ_self _) | (show _ < (World.alloc _ _).heap.size; rw [World.size_alloc]; exact Nat.lt_succ_self _)) RF.out BF.out (Nat.le_refl _) VY.out
          | exact (CutE.old (by first | exact (Array.getElem?_eq_some_iff.1 VX.out).1 | (rw [World.size_alloc]; exact Nat.lt_succ_self _) | (show _ < (World.alloc _ _).heap.size; rw [World.size_alloc]; exact Nat.lt_succ_self _)) RF.out BF.out (Nat.le_refl _) VY.out).drew
          | exact CutE.old (by first | exact (Array.getElem?_eq_some_iff.1 VX.out).1 | (rw [World.size_alloc]; exact Nat.lt_succ_self _) | (show _ < (World.alloc _ _).heap.size; rw [World.size_alloc]; exact Nat.lt_succ_self _)) RF.out BF.out BA.out.size VY.out
          | exact (CutE.old (by first | exact (Array.getElem?_eq_some_iff.1 VX.out).1 | (rw [World.size_alloc]; exact Nat.lt_succ_self _) | (show _ < (World.alloc _ _).heap.size; rw [World.size_alloc]; exact Nat.lt_succ_self _)) RF.out BF.out BA.out.size VY.out).drew
  case rest =>
  as_aux_lemma =>
  rename World => w14
  clear la0 la1 la2 la3
  obtain ⟨aWj, aPj, cWj, cPj, bj, rfl, rfl, C⟩ := hcut
  have hb14 := C.out.below
  have hlj := C.out.lo
  have hhj := C.out.hi
  have Vj_14 := hideIt C.out.box
  have Rj_14 := hideIt C.out.rd
  clear C
  have hz14 : w13.heap.size + 0 ≤ w14.heap.size := by have := hb14.size; first | omega | (simp only [World.size_alloc] at this; omega)
  have B_14 := hideIt (below_trans B_13.out hb14 (by first | omega | (simp only [World.size_alloc]; omega)))
  have Vp_14 := hideIt ((hb14.block _ (by first | omega | (simp only [World.size_alloc]; omega))).trans Vp_13.out)
  have Va_14 := hideIt ((hb14.block _ (by first | omega | (simp only [World.size_alloc]; omega))).trans Va_13.out)
  have Vn_14 := hideIt ((hb14.block _ (by first | omega | (simp only [World.size_alloc]; omega))).trans Vn_13.out)
  have Vl_14 := hideIt ((hb14.block _ (by first | omega | (simp only [World.size_alloc]; omega))).trans Vl_13.out)
  have Vg_14 := hideIt ((hb14.block _ (by first | omega | (simp only [World.size_alloc]; omega))).trans Vg_13.out)
  have Rp_14 := hideIt (Rp_13.out.below hb14)
  have Ra_14 := hideIt (Ra_13.out.below hb14)
  have Rn_14 := hideIt (Rn_13.out.below hb14)
  have Rl_14 := hideIt (Rl_13.out.below hb14)
  have Rg_14 := hideIt (Rg_13.out.below hb14)
  clear B_13 Vp_13 Va_13 Vn_13 Vl_13 Vg_13 Rp_13 Ra_13 Rn_13 Rl_13 Rg_13
  clear hb14
  obtain ⟨la0, la1, la2, la3⟩ := two_cells Va_14.out
  go_wp2_with fail
  refine (implBlkUnsure_any _ ws qs _ Ra_14.out (HG.out.below B_14.out) (by omega) (by omega)).mono ?_
  rw [UO.out.1, UO.out.2]
  rintro e w15 ⟨v15, rfl, hr15, hb15⟩
  obtain ⟨aL15, cL15, rfl⟩ := RdI.form hr15.rd rfl
  clear la0 la1 la2 la3
  have hz15 : w14.heap.size + 0 ≤ w15.heap.size := by have := hb15.size; first | omega | (simp only [World.size_alloc] at this; omega)
  have B_15 := hideIt (below_trans B_14.out hb15 (by first | omega | (simp only [World.size_alloc]; omega)))
  have Vp_15 := hideIt ((hb15.block _ (by first | omega | (simp only [World.size_alloc]; omega))).trans Vp_14.out)
  have Va_15 := hideIt ((hb15.block _ (by first | omega | (simp only [World.size_alloc]; omega))).trans Va_14.out)
  have Vn_15 := hideIt ((hb15.block _ (by first | omega | (simp only [World.size_alloc]; omega))).trans Vn_14.out)
  have Vl_15 := hideIt ((hb15.block _ (by first | omega | (simp only [World.size_alloc]; omega))).trans Vl_14.out)
  have Vg_15 := hideIt ((hb15.block _ (by first | omega | (simp only [World.size_alloc]; omega))).trans Vg_14.out)
  have Vj_15 := hideIt ((hb15.block _ (by first | omega | (simp only [World.size_alloc]; omega))).trans Vj_14.out)
  have Rp_15 := hideIt (Rp_14.out.below hb15)
  have Ra_15 := hideIt (Ra_14.out.below hb15)
  have Rn_15 := hideIt (Rn_14.out.below hb15)
  have Rl_15 := hideIt (Rl_14.out.below hb15)
  have Rg_15 := hideIt (Rg_14.out.below hb15)
  have Rj_15 := hideIt (Rj_14.out.below hb15)
  clear B_14 Vp_14 Va_14 Vn_14 Vl_14 Vg_14 Vj_14 Rp_14 Ra_14 Rn_14 Rl_14 Rg_14 Rj_14
  have Ru_15 : Hid (RdI w15 _ _) := hr15.rd
  clear hr15 hb15
  obtain ⟨la0, la1, la2, la3⟩ := two_cells Va_15.out
  go_wp2_with fail
  refine (specBlkUnsure_any _ ws qs _ Ra_15.out (by omega) (by omega)).mono ?_
  rw [UO.out.1, UO.out.2]
  rintro e w16 ⟨v16, rfl, hr16, hb16⟩
  obtain ⟨aL16, cL16, rfl⟩ := RdI.form hr16.rd rfl
  clear la0 la1 la2 la3
  have hz16 : w15.heap.size + 0 ≤ w16.heap.size := by have := hb16.size; first | omega | (simp only [World.size_alloc] at this; omega)
  have B_16 := hideIt (below_trans B_15.out hb16 (by first | omega | (simp only [World.size_alloc]; omega)))
  have Vp_16 := hideIt ((hb16.block _ (by first | omega | (simp only [World.size_alloc]; omega))).trans Vp_15.out)
  have Va_16 := hideIt ((hb16.block _ (by first | omega | (simp only [World.size_alloc]; omega))).trans Va_15.out)
  have Vn_16 := hideIt ((hb16.block _ (by first | omega | (simp only [World.size_alloc]; omega))).trans Vn_15.out)
  have Vl_16 := hideIt ((hb16.block _ (by first | omega | (simp only [World.size_alloc]; omega))).trans Vl_15.out)
  have Vg_16 := hideIt ((hb16.block _ (by first | omega | (simp only [World.size_alloc]; omega))).trans Vg_15.out)
  have Vj_16 := hideIt ((hb16.block _ (by first | omega | (simp only [World.size_alloc]; omega))).trans Vj_15.out)
  have Rp_16 := hideIt (Rp_15.out.below hb16)
  have Ra_16 := hideIt (Ra_15.out.below hb16)
  have Rn_16 := hideIt (Rn_15.out.below hb16)
  have Rl_16 := hideIt (Rl_15.out.below hb16)
  have Rg_16 := hideIt (Rg_15.out.below hb16)
  have Rj_16 := hideIt (Rj_15.out.below hb16)
  have Ru_16 := hideIt (Rd.below Ru_15.out hb16)
  clear B_15 Vp_15 Va_15 Vn_15 Vl_15 Vg_15 Vj_15 Rp_15 Ra_15 Rn_15 Rl_15 Rg_15 Rj_15 Ru_15
  have Rt_16 : Hid (RdI w16 _ _) := hr16.rd
  clear hr16 hb16
  have hul := unsLE_le qs 32
  clear HA HB HG P2 LD AO2 BO YO XO AO5 LX UO P5
  obtain ⟨ln0, ln1, ln2, ln3⟩ := two_cells Vn_16.out
  obtain ⟨lp0, lp1, lp2, lp3⟩ := two_cells Vp_16.out
  go_wp2_with fail
  refine (sameIntsE_same _ _ ws _ (RdBlk.rdI Rn_16.out) (RdBlk.rdI Rp_16.out) (by omega)).mono ?_
  rintro e w17 ⟨rfl, hb17⟩
  clear ln0 ln1 ln2 ln3 lp0 lp1 lp2 lp3
  have hz17 : w16.heap.size + 0 ≤ w17.heap.size := by have := hb17.size; first | omega | (simp only [World.size_alloc] at this; omega)
  have B_17 := hideIt (below_trans B_16.out hb17 (by first | omega | (simp only [World.size_alloc]; omega)))
  have Vp_17 := hideIt ((hb17.block _ (by first | omega | (simp only [World.size_alloc]; omega))).trans Vp_16.out)
  have Va_17 := hideIt ((hb17.block _ (by first | omega | (simp only [World.size_alloc]; omega))).trans Va_16.out)
  have Vn_17 := hideIt ((hb17.block _ (by first | omega | (simp only [World.size_alloc]; omega))).trans Vn_16.out)
  have Vl_17 := hideIt ((hb17.block _ (by first | omega | (simp only [World.size_alloc]; omega))).trans Vl_16.out)
  have Vg_17 := hideIt ((hb17.block _ (by first | omega | (simp only [World.size_alloc]; omega))).trans Vg_16.out)
  have Vj_17 := hideIt ((hb17.block _ (by first | omega | (simp only [World.size_alloc]; omega))).trans Vj_16.out)
  have Rp_17 := hideIt (Rp_16.out.below hb17)
  have Ra_17 := hideIt (Ra_16.out.below hb17)
  have Rn_17 := hideIt (Rn_16.out.below hb17)
  have Rl_17 := hideIt (Rl_16.out.below hb17)
  have Rg_17 := hideIt (Rg_16.out.below hb17)
  have Rj_17 := hideIt (Rj_16.out.below hb17)
  have Ru_17 := hideIt (Rd.below Ru_16.out hb17)
  have Rt_17 := hideIt (Rd.below Rt_16.out hb17)
  clear B_16 Vp_16 Va_16 Vn_16 Vl_16 Vg_16 Vj_16 Rp_16 Ra_16 Rn_16 Rl_16 Rg_16 Rj_16 Ru_16 Rt_16
  clear hb17
  clear Vn_17 Vp_17 Rn_17 Rp_17
  obtain ⟨al, kl, el, -, hl⟩ := RdI.shape (RdBlk.rdI Rl_17.out)
  simp only [Value.slice.injEq] at el
  obtain ⟨rfl, -, rfl⟩ := el
  obtain ⟨b1, o1, rfl, hb1, hc1⟩ := hl (by omega)
  have x2 := hc1 k (by omega)
  rw [ATk.out (by omega)] at x2
  clear hl hc1 ATk
  obtain ⟨ll0, ll1, ll2, ll3⟩ := two_cells Vl_17.out
  obtain ⟨lg0, lg1, lg2, lg3⟩ := two_cells Vg_17.out
  obtain ⟨lj0, lj1, lj2, lj3⟩ := two_cells Vj_17.out
  go_wp2_with fail
  refine (sameBlk_same _ _ Y _ Rg_17.out Rj_17.out (by omega)).mono ?_
  rintro e w18 ⟨rfl, hb18⟩
  clear ll0 ll1 ll2 ll3 lg0 lg1 lg2 lg3 lj0 lj1 lj2 lj3 x2
  have hz18 : w17.heap.size + 0 ≤ w18.heap.size := by have := hb18.size; first | omega | (simp only [World.size_alloc] at this; omega)
  have B_18 := hideIt (below_trans B_17.out hb18 (by first | omega | (simp only [World.size_alloc]; omega)))
  have Va_18 := hideIt ((hb18.block _ (by first | omega | (simp only [World.size_alloc]; omega))).trans Va_17.out)
  have Vl_18 := hideIt ((hb18.block _ (by first | omega | (simp only [World.size_alloc]; omega))).trans Vl_17.out)
  have Vg_18 := hideIt ((hb18.block _ (by first | omega | (simp only [World.size_alloc]; omega))).trans Vg_17.out)
  have Vj_18 := hideIt ((hb18.block _ (by first | omega | (simp only [World.size_alloc]; omega))).trans Vj_17.out)
  have Ra_18 := hideIt (Ra_17.out.below hb18)
  have Rl_18 := hideIt (Rl_17.out.below hb18)
  have Rg_18 := hideIt (Rg_17.out.below hb18)
  have Rj_18 := hideIt (Rj_17.out.below hb18)
  have Ru_18 := hideIt (Rd.below Ru_17.out hb18)
  have Rt_18 := hideIt (Rd.below Rt_17.out hb18)
  clear B_17 Va_17 Vl_17 Vg_17 Vj_17 Ra_17 Rl_17 Rg_17 Rj_17 Ru_17 Rt_17
  clear hb18
  clear Vl_18 Vg_18 Vj_18 Rl_18 Rg_18 Rj_18
  go_wp2_with fail
  refine (sameIntsE_same _ _ (unsLE qs 32) _ Ru_18.out Rt_18.out (by omega)).mono ?_
  rintro e w19 ⟨rfl, hb19⟩
  have hz19 : w18.heap.size + 0 ≤ w19.heap.size := by have := hb19.size; first | omega | (simp only [World.size_alloc] at this; omega)
  have B_19 := hideIt (below_trans B_18.out hb19 (by first | omega | (simp only [World.size_alloc]; omega)))
  have Va_19 := hideIt ((hb19.block _ (by first | omega | (simp only [World.size_alloc]; omega))).trans Va_18.out)
  have Ra_19 := hideIt (Ra_18.out.below hb19)
  have Ru_19 := hideIt (Rd.below Ru_18.out hb19)
  have Rt_19 := hideIt (Rd.below Rt_18.out hb19)
  clear B_18 Va_18 Ra_18 Ru_18 Rt_18
  clear hb19
  obtain ⟨la0, la1, la2, la3⟩ := two_cells Va_19.out
  go_wp2_with fail
  refine (implBlkOK_any _ ws qs _ Ra_19.out (by omega) (by omega)).mono ?_
  rw [OK2.out]
  rintro e w20 ⟨rfl, hb20⟩
  clear la0 la1 la2 la3
  have hz20 : w19.heap.size + 0 ≤ w20.heap.size := by have := hb20.size; first | omega | (simp only [World.size_alloc] at this; omega)
  have B_20 := hideIt (below_trans B_19.out hb20 (by first | omega | (simp only [World.size_alloc]; omega)))
  have Va_20 := hideIt ((hb20.block _ (by first | omega | (simp only [World.size_alloc]; omega))).trans Va_19.out)
  have Ra_20 := hideIt (Ra_19.out.below hb20)
  have Ru_20 := hideIt (Rd.below Ru_19.out hb20)
  have Rt_20 := hideIt (Rd.below Rt_19.out hb20)
  clear B_19 Va_19 Ra_19 Ru_19 Rt_19
  clear hb20
  go_wp2
  go_ret
  exact ⟨rfl, B_20.out⟩
end Go.Proofs.YtbjcoeimcdodjaaDoor
