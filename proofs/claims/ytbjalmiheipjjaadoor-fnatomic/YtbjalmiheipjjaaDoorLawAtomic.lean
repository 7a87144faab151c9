/- The law of the journal with a crash: the walk. -/
import Derived.Test.YtbjalmiheipjjaaDoorZBW
import Derived.Deep.DeepCutAuto
import Derived.Deep.RegionWith
namespace Go.Proofs.YtbjalmiheipjjaaDoor
open Go.RowKit
set_option maxRecDepth 100000 in
set_option maxHeartbeats 16000000 in
theorem fnAtomic_law (vA vB : Value) (cs bs : List Int) (w : World) (hS : SB w) (ha : RdB w vA cs) (hb : RdB w vB bs) (hla : cs.length ≤ maxLen) (hlb : bs.length ≤ maxLen) :
    Calls Tryd.prog 3 #[vA, vB] w fun e w' => e = .returned (.bool true) ∧ Below w.heap.size w w' := by
  have HA := hideIt ha
  have HB := hideIt hb
  have HS := hideIt hS
  obtain ⟨aA, cA, rfl, _⟩ := ha.shape
  obtain ⟨aB, cB, rfl, _⟩ := hb.shape
  simp only [maxLen] at hla hlb
  clear ha hb hS
  by_cases c1 : 1048576 < cs.length
  · go_enter Tryd.func3, Tryd.ntmps3
    go_wp2
    go_ret
    exact ⟨rfl, Below.refl _ _⟩
  by_cases c2 : 1048576 < bs.length
  · go_enter Tryd.func3, Tryd.ntmps3
    go_wp2
    go_ret
    exact ⟨rfl, Below.refl _ _⟩
  have k336 := run_make336
  go_enter Tryd.func3, Tryd.ntmps3
  go_wp2_with fail
  refine (updatesOf_any _ cs w HA.out (by omega)).mono ?_
  rintro e w1 ⟨v1, us, rfl, hul, hd, hr1, hb1⟩
  have D := hideIt hd
  have JP := hideIt (jp_ok hd hul)
  have hpl := plan_short hul
  have R1 := hideIt hr1.rd
  have B1 := hideIt hb1
  have hz1 : w.heap.size ≤ w1.heap.size := hb1.size
  obtain ⟨aU, cU, rfl, _, hcU⟩ := (show RdE w1 v1 us from hr1.rd).shape
  have CU := hideIt hcU
  have MA := hideIt (fun m => atomic_math hd hul m (keepZ bs))
  clear hd hr1 hb1 hcU
  generalize planL (upsL us) = pl at *
  go_wp2_with fail
  refine (implJournalPlan_any _ us _ R1.out (by omega)).mono ?_
  rw [JP.out.1, JP.out.2]
  rintro e w2 ⟨v2, rfl, hr2, hb2⟩
  obtain ⟨a2, c2, rfl⟩ := RdM.form hr2.rd (n := pl.length) rfl
  have L2 := hideIt hr2.rd
  have B2 := hideIt (below_trans B1.out hb2 hz1)
  have K2 := hideIt hb2
  have hz2 : w1.heap.size ≤ w2.heap.size := hb2.size
  clear hr2 hb2 B1 R1 JP
  go_wp2_with fail
  refine (blank_any _).mono ?_
  rintro e w3 ⟨v3, rfl, hr3, hb3⟩
  have Q3 := hideIt hr3.rd
  have L3 := hideIt (Rd.below L2.out hb3)
  have B3 := hideIt (below_trans B2.out hb3 (by omega))
  have K3 := hideIt (below_trans K2.out hb3 (by omega))
  have hz3 : w2.heap.size ≤ w3.heap.size := hb3.size
  obtain ⟨e1, f1, e2, f2, e3, f3, e4, f4, rfl, -, -⟩ := hr3.rd.form
  clear hr3 hb3 L2 B2 K2
  go_wp2_with fail
  refine (at_some _ bs 0 ((pl.length : Int) + 1) _ (HB.out.below B3.out) (by omega) (by omega) (by omega) (by omega) (by omega)).mono ?_
  rintro e w4 ⟨x, rfl, hx, hb4⟩
  have hxl : x ≤ pl.length := by omega
  have hx0 : (0 : Int) ≤ (x : Int) := by omega
  have hx1 : (x : Int) ≤ (pl.length : Int) := by omega
  have Q4 := hideIt (Q3.out.below hb4)
  have L4 := hideIt (Rd.below L3.out hb4)
  have T4 := hideIt (rd_take (show RdM w4 (.slice a2 pl.length c2) pl from L4.out) rfl hxl)
  have B4 := hideIt (below_trans B3.out hb4 (by omega))
  have K4 := hideIt (below_trans K3.out hb4 (by omega))
  have hz4 : w3.heap.size ≤ w4.heap.size := hb4.size
  have hcap : pl.length ≤ c2 := by obtain ⟨_, _, _, e, h2, _⟩ := L4.out; injection e with _ _ e3; rw [e3]; exact h2.1
  have hc0 : (x : Int) ≤ (c2 : Int) := by omega
  clear hb4 Q3 L3 B3 K3 hx
  obtain ⟨W, P, rl, FF, hms, hpm, hpx, hrc, hrl, hrlen, hef, hpf, h8, hcase⟩ := MA.out x
  have htl : (pl.take x).length ≤ 100 := by rw [List.length_take]; omega
  have OKW := hideIt hpm
  have hWl := (pmB_iff.1 hpm).1
  have hPl := (pmB_iff.1 hpm).2.1
  have EM := hideIt hms
  have CO := hideIt (crash_ok hpm (keepZ_B bs) (by have := keepZ_len bs; omega))
  have hkl := keepZ_len bs
  have RC := hideIt hrc
  have RL := hideIt hrl
  have EF := hideIt hef
  have PF := hideIt hpf
  have JC := hideIt (jc_zero hpf h8)
  have HF := hideIt (pmB_iff.1 hpf).1
  have CASE := hideIt hcase
  clear hpf h8 hcase hef hrc hrl
  generalize crW W P (keepZ bs) = X at *
  have hXl := (pmB_iff.1 hpx).1
  have PX := hideIt hpx
  clear hms hpm hpx MA
  go_wp2_with fail
  refine (implMicrosDo_any _ _ (pl.take x) zs336 [] zs32 [] _ (HS.out.below B4.out) Q4.out T4.out (by rw [zs336_len]; omega) (by simp) (by rw [zs32_len]; omega) (by simp) (by omega)).mono ?_
  rw [EM.out]
  rintro e w5 ⟨v5, rfl, hr5, hb5⟩
  have hz5 : w4.heap.size ≤ w5.heap.size := hb5.size
  obtain ⟨vW, vP, vS, vQ, rfl, hPm, hBlk⟩ := hr5.rd
  have P5 := hideIt hPm
  have S5 := hideIt hBlk
  obtain ⟨_, _, e0, hI, hS5⟩ := hPm
  cases e0
  obtain ⟨bW, gW, rfl⟩ := RdI.form hI (n := 336) hWl
  obtain ⟨bP, gP, rfl⟩ := RdS.form hS5 (n := P.length) rfl
  obtain ⟨_, _, e0, hI2, hS2⟩ := hBlk
  cases e0
  obtain ⟨bS, gS, rfl⟩ := RdI.form hI2 zs32_len
  obtain ⟨bQ, gQ, rfl⟩ := RdE.form hS2 (n := 0) rfl
  have B5 := hideIt (below_trans B4.out hb5 (by omega))
  have K5 := hideIt (below_trans K4.out hb5 (by omega))
  clear hr5 hb5 hI hS5 L4 B4 K4 hI2 hS2 Q4 T4 EM htl
  go_upto_region 6 with fail
  obtain ⟨w6, hw6⟩ : ∃ w6 : World, w6 = w5.alloc (.cells #[.slice bW 336 gW, .slice bP P.length gP, .slice bS 32 gS, .slice bQ 0 gQ] 36) := ⟨_, rfl⟩
  rw [← hw6]
  have V6 : Hid (w6.heap[w5.heap.size]? = some (.cells #[.slice bW 336 gW, .slice bP P.length gP, .slice bS 32 gS, .slice bQ 0 gQ] 36 (0, 0))) := by rw [hw6]; exact at_new rfl
  have hb6 : Below w5.heap.size w5 w6 := by rw [hw6]; exact (Below.refl _ _).alloc (Nat.le_refl _) _
  have hz6 : w5.heap.size < w6.heap.size := by rw [hw6, World.size_alloc]; exact Nat.lt_succ_self _
  have P6 := hideIt (P5.out.below hb6)
  have S6 := hideIt (S5.out.below hb6)
  have B6 := hideIt (below_trans B5.out hb6 (by omega))
  have K6 := hideIt (below_trans K5.out hb6 (by omega))
  clear hb6 hw6 P5 S5 B5 K5
  obtain ⟨x0, x1, x2, x3, -, -, -, -⟩ := four_cells V6.out
  go_cut [10, 11] (fun s t wx => ∃ (aX aE : Option Addr) (cX cE bx : Nat), t = .int .i64 0 ∧ s = .pointer (some ⟨bx, 0, none⟩) ∧ Hid (CutC w6 wx X aX aE cX cE bx))
  case first =>
    as_aux_lemma =>
      obtain ⟨q0, q1, q2, q3, -, -, -, -⟩ := four_cells (at_old (o := .cells #[.slice none 0 0, .slice none 0 0] 31) V6.out)
      go_region_with (first
        | (go_at_call 11; refine (keepsOf_any _ bs _ (HB.out.below (below_trans B6.out (by repeat (first | exact Below.refl _ _ | refine below_allocS ?_ _ | refine Below.drew ?_)) (by omega))) (by omega)).mono ?_; rintro e wa ⟨va, rfl, hra, hba⟩; obtain ⟨aZ, cZ, rfl⟩ := RdI.form hra.rd rfl; have RZ := hideIt hra.rd; have BA : Hid (Below w6.heap.size w6 wa) := below_trans (b := _) (by repeat (first | exact Below.refl _ _ | refine below_allocS ?_ _ | refine Below.drew ?_)) hba (Below.size (B := w6.heap.size) (by repeat (first | exact Below.refl _ _ | refine below_allocS ?_ _ | refine Below.drew ?_))); have hza : w6.heap.size ≤ wa.heap.size := BA.out.size; (first | (have VX : Hid (wa.heap[w6.heap.size]? = some (.cells #[.slice none 0 0, .slice none 0 0] 31 (0, 0))) := (hba.block w6.heap.size (by first | (rw [World.size_alloc]; exact Nat.lt_succ_self _) | (show _ < (World.alloc _ _).heap.size; rw [World.size_alloc]; exact Nat.lt_succ_self _))).trans (at_new rfl)) | skip); obtain ⟨y0, y1, y2, y3, -, -, -, -⟩ := four_cells ((BA.out.block w5.heap.size (by omega)).trans V6.out); obtain ⟨u0, u1, u2, u3, -, -, -, -⟩ := four_cells (at_old (o := .cells #[.slice none 0 0, .slice none 0 0] 31) ((BA.out.block w5.heap.size (by omega)).trans V6.out)); clear hra hba)
        | (go_at_call 10; refine (implPmCrash_any _ _ W P (keepZ bs) _ (P6.out.below (by repeat (first | exact BA.out | exact Below.refl _ _ | refine below_allocS ?_ _ | refine Below.drew ?_))) (by first | exact RZ.out | exact Rd.below RZ.out (by repeat (first | exact Below.refl _ _ | refine below_allocS ?_ _ | refine Below.drew ?_))) (by omega) (by omega) (by omega)).mono ?_; rw [CO.out.1, CO.out.2]; rintro e wf ⟨vf, rfl, hrf, hbf⟩; obtain ⟨vWf, vPf, rfl, hIf, hSf⟩ := hrf.rd; obtain ⟨aWf, cWf, rfl⟩ := RdI.form hIf (n := 336) hXl; obtain ⟨aPf, cPf, rfl⟩ := RdS.form hSf (n := 0) rfl; have RF := hideIt hrf.rd; have BF : Hid (Below w6.heap.size w6 wf) := below_trans (b := _) (by repeat (first | exact BA.out | exact Below.refl _ _ | refine below_allocS ?_ _ | refine Below.drew ?_)) hbf (Below.size (B := w6.heap.size) (by repeat (first | exact BA.out | exact Below.refl _ _ | refine below_allocS ?_ _ | refine Below.drew ?_))); (first | (have VY : Hid (wf.heap[w6.heap.size]? = some (.cells #[.slice none 0 0, .slice none 0 0] 31 (0, 0))) := (hbf.block w6.heap.size (Array.getElem?_eq_some_iff.1 VX.out).1).trans VX.out; obtain ⟨t1, t2, t3, t4⟩ := two_cells VY.out) | (have VY : Hid (wf.heap[wa.heap.size]? = some (.cells #[.slice none 0 0, .slice none 0 0] 31 (0, 0))) := (hbf.block wa.heap.size (by first | (rw [World.size_alloc]; exact Nat.lt_succ_self _) | (show _ < (World.alloc _ _).heap.size; rw [World.size_alloc]; exact Nat.lt_succ_self _))).trans (at_new rfl); obtain ⟨t1, t2, t3, t4⟩ := two_cells VY.out) | skip); clear hrf hbf hIf hSf))
      all_goals
        go_wp2_with fail
        go_meet
        refine ⟨aWf, aPf, cWf, cPf, _, rfl, rfl, ?_⟩
        first
          | exact CutC.new RF.out BF.out
          | exact (CutC.new RF.out BF.out).drew
          | exact CutC.old hXl RF.out BF.out (Nat.le_refl _) VY.out
          | exact (CutC.old hXl RF.out BF.out (Nat.le_refl _) VY.out).drew
          | exact CutC.old hXl RF.out BF.out BA.out.size VY.out
          | exact (CutC.old hXl RF.out BF.out BA.out.size VY.out).drew
  case rest =>
  obtain ⟨aX, aE, cX, cE, bx, rfl, rfl, C⟩ := hcut
  rename World => w7
  have hb7 := C.out.below
  have hbx := C.out.lo
  have hbx2 := C.out.hi
  have hz7 : w6.heap.size ≤ w7.heap.size := hb7.size
  have V7 := hideIt ((hb7.block _ hz6).trans V6.out)
  have S7 := hideIt (S6.out.below hb7)
  have B7 := hideIt (below_trans B6.out hb7 (by omega))
  have K7 := hideIt (below_trans K6.out hb7 (by omega))
  have Y7 := hideIt C.out.box
  have X7 := hideIt C.out.rd
  clear hb7 C CO V6 P6 S6 B6 K6 x0 x1 x2 x3 OKW
  obtain ⟨x0, x1, x2, x3, -, -, -, -⟩ := four_cells V7.out
  obtain ⟨y0, y1, -, -⟩ := two_cells Y7.out
  go_wp2_with fail
  refine (implReplayPlan_any _ X _ X7.out (by omega)).mono ?_
  rw [RC.out, RL.out]
  rintro e w8 ⟨v8, rfl, hr8, hb8⟩
  obtain ⟨a8, c8, rfl⟩ := RdM.form hr8.rd (n := rl.length) rfl
  have M8 := hideIt hr8.rd
  have V8 := hideIt ((hb8.block _ (by omega)).trans V7.out)
  have Y8 := hideIt ((hb8.block _ hbx2).trans Y7.out)
  have X8 := hideIt (X7.out.below hb8)
  have S8 := hideIt (S7.out.below hb8)
  have B8 := hideIt (below_trans B7.out hb8 (by omega))
  have K8 := hideIt (below_trans K7.out hb8 (by omega))
  have hz8 : w7.heap.size ≤ w8.heap.size := hb8.size
  clear hr8 hb8 V7 Y7 X7 S7 B7 K7 x0 x1 x2 x3 y0 y1
  obtain ⟨y0, y1, -, -⟩ := two_cells Y8.out
  go_wp2_with fail
  refine (specReplayPlan_any _ X [] _ X8.out (by omega) (by simp)).mono ?_
  rw [RC.out, RL.out]
  rintro e w9 ⟨v9, rfl, hr9, hb9⟩
  obtain ⟨a9, c9, rfl⟩ := RdM.form hr9.rd (n := rl.length) rfl
  have N9 := hideIt hr9.rd
  have M9 := hideIt (Rd.below M8.out hb9)
  have V9 := hideIt ((hb9.block _ (by omega)).trans V8.out)
  have Y9 := hideIt ((hb9.block _ (by omega)).trans Y8.out)
  have X9 := hideIt (X8.out.below hb9)
  have S9 := hideIt (S8.out.below hb9)
  have B9 := hideIt (below_trans B8.out hb9 (by omega))
  have K9 := hideIt (below_trans K8.out hb9 (by omega))
  have hz9 : w8.heap.size ≤ w9.heap.size := hb9.size
  clear hr9 hb9 V8 Y8 X8 S8 B8 K8 M8 y0 y1 RC RL
  obtain ⟨x0, x1, x2, x3, -, -, -, -⟩ := four_cells V9.out
  obtain ⟨y0, y1, -, -⟩ := two_cells Y9.out
  go_wp2_with fail
  refine (implMicrosDo_any _ _ rl X [] zs32 [] _ (HS.out.below B9.out) ⟨_, _, _, _, rfl, X9.out, S9.out⟩ M9.out (by omega) (by simp) (by rw [zs32_len]; omega) (by simp) (by omega)).mono ?_
  rw [EF.out]
  rintro e w10 ⟨v10, rfl, hr10, hb10⟩
  have hz10 : w9.heap.size ≤ w10.heap.size := hb10.size
  obtain ⟨vF, vG, vH, vJ, rfl, hPm, hBlk⟩ := hr10.rd
  have P10 := hideIt hPm
  obtain ⟨_, _, e0, hI, hS10⟩ := hPm
  cases e0
  obtain ⟨bF, gF, rfl⟩ := RdI.form hI (n := 336) HF.out
  obtain ⟨bG, gG, rfl⟩ := RdS.form hS10 (n := 0) rfl
  have I10 := hideIt hI
  obtain ⟨_, _, e0, hI2, hS2⟩ := hBlk
  cases e0
  obtain ⟨bH, gH, rfl⟩ := RdI.form hI2 zs32_len
  obtain ⟨bJ, gJ, rfl⟩ := RdE.form hS2 (n := 0) rfl
  have N10 := hideIt (Rd.below N9.out hb10)
  have M10 := hideIt (Rd.below M9.out hb10)
  have B10 := hideIt (below_trans B9.out hb10 (by omega))
  have K10 := hideIt (below_trans K9.out hb10 (by omega))
  clear hr10 hb10 hI hS10 hI2 hS2 V9 Y9 X9 S9 B9 K9 N9 M9 x0 x1 x2 x3 y0 y1 PX EF
  have V11 : Hid ((w10.alloc (.cells #[.slice bF 336 gF, .slice bG 0 gG, .slice bH 32 gH, .slice bJ 0 gJ] 36)).heap[w10.heap.size]? = some (.cells #[.slice bF 336 gF, .slice bG 0 gG, .slice bH 32 gH, .slice bJ 0 gJ] 36 (0, 0))) := at_new rfl
  have hb11 : Below w10.heap.size w10 (w10.alloc (.cells #[.slice bF 336 gF, .slice bG 0 gG, .slice bH 32 gH, .slice bJ 0 gJ] 36)) := (Below.refl _ _).alloc (Nat.le_refl _) _
  go_wp2_with fail
  refine (sameMicros_same _ _ rl _ (Rd.below M10.out hb11) (Rd.below N10.out hb11) (by omega)).mono ?_
  rintro e w12 ⟨rfl, hb12⟩
  have V12 := hideIt ((hb12.block w10.heap.size (by simp)).trans V11.out)
  have b12 := below_trans hb11 hb12 (by simp)
  have P12 := hideIt (P10.out.below b12)
  have I12 := hideIt (Rd.below I10.out b12)
  have B12 := hideIt (below_trans B10.out b12 (by omega))
  have K12 := hideIt (below_trans K10.out b12 (by omega))
  have hz12 : w10.heap.size < w12.heap.size := by have := hb12.size; simp at this; omega
  obtain ⟨x0, x1, x2, x3, -, -, -, -⟩ := four_cells V12.out
  clear hb11 hb12 b12 V11 P10 I10 M10 N10 B10 K10
  go_wp2_with fail
  refine (implJournalCount_any _ FF _ P12.out (by have := HF.out; omega)).mono ?_
  rw [JC.out.1, JC.out.2]
  rintro e w13 ⟨rfl, hb13⟩
  have V13 := hideIt ((hb13.block _ hz12).trans V12.out)
  have I13 := hideIt (Rd.below I12.out hb13)
  have B13 := hideIt (below_trans B12.out hb13 (by omega))
  have K13 := hideIt (below_trans K12.out hb13 (by omega))
  have hz13 : w12.heap.size ≤ w13.heap.size := hb13.size
  clear hb13 V12 I12 P12 B12 K12 x0 x1 x2 x3
  obtain ⟨bw, ow, rfl, hgF⟩ := rd_some I13.out (by omega)
  go_upto_region 16 with fail
  obtain ⟨w14, hw14⟩ : ∃ w14 : World, w14 = w13.alloc (.cells nought336 3) := ⟨_, rfl⟩
  rw [← hw14]
  have hb14 : Below w13.heap.size w13 w14 := by rw [hw14]; exact (Below.refl _ _).alloc (Nat.le_refl _) _
  have hz14 : w13.heap.size < w14.heap.size := by rw [hw14, World.size_alloc]; exact Nat.lt_succ_self _
  have ROW : Hid (Row w14 3 1 w13.heap.size (w13.heap.size + 1) (.slice (some ⟨w13.heap.size, 0, none⟩) 336 336) 336 (ints zs336)) := by
    have := row_n336 (w := w14) (b := w13.heap.size) (by rw [hw14]; exact at_new rfl) (Nat.le_refl _)
    rw [zs336_len] at this
    exact this
  clear hw14 k336
  have V14 := hideIt ((hb14.block _ (by omega)).trans V13.out)
  have I14 := hideIt (Rd.below I13.out hb14)
  have H14 := hideIt hb14
  clear hb14
  have DROP := hideIt (fun (w' : World) (h : RdI w' (.slice (some ⟨bw, ow, none⟩) 336 gF) FF) => (by have := rd_drop h HF.out (m := 48) (by omega); simp only [Nat.reduceSub] at this; rw [if_neg (by omega)]; exact this : RdI w' (.slice (if gF = 48 then some ⟨bw, ow, none⟩ else some ⟨bw, ow + 48, none⟩) 288 (gF - 48)) (FF.drop 48)))
  have RA := hideIt (DROP.out w14 I14.out)
  have RB : Hid (RdI w14 (.slice (some ⟨w13.heap.size, 48, none⟩) 288 288) (zs336.drop 48)) := by
    have h1 : RdI w14 (.slice (some ⟨w13.heap.size, 0, none⟩) 336 336) zs336 := by
      have := ROW.out.rd
      unfold RdI
      rw [zs336_len]
      exact this
    have := rd_drop h1 zs336_len (m := 48) (by omega)
    simp only [Nat.zero_add, Nat.reduceSub] at this
    exact this
  have LA : Hid ((FF.drop 48).length = 288 ∧ (zs336.drop 48).length = 288) := ⟨by rw [List.length_drop, HF.out], by rw [List.length_drop, zs336_len]⟩
  obtain ⟨x0, x1, x2, x3, -, -, -, -⟩ := four_cells V14.out
  go_region_held3 (fun w' => w'.cell? ⟨w10.heap.size, 0, none⟩ = some (.slice (some ⟨bw, ow, none⟩) 336 gF)) (first | exact x0 | exact z0)
    (first | (go_at_call 16; refine (sameInts_bool _ _ (FF.drop 48) (zs336.drop 48) 288 _ (by first | exact RA.out | exact Rd.below RA.out ((Below.refl _ _).drew)) (by first | exact RB.out | exact Rd.below RB.out ((Below.refl _ _).drew)) LA.out.1 LA.out.2 (by omega)).mono ?_; rintro e w15 ⟨bb, rfl, hbool, hb15⟩; have BB := hideIt hbool; have hb15' : Below w14.heap.size w14 w15 := (by first | exact hb15 | exact below_trans ((Below.refl w14.heap.size w14).drew) hb15 (Nat.le_refl _)); have T15 := hideIt hb15'; have z0 := (hb15'.cell (p := ⟨w10.heap.size, 0, none⟩) (by show w10.heap.size < w14.heap.size; omega)).trans x0; clear hb15 hbool hb15'))
  all_goals
    have H15 := hideIt (H14.out.trans (T15.out.mono (by omega)))
    have START : Hid (Row w15 3 1 w13.heap.size (w13.heap.size + 1) (.slice (some ⟨w13.heap.size, 0, none⟩) 336 336) 336 (ints (layE zs336 (us.take 0))) ∧ Below w13.heap.size w13 w15) :=
      ⟨ROW.out.below T15.out (by omega), H15.out⟩
    clear x0 x1 x2 x3 z0 RA RB LA V14 I14 ROW T15 H14 H15
    go_wp2
    go_loopw [22] (fun i wr => ∃ k : Nat, k ≤ us.length ∧ i = .int .i64 k ∧ Hid (Row wr 3 1 w13.heap.size (w13.heap.size + 1) (.slice (some ⟨w13.heap.size, 0, none⟩) 336 336) 336 (ints (layE zs336 (us.take k))) ∧ Below w13.heap.size w13 wr)) (fun i _ => us.length - (intOf i).toNat)
    case atStart => first | exact ⟨0, by omega, rfl, START⟩ | exact ⟨0, by omega, rfl, row_drew START.out.1, START.out.2.drew⟩
    case round =>
      obtain ⟨k, hk, rfl, I⟩ := hrel
      clear START
      obtain ⟨-, -, -, hzr, hfz, hce⟩ := I.out.1.at
      by_cases hlt : k < us.length
      · obtain ⟨bU, oU, rfl, hbU, hcell⟩ := CU.out (by omega)
        obtain ⟨c0, c1⟩ := hcell k hlt
        have BK := below_trans K13.out I.out.2 (by omega)
        have d0 := (BK.cell (p := ⟨bU, oU + k * 2, none⟩) hbU).trans c0
        have d1 := (BK.cell (p := ⟨bU, oU + k * 2 + 1, none⟩) hbU).trans c1
        have p0 := (D.out us[k] (List.getElem_mem hlt)).1
        have LT := hideIt (layE_take us k hlt zs336)
        have g0 := hfz us[k].at_.toNat
        have g1 : wr.cell? ⟨w13.heap.size, us[k].at_.toNat, none⟩ = some (.int .i64 ((layE zs336 (us.take k))[us[k].at_.toNat]?.getD 0)) := by
          have hl : us[k].at_.toNat < (layE zs336 (us.take k)).length := by rw [layE_len, zs336_len]; omega
          rw [hce _ (by omega), ints_at _ _ hl, List.getElem?_eq_getElem hl]
          rfl
        have k0 : (0 : Int) ≤ (k : Int) := by omega
        have k1 : (k : Int) < (us.length : Int) := by omega
        obtain ⟨p1, p2⟩ := p0
        have hx' : us[k].at_ < 336 := p2
        have ST := hideIt (I.out.1.stored us[k].at_.toNat (.int .i64 us[k].val))
        clear c0 c1 hcell hfz hce BK
        generalize us[k].at_ = a at *
        generalize us[k].val = y at *
        have a0 : 0 ≤ a := by omega
        go_wp2
        go_region
        go_wp2
        go_roundw
        case rel =>
          refine ⟨k + 1, by omega, by go_num, row_drew ?_, (I.out.2.setCell (Nat.le_refl _) _).drew⟩
          have := ST.out
          rw [ints_set, ← LT.out] at this
          exact this
        case measure => simp [intOf]; omega
      · obtain rfl : k = us.length := by omega
        have RA := hideIt (DROP.out wr (Rd.below I13.out I.out.2))
        obtain ⟨x0, x1, x2, x3, -, -, -, -⟩ := four_cells ((I.out.2.block _ (by omega)).trans V13.out)
        have BF := hideIt (below_trans B13.out I.out.2 (by omega))
        have hFl : (FF.drop 48).length ≤ 336 := by rw [List.length_drop, HF.out]; omega
        cases bb with
        | true =>
          clear D JC HF CASE CU V13 I13 B13 K13 hfz hce DROP RA BB
          go_upto_region 21 with fail
          go_quiet (fail)
          go_wp2
          go_ret
          exact ⟨rfl, Below.drewN'' BF.out _⟩
        | false =>
          have RB : Hid (RdI wr (.slice (some ⟨w13.heap.size, 48, none⟩) 288 288) (FF.drop 48)) := by
            have DU : FF.drop 48 = (layE zs336 us).drop 48 := by
              rcases CASE.out with h | h
              · exact absurd (BB.out h) (by simp)
              · exact h
            have h1 : RdI wr (.slice (some ⟨w13.heap.size, 0, none⟩) 336 336) (layE zs336 us) := by
              have := I.out.1.rd
              rw [List.take_length] at this
              unfold RdI
              rw [layE_len, zs336_len]
              exact this
            have := rd_drop h1 (by rw [layE_len, zs336_len]) (m := 48) (by omega)
            rw [← DU] at this
            simp only [Nat.zero_add, Nat.reduceSub] at this
            exact this
          clear D JC HF CASE CU V13 I13 B13 K13 hfz hce DROP BB
          generalize FF.drop 48 = FD at *
          have RA2 : Hid (RdI wr (.slice (some ⟨bw, ow + 48, none⟩) 288 (gF - 48)) FD) := by have := RA.out; rw [if_neg (by omega)] at this; exact this
          go_upto_region 21 with fail
          go_region_held3 (fun w' => w'.cell? ⟨w10.heap.size, 0, none⟩ = some (.slice (some ⟨bw, ow, none⟩) 336 gF)) (first | exact x0 | exact y0)
            (first | (go_at_call 16; refine (sameIntsE_same _ _ FD _ (by first | exact RA2.out | exact RA.out | exact Rd.below RA2.out ((Below.refl _ _).drew) | exact Rd.below RA.out ((Below.refl _ _).drew)) (by first | exact RB.out | exact Rd.below RB.out ((Below.refl _ _).drew)) (by omega)).mono ?_; rintro e w16 ⟨rfl, hb16⟩; have B16 : Hid (Below w.heap.size w w16) := (by first | exact below_trans BF.out hb16 (by have := BF.out.size; omega) | exact below_trans BF.out.drew hb16 (by have := BF.out.size; exact this)); have y0 := (hb16.cell (p := ⟨w10.heap.size, 0, none⟩) (show w10.heap.size < wr.heap.size by omega)).trans x0; clear hb16))
          all_goals
            go_wp2
            go_ret
            exact ⟨rfl, B16.out⟩
end Go.Proofs.YtbjalmiheipjjaaDoor
