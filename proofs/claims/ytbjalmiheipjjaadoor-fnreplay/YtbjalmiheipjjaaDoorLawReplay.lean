/- The law of the replay that crashes: the walk. -/
import Derived.Test.YtbjalmiheipjjaaDoorZBW
import Derived.Deep.DeepCutAuto
import Derived.Deep.RegionWith
namespace Go.Proofs.YtbjalmiheipjjaaDoor
open Go.RowKit
def MathH (FF : List Int) (zs2 : List Int) (W2 : List Int) (P2 : List St) (rl2 : List Mi) (F2 : List Int) : Prop :=
  pmB W2 P2 = true ∧ pmB (crW W2 P2 zs2) [] = true ∧ rpC (crW W2 P2 zs2) [] = 0 ∧ rpL (crW W2 P2 zs2) [] = rl2 ∧ rl2.length ≤ 100 ∧ ms rl2 (crW W2 P2 zs2) [] zs32 [] = ⟨0, F2, [], zs32, []⟩ ∧ pmB F2 [] = true ∧ F2.drop 48 = FF.drop 48
set_option maxRecDepth 100000 in
set_option maxHeartbeats 16000000 in
theorem fnReplay_law (vA vB : Value) (cs bs : List Int) (w : World) (hS : SB w) (ha : RdB w vA cs) (hb : RdB w vB bs) (hla : cs.length ≤ maxLen) (hlb : bs.length ≤ maxLen) :
    Calls Tryd.prog 4 #[vA, vB] w fun e w' => e = .returned (.bool true) ∧ Below w.heap.size w w' := by
  have HA := hideIt ha
  have HB := hideIt hb
  have HS := hideIt hS
  obtain ⟨aA, cA, rfl, _⟩ := ha.shape
  obtain ⟨aB, cB, rfl, _⟩ := hb.shape
  simp only [maxLen] at hla hlb
  clear ha hb hS
  by_cases c1 : 1048576 < cs.length
  · go_enter Tryd.func4, Tryd.ntmps4
    go_wp2
    go_ret
    exact ⟨rfl, Below.refl _ _⟩
  by_cases c2 : 1048576 < bs.length
  · go_enter Tryd.func4, Tryd.ntmps4
    go_wp2
    go_ret
    exact ⟨rfl, Below.refl _ _⟩
  go_enter Tryd.func4, Tryd.ntmps4
  go_wp2_with fail
  refine (updatesOf_any _ cs w HA.out (by omega)).mono ?_
  rintro e w1 ⟨v1, us, rfl, hul, hd, hr1, hb1⟩
  have D := hideIt hd
  have JP := hideIt (jp_ok hd hul)
  have hpl := plan_short hul
  have R1 := hideIt hr1.rd
  have B1 := hideIt hb1
  have hz1 : w.heap.size ≤ w1.heap.size := hb1.size
  obtain ⟨aU, cU, rfl, _, _⟩ := (show RdE w1 v1 us from hr1.rd).shape
  have MA := hideIt (fun m => replay_math hd hul m (keepZ bs))
  clear hd hr1 hb1
  generalize planL (upsL us) = pl at *
  go_wp2_with fail
  refine (implJournalPlan_any _ us _ R1.out (by omega)).mono ?_
  rw [JP.out.1, JP.out.2]
  rintro e w2 ⟨v2, rfl, hr2, hb2⟩
  obtain ⟨a2, c2, rfl⟩ := RdM.form hr2.rd (n := pl.length) rfl
  have L2 := hideIt hr2.rd
  have B2 := hideIt (below_trans B1.out hb2 hz1)
  have K2 := hideIt hb2
  have hz2 : w1.heap.size ≤ w2.heap.size := hb2.size
  clear hr2 hb2 B1 R1 JP
  go_wp2_with fail
  refine (blank_any _).mono ?_
  rintro e w3 ⟨v3, rfl, hr3, hb3⟩
  have Q3 := hideIt hr3.rd
  have L3 := hideIt (Rd.below L2.out hb3)
  have B3 := hideIt (below_trans B2.out hb3 (by omega))
  have K3 := hideIt (below_trans K2.out hb3 (by omega))
  have hz3 : w2.heap.size ≤ w3.heap.size := hb3.size
  obtain ⟨e1, f1, e2, f2, e3, f3, e4, f4, rfl, -, -⟩ := hr3.rd.form
  clear hr3 hb3 L2 B2 K2
  go_wp2_with fail
  refine (at_some _ bs 0 ((pl.length : Int) + 1) _ (HB.out.below B3.out) (by omega) (by omega) (by omega) (by omega) (by omega)).mono ?_
  rintro e w4 ⟨x, rfl, hx, hb4⟩
  have hxl : x ≤ pl.length := by omega
  have hx0 : (0 : Int) ≤ (x : Int) := by omega
  have hx1 : (x : Int) ≤ (pl.length : Int) := by omega
  have Q4 := hideIt (Q3.out.below hb4)
  have L4 := hideIt (Rd.below L3.out hb4)
  have T4 := hideIt (rd_take (show RdM w4 (.slice a2 pl.length c2) pl from L4.out) rfl hxl)
  have B4 := hideIt (below_trans B3.out hb4 (by omega))
  have K4 := hideIt (below_trans K3.out hb4 (by omega))
  have hz4 : w3.heap.size ≤ w4.heap.size := hb4.size
  have hcap : pl.length ≤ c2 := by obtain ⟨_, _, _, e, h2, _⟩ := L4.out; injection e with _ _ e3; rw [e3]; exact h2.1
  have hc0 : (x : Int) ≤ (c2 : Int) := by omega
  clear hb4 Q3 L3 B3 K3 hx
  obtain ⟨W, P, rl, FF, hms, hpm, hpx, hrc, hrl, hrlen, hef, hpf, hall⟩ := MA.out x
  have htl : (pl.take x).length ≤ 100 := by rw [List.length_take]; omega
  have OKW := hideIt hpm
  have hWl := (pmB_iff.1 hpm).1
  have hPl := (pmB_iff.1 hpm).2.1
  have EM := hideIt hms
  have CO := hideIt (crash_ok hpm (keepZ_B bs) (by have := keepZ_len bs; omega))
  have hkl := keepZ_len bs
  have RC := hideIt hrc
  have RL := hideIt hrl
  have EF := hideIt hef
  have HF := hideIt (pmB_iff.1 hpf).1
  have HALL : Hid (∀ m2 : Nat, ∃ W2 P2 rl2 F2, ms (rl.take m2) (crW W P (keepZ bs)) [] zs32 [] = ⟨0, W2, P2, zs32, []⟩ ∧ MathH FF (keepZ cs) W2 P2 rl2 F2) := fun m2 => by
    obtain ⟨W2, P2, rl2, F2, h1, h2⟩ := hall m2 (keepZ cs)
    exact ⟨W2, P2, rl2, F2, h1, h2⟩
  clear hpf hall hef hrc hrl
  generalize crW W P (keepZ bs) = X at *
  have hXl := (pmB_iff.1 hpx).1
  have PX := hideIt hpx
  clear hms hpm hpx MA
  go_wp2_with fail
  refine (implMicrosDo_any _ _ (pl.take x) zs336 [] zs32 [] _ (HS.out.below B4.out) Q4.out T4.out (by rw [zs336_len]; omega) (by simp) (by rw [zs32_len]; omega) (by simp) (by omega)).mono ?_
  rw [EM.out]
  rintro e w5 ⟨v5, rfl, hr5, hb5⟩
  have hz5 : w4.heap.size ≤ w5.heap.size := hb5.size
  obtain ⟨vW, vP, vS, vQ, rfl, hPm, hBlk⟩ := hr5.rd
  have P5 := hideIt hPm
  have S5 := hideIt hBlk
  obtain ⟨_, _, e0, hI, hS5⟩ := hPm
  cases e0
  obtain ⟨bW, gW, rfl⟩ := RdI.form hI (n := 336) hWl
  obtain ⟨bP, gP, rfl⟩ := RdS.form hS5 (n := P.length) rfl
  obtain ⟨_, _, e0, hI2, hS2⟩ := hBlk
  cases e0
  obtain ⟨bS, gS, rfl⟩ := RdI.form hI2 zs32_len
  obtain ⟨bQ, gQ, rfl⟩ := RdE.form hS2 (n := 0) rfl
  have B5 := hideIt (below_trans B4.out hb5 (by omega))
  have K5 := hideIt (below_trans K4.out hb5 (by omega))
  clear hr5 hb5 hI hS5 L4 B4 K4 hI2 hS2 Q4 T4 EM htl
  go_upto_region 6 with fail
  obtain ⟨w6, hw6⟩ : ∃ w6 : World, w6 = w5.alloc (.cells #[.slice bW 336 gW, .slice bP P.length gP, .slice bS 32 gS, .slice bQ 0 gQ] 36) := ⟨_, rfl⟩
  rw [← hw6]
  have V6 : Hid (w6.heap[w5.heap.size]? = some (.cells #[.slice bW 336 gW, .slice bP P.length gP, .slice bS 32 gS, .slice bQ 0 gQ] 36 (0, 0))) := by rw [hw6]; exact at_new rfl
  have hb6 : Below w5.heap.size w5 w6 := by rw [hw6]; exact (Below.refl _ _).alloc (Nat.le_refl _) _
  have hz6 : w5.heap.size < w6.heap.size := by rw [hw6, World.size_alloc]; exact Nat.lt_succ_self _
  have P6 := hideIt (P5.out.below hb6)
  have S6 := hideIt (S5.out.below hb6)
  have B6 := hideIt (below_trans B5.out hb6 (by omega))
  have K6 := hideIt (below_trans K5.out hb6 (by omega))
  clear hb6 hw6 P5 S5 B5 K5
  obtain ⟨x0, x1, x2, x3, -, -, -, -⟩ := four_cells V6.out
  go_cut [10, 11] (fun s t wx => ∃ (aX aE : Option Addr) (cX cE bx : Nat), t = .int .i64 0 ∧ s = .pointer (some ⟨bx, 0, none⟩) ∧ Hid (CutC w6 wx X aX aE cX cE bx))
  case first =>
    as_aux_lemma =>
      obtain ⟨q0, q1, q2, q3, -, -, -, -⟩ := four_cells (at_old (o := .cells #[.slice none 0 0, .slice none 0 0] 31) V6.out)
      have SK : Hid (∀ w', Below w6.heap.size w6 w' → w'.cell? ⟨w5.heap.size, 0, none⟩ = some (.slice bW 336 gW) ∧ w'.cell? ⟨w5.heap.size, 1, none⟩ = some (.slice bP P.length gP) ∧ w'.cell? ⟨w5.heap.size, 2, none⟩ = some (.slice bS 32 gS) ∧ w'.cell? ⟨w5.heap.size, 3, none⟩ = some (.slice bQ 0 gQ)) := fun w' hb' => by
        obtain ⟨s0, s1, s2, s3, _⟩ := four_cells ((hb'.block w5.heap.size (by omega)).trans V6.out)
        exact ⟨s0, s1, s2, s3⟩
      go_region_held3 (fun w' => w'.cell? ⟨w5.heap.size, 0, none⟩ = some (.slice bW 336 gW) ∧ w'.cell? ⟨w5.heap.size, 1, none⟩ = some (.slice bP P.length gP) ∧ w'.cell? ⟨w5.heap.size, 2, none⟩ = some (.slice bS 32 gS) ∧ w'.cell? ⟨w5.heap.size, 3, none⟩ = some (.slice bQ 0 gQ)) (exact SK.out _ (by repeat (first | exact BF.out | exact BA.out | exact Below.refl _ _ | refine below_allocS ?_ _ | refine Below.drew ?_ | refine Below.setCell ?_ (by first | exact Nat.le_refl _ | exact BA.out.size | exact BF.out.size) _)))
        (first
        | (go_at_call 11; refine (keepsOf_any _ bs _ (HB.out.below (below_trans B6.out (by repeat (first | exact Below.refl _ _ | refine below_allocS ?_ _ | refine Below.drew ?_)) (by omega))) (by omega)).mono ?_; rintro e wa ⟨va, rfl, hra, hba⟩; obtain ⟨aZ, cZ, rfl⟩ := RdI.form hra.rd rfl; have RZ := hideIt hra.rd; have BA : Hid (Below w6.heap.size w6 wa) := below_trans (b := _) (by repeat (first | exact Below.refl _ _ | refine below_allocS ?_ _ | refine Below.drew ?_)) hba (Below.size (B := w6.heap.size) (by repeat (first | exact Below.refl _ _ | refine below_allocS ?_ _ | refine Below.drew ?_))); have hza : w6.heap.size ≤ wa.heap.size := BA.out.size; (first | (have VX : Hid (wa.heap[w6.heap.size]? = some (.cells #[.slice none 0 0, .slice none 0 0] 31 (0, 0))) := (hba.block w6.heap.size (by first | (rw [World.size_alloc]; exact Nat.lt_succ_self _) | (show _ < (World.alloc _ _).heap.size; rw [World.size_alloc]; exact Nat.lt_succ_self _))).trans (at_new rfl)) | skip); obtain ⟨y0, y1, y2, y3, -, -, -, -⟩ := four_cells ((BA.out.block w5.heap.size (by omega)).trans V6.out); obtain ⟨u0, u1, u2, u3, -, -, -, -⟩ := four_cells (at_old (o := .cells #[.slice none 0 0, .slice none 0 0] 31) ((BA.out.block w5.heap.size (by omega)).trans V6.out)); clear hra hba)
        | (go_at_call 10; refine (implPmCrash_any _ _ W P (keepZ bs) _ (P6.out.below (by repeat (first | exact BA.out | exact Below.refl _ _ | refine below_allocS ?_ _ | refine Below.drew ?_))) (by first | exact RZ.out | exact Rd.below RZ.out (by repeat (first | exact Below.refl _ _ | refine below_allocS ?_ _ | refine Below.drew ?_))) (by omega) (by omega) (by omega)).mono ?_; rw [CO.out.1, CO.out.2]; rintro e wf ⟨vf, rfl, hrf, hbf⟩; obtain ⟨vWf, vPf, rfl, hIf, hSf⟩ := hrf.rd; obtain ⟨aWf, cWf, rfl⟩ := RdI.form hIf (n := 336) hXl; obtain ⟨aPf, cPf, rfl⟩ := RdS.form hSf (n := 0) rfl; have RF := hideIt hrf.rd; have BF : Hid (Below w6.heap.size w6 wf) := below_trans (b := _) (by repeat (first | exact BA.out | exact Below.refl _ _ | refine below_allocS ?_ _ | refine Below.drew ?_)) hbf (Below.size (B := w6.heap.size) (by repeat (first | exact BA.out | exact Below.refl _ _ | refine below_allocS ?_ _ | refine Below.drew ?_))); (first | (have VY : Hid (wf.heap[w6.heap.size]? = some (.cells #[.slice none 0 0, .slice none 0 0] 31 (0, 0))) := (hbf.block w6.heap.size (Array.getElem?_eq_some_iff.1 VX.out).1).trans VX.out; obtain ⟨t1, t2, t3, t4⟩ := two_cells VY.out) | (have VY : Hid (wf.heap[wa.heap.size]? = some (.cells #[.slice none 0 0, .slice none 0 0] 31 (0, 0))) := (hbf.block wa.heap.size (by first | (rw [World.size_alloc]; exact Nat.lt_succ_self _) | (show _ < (World.alloc _ _).heap.size; rw [World.size_alloc]; exact Nat.lt_succ_self _))).trans (at_new rfl); obtain ⟨t1, t2, t3, t4⟩ := two_cells VY.out) | skip); clear hrf hbf hIf hSf))
      all_goals
        go_wp2_with fail
        go_meet
        refine ⟨aWf, aPf, cWf, cPf, _, rfl, rfl, ?_⟩
        first
          | exact CutC.new RF.out BF.out
          | exact (CutC.new RF.out BF.out).drew
          | exact CutC.old hXl RF.out BF.out (Nat.le_refl _) VY.out
          | exact (CutC.old hXl RF.out BF.out (Nat.le_refl _) VY.out).drew
          | exact CutC.old hXl RF.out BF.out BA.out.size VY.out
          | exact (CutC.old hXl RF.out BF.out BA.out.size VY.out).drew
  case rest =>
  as_aux_lemma =>
  obtain ⟨aX, aE, cX, cE, bx, rfl, rfl, C⟩ := hcut
  rename World => w7
  have hb7 := C.out.below
  have hbx := C.out.lo
  have hbx2 := C.out.hi
  have hz7 : w6.heap.size ≤ w7.heap.size := hb7.size
  have V7 := hideIt ((hb7.block _ hz6).trans V6.out)
  have S7 := hideIt (S6.out.below hb7)
  have B7 := hideIt (below_trans B6.out hb7 (by omega))
  have K7 := hideIt (below_trans K6.out hb7 (by omega))
  have Y7 := hideIt C.out.box
  have X7 := hideIt C.out.rd
  clear hb7 C CO V6 P6 S6 B6 K6 x0 x1 x2 x3 OKW
  obtain ⟨x0, x1, x2, x3, -, -, -, -⟩ := four_cells V7.out
  obtain ⟨y0, y1, -, -⟩ := two_cells Y7.out
  go_wp2_with fail
  refine (implReplayPlan_any _ X _ X7.out (by omega)).mono ?_
  rw [RC.out, RL.out]
  rintro e w8 ⟨v8, rfl, hr8, hb8⟩
  obtain ⟨a8, c8, rfl⟩ := RdM.form hr8.rd (n := rl.length) rfl
  have M8 := hideIt hr8.rd
  have V8 := hideIt ((hb8.block _ (by omega)).trans V7.out)
  have Y8 := hideIt ((hb8.block _ hbx2).trans Y7.out)
  have X8 := hideIt (X7.out.below hb8)
  have S8 := hideIt (S7.out.below hb8)
  have B8 := hideIt (below_trans B7.out hb8 (by omega))
  have hz8 : w7.heap.size ≤ w8.heap.size := hb8.size
  have hcap8 : rl.length ≤ c8 := by obtain ⟨_, _, _, e, h2, _⟩ := M8.out; injection e with _ _ e3; rw [e3]; exact h2.1
  clear hr8 hb8 V7 Y7 X7 S7 B7 K7 x0 x1 x2 x3 y0 y1 RC RL
  obtain ⟨x0, x1, x2, x3, -, -, -, -⟩ := four_cells V8.out
  obtain ⟨y0, y1, -, -⟩ := two_cells Y8.out
  go_wp2_with fail
  refine (implMicrosDo_any _ _ rl X [] zs32 [] _ (HS.out.below B8.out) ⟨_, _, _, _, rfl, X8.out, S8.out⟩ M8.out (by omega) (by simp) (by rw [zs32_len]; omega) (by simp) (by omega)).mono ?_
  rw [EF.out]
  rintro e w9 ⟨v9, rfl, hr9, hb9⟩
  have hz9 : w8.heap.size ≤ w9.heap.size := hb9.size
  obtain ⟨vF, vG, vH, vJ, rfl, hPm, hBlk⟩ := hr9.rd
  obtain ⟨_, _, e0, hI, hS9⟩ := hPm
  cases e0
  obtain ⟨bF, gF, rfl⟩ := RdI.form hI (n := 336) HF.out
  obtain ⟨bG, gG, rfl⟩ := RdS.form hS9 (n := 0) rfl
  have I9 := hideIt hI
  obtain ⟨_, _, e0, hI2, hS2⟩ := hBlk
  cases e0
  obtain ⟨bH, gH, rfl⟩ := RdI.form hI2 zs32_len
  obtain ⟨bJ, gJ, rfl⟩ := RdE.form hS2 (n := 0) rfl
  have V9 := hideIt ((hb9.block _ (by omega)).trans V8.out)
  have Y9 := hideIt ((hb9.block _ (by omega)).trans Y8.out)
  have X9 := hideIt (X8.out.below hb9)
  have S9 := hideIt (S8.out.below hb9)
  have M9 := hideIt (Rd.below M8.out hb9)
  have B9 := hideIt (below_trans B8.out hb9 (by omega))
  clear hr9 hb9 hI hS9 hI2 hS2 V8 Y8 X8 S8 B8 M8 x0 x1 x2 x3 y0 y1 EF
  obtain ⟨bw, ow, rfl, hgF⟩ := rd_some I9.out (by omega)
  go_upto_region 11 with fail
  obtain ⟨w10, hw10⟩ : ∃ w10 : World, w10 = w9.alloc (.cells #[.slice (some ⟨bw, ow, none⟩) 336 gF, .slice bG 0 gG, .slice bH 32 gH, .slice bJ 0 gJ] 36) := ⟨_, rfl⟩
  rw [← hw10]
  have O10 : Hid (w10.heap[w9.heap.size]? = some (.cells #[.slice (some ⟨bw, ow, none⟩) 336 gF, .slice bG 0 gG, .slice bH 32 gH, .slice bJ 0 gJ] 36 (0, 0))) := by rw [hw10]; exact at_new rfl
  have hb10 : Below w9.heap.size w9 w10 := by rw [hw10]; exact (Below.refl _ _).alloc (Nat.le_refl _) _
  have hz10 : w9.heap.size < w10.heap.size := by rw [hw10, World.size_alloc]; exact Nat.lt_succ_self _
  have V10 := hideIt ((hb10.block _ (by omega)).trans V9.out)
  have Y10 := hideIt ((hb10.block _ (by omega)).trans Y9.out)
  have X10 := hideIt (X9.out.below hb10)
  have S10 := hideIt (S9.out.below hb10)
  have M10 := hideIt (Rd.below M9.out hb10)
  have I10 := hideIt (Rd.below I9.out hb10)
  have B10 := hideIt (below_trans B9.out hb10 (by omega))
  clear hb10 hw10 V9 Y9 X9 S9 M9 I9 B9
  obtain ⟨x0, x1, x2, x3, -, -, -, -⟩ := four_cells V10.out
  obtain ⟨y0, y1, -, -⟩ := two_cells Y10.out
  have wprl : IntKind.i64.wrap ((rl.length : Int) + 1) = (rl.length : Int) + 1 := by rw [IntKind.wrap_i64]; omega
  go_cut [16, 17] (fun s t wx => ∃ (W2 : List Int) (P2 : List St) (rl2 : List Mi) (F2 : List Int) (i0 i1 i2 i3 : Option Addr) (j0 j1 j2 j3 bh lo hi : Nat), t = .int .i64 0 ∧ s = .pointer (some ⟨bh, 0, none⟩) ∧ Hid (MathH FF (keepZ cs) W2 P2 rl2 F2) ∧ Hid (CutD w10 wx (.slice i0 336 j0) (.slice i1 P2.length j1) (.slice i2 32 j2) (.slice i3 0 j3) W2 P2 zs32 [] bh lo hi))
  case first =>
    as_aux_lemma =>
      obtain ⟨q0, q1, q2, q3, -, -, -, -⟩ := four_cells (at_old (o := .cells #[.slice none 0 0, .slice none 0 0, .slice none 0 0, .slice none 0 0] 36) V10.out)
      obtain ⟨n0, n1, -, -⟩ := two_cells (at_old (o := .cells #[.slice none 0 0, .slice none 0 0, .slice none 0 0, .slice none 0 0] 36) Y10.out)
      have SK : Hid (∀ w', Below w10.heap.size w10 w' → w'.cell? ⟨w5.heap.size, 0, none⟩ = some (.slice bW 336 gW) ∧ w'.cell? ⟨w5.heap.size, 1, none⟩ = some (.slice bP P.length gP) ∧ w'.cell? ⟨w5.heap.size, 2, none⟩ = some (.slice bS 32 gS) ∧ w'.cell? ⟨w5.heap.size, 3, none⟩ = some (.slice bQ 0 gQ) ∧ w'.cell? ⟨bx, 0, none⟩ = some (.slice aX 336 cX) ∧ w'.cell? ⟨bx, 1, none⟩ = some (.slice aE 0 cE)) := fun w' hb' => by
        obtain ⟨s0, s1, s2, s3, _⟩ := four_cells ((hb'.block w5.heap.size (by omega)).trans V10.out)
        obtain ⟨s4, s5, _⟩ := two_cells ((hb'.block bx (by omega)).trans Y10.out)
        exact ⟨s0, s1, s2, s3, s4, s5⟩
      go_region_held3 (fun w' => w'.cell? ⟨w5.heap.size, 0, none⟩ = some (.slice bW 336 gW) ∧ w'.cell? ⟨w5.heap.size, 1, none⟩ = some (.slice bP P.length gP) ∧ w'.cell? ⟨w5.heap.size, 2, none⟩ = some (.slice bS 32 gS) ∧ w'.cell? ⟨w5.heap.size, 3, none⟩ = some (.slice bQ 0 gQ) ∧ w'.cell? ⟨bx, 0, none⟩ = some (.slice aX 336 cX) ∧ w'.cell? ⟨bx, 1, none⟩ = some (.slice aE 0 cE)) (exact SK.out _ (by repeat (first | exact BF.out | exact BA.out | exact Below.refl _ _ | refine below_allocD ?_ _ | refine Below.drew ?_ | refine Below.setCell ?_ (by first | exact Nat.le_refl _ | exact BA.out.size | exact BF.out.size) _)))
        (first
        | (go_at_call 9; refine (at_some _ bs 1 ((rl.length : Int) + 1) _ (HB.out.below (below_trans B10.out (by repeat (first | exact Below.refl _ _ | refine below_allocD ?_ _ | refine Below.drew ?_)) (by omega))) (by omega) (by omega) (by omega) (by omega) (by omega)).mono ?_; rintro e wa ⟨m2, rfl, hm2, hba⟩; obtain ⟨W2, P2, rl2, F2, hms2, hH⟩ := HALL.out m2; have MS2 := hideIt hms2; have MH := hideIt hH; have hW2 := (pmB_iff.1 hH.1).1; have hm3 : m2 ≤ rl.length := (by omega); have hm4 : (0 : Int) ≤ (m2 : Int) := (by omega); have hm5 : (m2 : Int) ≤ (rl.length : Int) := (by omega); have hm6 : (m2 : Int) ≤ (c8 : Int) := (by omega); have BA : Hid (Below w10.heap.size w10 wa) := below_trans (b := _) (by repeat (first | exact Below.refl _ _ | refine below_allocD ?_ _ | refine Below.drew ?_)) hba (Below.size (B := w10.heap.size) (by repeat (first | exact Below.refl _ _ | refine below_allocD ?_ _ | refine Below.drew ?_))); have hza : w10.heap.size ≤ wa.heap.size := BA.out.size; (first | (have VX : Hid (wa.heap[w10.heap.size]? = some (.cells #[.slice none 0 0, .slice none 0 0, .slice none 0 0, .slice none 0 0] 36 (0, 0))) := (hba.block w10.heap.size (by first | (rw [World.size_alloc]; exact Nat.lt_succ_self _) | (show _ < (World.alloc _ _).heap.size; rw [World.size_alloc]; exact Nat.lt_succ_self _))).trans (at_new rfl)) | skip); obtain ⟨r0, r1, r2, r3, -, -, -, -⟩ := four_cells ((BA.out.block w5.heap.size (by omega)).trans V10.out); obtain ⟨u0, u1, u2, u3, -, -, -, -⟩ := four_cells (at_old (o := .cells #[.slice none 0 0, .slice none 0 0, .slice none 0 0, .slice none 0 0] 36) ((BA.out.block w5.heap.size (by omega)).trans V10.out)); obtain ⟨s0, s1, -, -⟩ := two_cells ((BA.out.block bx (by omega)).trans Y10.out); obtain ⟨v0, v1, -, -⟩ := two_cells (at_old (o := .cells #[.slice none 0 0, .slice none 0 0, .slice none 0 0, .slice none 0 0] 36) ((BA.out.block bx (by omega)).trans Y10.out)); clear hba hms2 hH hm2)
        | (go_at_call 7; refine (implMicrosDo_any _ _ (rl.take m2) X [] zs32 [] _ (HS.out.below (below_trans B10.out (by repeat (first | exact BA.out | exact Below.refl _ _ | refine below_allocD ?_ _ | refine Below.drew ?_)) (by omega))) ⟨_, _, _, _, rfl, X10.out.below (by repeat (first | exact BA.out | exact Below.refl _ _ | refine below_allocD ?_ _ | refine Below.drew ?_)), S10.out.below (by repeat (first | exact BA.out | exact Below.refl _ _ | refine below_allocD ?_ _ | refine Below.drew ?_))⟩ (rd_take (n := rl.length) (Rd.below M10.out (by repeat (first | exact BA.out | exact Below.refl _ _ | refine below_allocD ?_ _ | refine Below.drew ?_))) rfl hm3) (by omega) (by simp) (by rw [zs32_len]; omega) (by simp) (by rw [List.length_take]; omega)).mono ?_; rw [MS2.out]; rintro e wf ⟨vf, rfl, hrf, hbf⟩; obtain ⟨vF0, vF1, vF2, vF3, rfl, hPm, hBlk⟩ := hrf.rd; obtain ⟨_, _, e0, hI, hSS⟩ := hPm; cases e0; obtain ⟨i0, j0, rfl⟩ := RdI.form hI (n := 336) hW2; obtain ⟨i1, j1, rfl⟩ := RdS.form hSS (n := P2.length) rfl; obtain ⟨_, _, e0, hI2, hS2⟩ := hBlk; cases e0; obtain ⟨i2, j2, rfl⟩ := RdI.form hI2 zs32_len; obtain ⟨i3, j3, rfl⟩ := RdE.form hS2 (n := 0) rfl; have RF := hideIt hrf; have BF : Hid (Below w10.heap.size w10 wf) := below_trans (b := _) (by repeat (first | exact BA.out | exact Below.refl _ _ | refine below_allocD ?_ _ | refine Below.drew ?_)) hbf (Below.size (B := w10.heap.size) (by repeat (first | exact BA.out | exact Below.refl _ _ | refine below_allocD ?_ _ | refine Below.drew ?_))); (first | (have VY : Hid (wf.heap[w10.heap.size]? = some (.cells #[.slice none 0 0, .slice none 0 0, .slice none 0 0, .slice none 0 0] 36 (0, 0))) := (hbf.block w10.heap.size (Array.getElem?_eq_some_iff.1 VX.out).1).trans VX.out; have LT := (Array.getElem?_eq_some_iff.1 VX.out).1; have GE := Nat.le_refl w10.heap.size; obtain ⟨t0, t1, t2, t3, t4, t5, t6, t7⟩ := four_cells VY.out) | (have VY : Hid (wf.heap[wa.heap.size]? = some (.cells #[.slice none 0 0, .slice none 0 0, .slice none 0 0, .slice none 0 0] 36 (0, 0))) := (hbf.block wa.heap.size (by first | (rw [World.size_alloc]; exact Nat.lt_succ_self _) | (show _ < (World.alloc _ _).heap.size; rw [World.size_alloc]; exact Nat.lt_succ_self _))).trans (at_new rfl); have LT : wa.heap.size < (World.alloc wa (.cells #[.slice none 0 0, .slice none 0 0, .slice none 0 0, .slice none 0 0] 36)).heap.size := (by rw [World.size_alloc]; exact Nat.lt_succ_self _); have GE := hza; obtain ⟨t0, t1, t2, t3, t4, t5, t6, t7⟩ := four_cells VY.out) | skip); clear hrf hbf hI hSS hI2 hS2))
      all_goals
        go_wp2_with fail
        go_meet
        first
          | exact ⟨W2, P2, rl2, F2, i0, i1, i2, i3, j0, j1, j2, j3, _, _, _, rfl, rfl, MH, CutD.new RF.out (Below.size (B := w10.heap.size) (by repeat (first | exact BA.out | exact Below.refl _ _ | refine below_allocD ?_ _ | refine Below.drew ?_))) (Nat.le_refl _) BF.out⟩
          | exact ⟨W2, P2, rl2, F2, i0, i1, i2, i3, j0, j1, j2, j3, _, _, _, rfl, rfl, MH, (CutD.new RF.out (Below.size (B := w10.heap.size) (by repeat (first | exact BA.out | exact Below.refl _ _ | refine below_allocD ?_ _ | refine Below.drew ?_))) (Nat.le_refl _) BF.out).drew⟩
          | exact ⟨W2, P2, rl2, F2, i0, i1, i2, i3, j0, j1, j2, j3, _, _, _, rfl, rfl, MH, CutD.old LT RF.out (Below.size (B := w10.heap.size) (by repeat (first | exact BA.out | exact Below.refl _ _ | refine below_allocD ?_ _ | refine Below.drew ?_))) (Nat.le_refl _) BF.out GE VY.out⟩
          | exact ⟨W2, P2, rl2, F2, i0, i1, i2, i3, j0, j1, j2, j3, _, _, _, rfl, rfl, MH, (CutD.old LT RF.out (Below.size (B := w10.heap.size) (by repeat (first | exact BA.out | exact Below.refl _ _ | refine below_allocD ?_ _ | refine Below.drew ?_))) (Nat.le_refl _) BF.out GE VY.out).drew⟩
  case rest =>
  as_aux_lemma =>
  obtain ⟨W2, P2, rl2, F2, i0, i1, i2, i3, j0, j1, j2, j3, bh, lo, hi, rfl, rfl, MH, C⟩ := hcut
  rename World => w11
  have hb11 := C.out.below
  have hbh0 := C.out.bx0
  have hbh1 := C.out.bx1
  have hz11 : w10.heap.size ≤ w11.heap.size := hb11.size
  have H11 := hideIt C.out.box
  have P11 : Hid (RdPm w11 (.agg #[.slice i0 336 j0, .slice i1 P2.length j1]) W2 P2) := by
    obtain ⟨_, _, _, _, e0, h1, _⟩ := C.out.row.rd
    cases e0
    exact h1
  have O11 := hideIt ((hb11.block _ hz10).trans O10.out)
  have V11 := hideIt ((hb11.block _ (by omega)).trans V10.out)
  have S11 := hideIt (S10.out.below hb11)
  have I11 := hideIt (Rd.below I10.out hb11)
  have B11 := hideIt (below_trans B10.out hb11 (by omega))
  have hm := MH.out
  have hW2 := (pmB_iff.1 hm.1).1
  have hP2 := (pmB_iff.1 hm.1).2.1
  have CO2 := hideIt (crash_ok hm.1 (keepZ_B cs) (by have := keepZ_len cs; omega))
  have hkc := keepZ_len cs
  obtain ⟨-, hpy, hrc2, hrl2, hrlen2, hef2, hpf2, heq⟩ := hm
  have RC2 := hideIt hrc2
  have RL2 := hideIt hrl2
  have EF2 := hideIt hef2
  have HF2 := hideIt (pmB_iff.1 hpf2).1
  have HEQ := hideIt heq
  generalize crW W2 P2 (keepZ cs) = X2 at *
  have hXl2 := (pmB_iff.1 hpy).1
  clear hb11 C MH O10 V10 Y10 X10 S10 M10 I10 B10 x0 x1 x2 x3 y0 y1 hpy hrc2 hrl2 hef2 hpf2 heq HALL PX
  go_upto_region 12 with fail
  obtain ⟨x0, x1, x2, x3, -, -, -, -⟩ := four_cells H11.out
  go_cut [18, 19] (fun s t wx => ∃ (aX aE : Option Addr) (cX cE bx : Nat), t = .int .i64 0 ∧ s = .pointer (some ⟨bx, 0, none⟩) ∧ Hid (CutC w11 wx X2 aX aE cX cE bx))
  case first =>
    as_aux_lemma =>
      obtain ⟨q0, q1, q2, q3, -, -, -, -⟩ := four_cells (at_old (o := .cells #[.slice none 0 0, .slice none 0 0] 31) H11.out)
      have SK : Hid (∀ w', Below w11.heap.size w11 w' → w'.cell? ⟨bh, 0, none⟩ = some (.slice i0 336 j0) ∧ w'.cell? ⟨bh, 1, none⟩ = some (.slice i1 P2.length j1) ∧ w'.cell? ⟨bh, 2, none⟩ = some (.slice i2 32 j2) ∧ w'.cell? ⟨bh, 3, none⟩ = some (.slice i3 0 j3)) := fun w' hb' => by
        obtain ⟨s0, s1, s2, s3, _⟩ := four_cells ((hb'.block bh (by omega)).trans H11.out)
        exact ⟨s0, s1, s2, s3⟩
      go_region_held3 (fun w' => w'.cell? ⟨bh, 0, none⟩ = some (.slice i0 336 j0) ∧ w'.cell? ⟨bh, 1, none⟩ = some (.slice i1 P2.length j1) ∧ w'.cell? ⟨bh, 2, none⟩ = some (.slice i2 32 j2) ∧ w'.cell? ⟨bh, 3, none⟩ = some (.slice i3 0 j3)) (exact SK.out _ (by repeat (first | exact BF.out | exact BA.out | exact Below.refl _ _ | refine below_allocS ?_ _ | refine Below.drew ?_ | refine Below.setCell ?_ (by first | exact Nat.le_refl _ | exact BA.out.size | exact BF.out.size) _)))
        (first
        | (go_at_call 11; refine (keepsOf_any _ cs _ (HA.out.below (below_trans B11.out (by repeat (first | exact Below.refl _ _ | refine below_allocS ?_ _ | refine Below.drew ?_)) (by omega))) (by omega)).mono ?_; rintro e wa ⟨va, rfl, hra, hba⟩; obtain ⟨aZ, cZ, rfl⟩ := RdI.form hra.rd rfl; have RZ := hideIt hra.rd; have BA : Hid (Below w11.heap.size w11 wa) := below_trans (b := _) (by repeat (first | exact Below.refl _ _ | refine below_allocS ?_ _ | refine Below.drew ?_)) hba (Below.size (B := w11.heap.size) (by repeat (first | exact Below.refl _ _ | refine below_allocS ?_ _ | refine Below.drew ?_))); have hza : w11.heap.size ≤ wa.heap.size := BA.out.size; (first | (have VX : Hid (wa.heap[w11.heap.size]? = some (.cells #[.slice none 0 0, .slice none 0 0] 31 (0, 0))) := (hba.block w11.heap.size (by first | (rw [World.size_alloc]; exact Nat.lt_succ_self _) | (show _ < (World.alloc _ _).heap.size; rw [World.size_alloc]; exact Nat.lt_succ_self _))).trans (at_new rfl)) | skip); obtain ⟨y0, y1, y2, y3, -, -, -, -⟩ := four_cells ((BA.out.block bh (by omega)).trans H11.out); obtain ⟨u0, u1, u2, u3, -, -, -, -⟩ := four_cells (at_old (o := .cells #[.slice none 0 0, .slice none 0 0] 31) ((BA.out.block bh (by omega)).trans H11.out)); clear hra hba)
        | (go_at_call 10; refine (implPmCrash_any _ _ W2 P2 (keepZ cs) _ (P11.out.below (by repeat (first | exact BA.out | exact Below.refl _ _ | refine below_allocS ?_ _ | refine Below.drew ?_))) (by first | exact RZ.out | exact Rd.below RZ.out (by repeat (first | exact Below.refl _ _ | refine below_allocS ?_ _ | refine Below.drew ?_))) (by omega) (by omega) (by omega)).mono ?_; rw [CO2.out.1, CO2.out.2]; rintro e wf ⟨vf, rfl, hrf, hbf⟩; obtain ⟨vWf, vPf, rfl, hIf, hSf⟩ := hrf.rd; obtain ⟨aWf, cWf, rfl⟩ := RdI.form hIf (n := 336) hXl2; obtain ⟨aPf, cPf, rfl⟩ := RdS.form hSf (n := 0) rfl; have RF := hideIt hrf.rd; have BF : Hid (Below w11.heap.size w11 wf) := below_trans (b := _) (by repeat (first | exact BA.out | exact Below.refl _ _ | refine below_allocS ?_ _ | refine Below.drew ?_)) hbf (Below.size (B := w11.heap.size) (by repeat (first | exact BA.out | exact Below.refl _ _ | refine below_allocS ?_ _ | refine Below.drew ?_))); (first | (have VY : Hid (wf.heap[w11.heap.size]? = some (.cells #[.slice none 0 0, .slice none 0 0] 31 (0, 0))) := (hbf.block w11.heap.size (Array.getElem?_eq_some_iff.1 VX.out).1).trans VX.out; obtain ⟨t1, t2, t3, t4⟩ := two_cells VY.out) | (have VY : Hid (wf.heap[wa.heap.size]? = some (.cells #[.slice none 0 0, .slice none 0 0] 31 (0, 0))) := (hbf.block wa.heap.size (by first | (rw [World.size_alloc]; exact Nat.lt_succ_self _) | (show _ < (World.alloc _ _).heap.size; rw [World.size_alloc]; exact Nat.lt_succ_self _))).trans (at_new rfl); obtain ⟨t1, t2, t3, t4⟩ := two_cells VY.out) | skip); clear hrf hbf hIf hSf))
      all_goals
        go_wp2_with fail
        go_meet
        refine ⟨aWf, aPf, cWf, cPf, _, rfl, rfl, ?_⟩
        first
          | exact CutC.new RF.out BF.out
          | exact (CutC.new RF.out BF.out).drew
          | exact CutC.old hXl2 RF.out BF.out (Nat.le_refl _) VY.out
          | exact (CutC.old hXl2 RF.out BF.out (Nat.le_refl _) VY.out).drew
          | exact CutC.old hXl2 RF.out BF.out BA.out.size VY.out
          | exact (CutC.old hXl2 RF.out BF.out BA.out.size VY.out).drew
  case rest =>
  as_aux_lemma =>
  obtain ⟨aX12, aE12, cX12, cE12, bx12, rfl, rfl, C⟩ := hcut
  rename World => w12
  have hbC := C.out.below
  have hbx12 := C.out.lo
  have hbxx12 := C.out.hi
  have hz12 : w11.heap.size ≤ w12.heap.size := hbC.size
  have Y12 := hideIt C.out.box
  have X12 := hideIt C.out.rd
  have O12 := hideIt ((hbC.block _ (by omega)).trans O11.out)
  have V12 := hideIt ((hbC.block _ (by omega)).trans V11.out)
  have S12 := hideIt (S11.out.below hbC)
  have I12 := hideIt (Rd.below I11.out hbC)
  have B12 := hideIt (below_trans B11.out hbC (by omega))
  clear hbC C CO2 H11 P11 O11 V11 S11 I11 B11 x0 x1 x2 x3
  obtain ⟨y0, y1, -, -⟩ := two_cells Y12.out
  go_wp2_with fail
  refine (implReplayPlan_any _ X2 _ X12.out (by omega)).mono ?_
  rw [RC2.out, RL2.out]
  rintro e w13 ⟨v13, rfl, hr13, hb13⟩
  obtain ⟨a13, c13, rfl⟩ := RdM.form hr13.rd (n := rl2.length) rfl
  have M13 := hideIt hr13.rd
  have O13 := hideIt ((hb13.block _ (by omega)).trans O12.out)
  have V13 := hideIt ((hb13.block _ (by omega)).trans V12.out)
  have Y13 := hideIt ((hb13.block _ hbxx12).trans Y12.out)
  have X13 := hideIt (X12.out.below hb13)
  have S13 := hideIt (S12.out.below hb13)
  have I13 := hideIt (Rd.below I12.out hb13)
  have B13 := hideIt (below_trans B12.out hb13 (by omega))
  have hz13 : w12.heap.size ≤ w13.heap.size := hb13.size
  clear hr13 hb13 O12 V12 Y12 X12 S12 I12 B12 y0 y1 RC2 RL2
  obtain ⟨x0, x1, x2, x3, -, -, -, -⟩ := four_cells V13.out
  obtain ⟨y0, y1, -, -⟩ := two_cells Y13.out
  go_wp2_with fail
  refine (implMicrosDo_any _ _ rl2 X2 [] zs32 [] _ (HS.out.below B13.out) ⟨_, _, _, _, rfl, X13.out, S13.out⟩ M13.out (by omega) (by simp) (by rw [zs32_len]; omega) (by simp) (by omega)).mono ?_
  rw [EF2.out]
  rintro e w14 ⟨v14, rfl, hr14, hb14⟩
  have hz14 : w13.heap.size ≤ w14.heap.size := hb14.size
  obtain ⟨vK, vL, vM, vN, rfl, hPm, hBlk⟩ := hr14.rd
  obtain ⟨_, _, e0, hI, hS14⟩ := hPm
  cases e0
  obtain ⟨bK, gK, rfl⟩ := RdI.form hI (n := 336) HF2.out
  obtain ⟨bL, gL, rfl⟩ := RdS.form hS14 (n := 0) rfl
  have J14 := hideIt hI
  obtain ⟨_, _, e0, hI2, hS2⟩ := hBlk
  cases e0
  obtain ⟨bM, gM, rfl⟩ := RdI.form hI2 zs32_len
  obtain ⟨bN, gN, rfl⟩ := RdE.form hS2 (n := 0) rfl
  have O14 := hideIt ((hb14.block _ (by omega)).trans O13.out)
  have I14 := hideIt (Rd.below I13.out hb14)
  have B14 := hideIt (below_trans B13.out hb14 (by omega))
  clear hr14 hb14 hI hS14 hI2 hS2 V13 Y13 X13 S13 M13 O13 I13 B13 x0 x1 x2 x3 y0 y1 EF2
  obtain ⟨bv, ov, rfl, hgK⟩ := rd_some J14.out (by omega)
  go_upto_region 15 with fail
  obtain ⟨w15, hw15⟩ : ∃ w15 : World, w15 = w14.alloc (.cells #[.slice (some ⟨bv, ov, none⟩) 336 gK, .slice bL 0 gL, .slice bM 32 gM, .slice bN 0 gN] 36) := ⟨_, rfl⟩
  rw [← hw15]
  have T15 : Hid (w15.heap[w14.heap.size]? = some (.cells #[.slice (some ⟨bv, ov, none⟩) 336 gK, .slice bL 0 gL, .slice bM 32 gM, .slice bN 0 gN] 36 (0, 0))) := by rw [hw15]; exact at_new rfl
  have hb15 : Below w14.heap.size w14 w15 := by rw [hw15]; exact (Below.refl _ _).alloc (Nat.le_refl _) _
  have hz15 : w14.heap.size < w15.heap.size := by rw [hw15, World.size_alloc]; exact Nat.lt_succ_self _
  have O15 := hideIt ((hb15.block _ (by omega)).trans O14.out)
  have BF := hideIt (below_trans B14.out hb15 (by omega))
  have RA : Hid (RdI w15 (.slice (some ⟨bv, ov + 48, none⟩) 288 (gK - 48)) (FF.drop 48)) := by
    have := rd_drop (show RdI w15 (.slice (some ⟨bv, ov, none⟩) 336 gK) F2 from Rd.below J14.out hb15) HF2.out (m := 48) (by omega)
    rw [HEQ.out] at this
    simp only [Nat.reduceSub] at this
    exact this
  have RB : Hid (RdI w15 (.slice (some ⟨bw, ow + 48, none⟩) 288 (gF - 48)) (FF.drop 48)) := by
    have := rd_drop (show RdI w15 (.slice (some ⟨bw, ow, none⟩) 336 gF) FF from Rd.below I14.out hb15) HF.out (m := 48) (by omega)
    simp only [Nat.reduceSub] at this
    exact this
  have hFl : (FF.drop 48).length ≤ 336 := by rw [List.length_drop, HF.out]; omega
  obtain ⟨x0, x1, x2, x3, -, -, -, -⟩ := four_cells O15.out
  obtain ⟨y0, y1, y2, y3, -, -, -, -⟩ := four_cells T15.out
  clear hw15 hb15 O14 I14 J14 B14 T15 O15 HF HF2 HEQ HA HB HS
  generalize FF.drop 48 = FD at *
  have RA1 : Hid (RdI w15 (.slice (if gK = 48 then some ⟨bv, ov, none⟩ else some ⟨bv, ov + 48, none⟩) 288 (gK - 48)) FD) := by rw [if_neg (by omega)]; exact RA.out
  have RB1 : Hid (RdI w15 (.slice (if gF = 48 then some ⟨bw, ow, none⟩ else some ⟨bw, ow + 48, none⟩) 288 (gF - 48)) FD) := by rw [if_neg (by omega)]; exact RB.out
  go_region_held3 (fun w' => w'.cell? ⟨w9.heap.size, 0, none⟩ = some (.slice (some ⟨bw, ow, none⟩) 336 gF) ∧ w'.cell? ⟨w14.heap.size, 0, none⟩ = some (.slice (some ⟨bv, ov, none⟩) 336 gK)) (first | exact ⟨x0, y0⟩ | exact ⟨s0, s1⟩)
    (first | (go_at_call 16; refine (sameIntsE_same _ _ FD _ (by first | exact RA.out | exact RA1.out | exact Rd.below RA.out ((Below.refl _ _).drew) | exact Rd.below RA1.out ((Below.refl _ _).drew)) (by first | exact RB.out | exact RB1.out | exact Rd.below RB.out ((Below.refl _ _).drew) | exact Rd.below RB1.out ((Below.refl _ _).drew)) (by omega)).mono ?_; rintro e w16 ⟨rfl, hb16⟩; have B16 : Hid (Below w.heap.size w w16) := (by first | exact below_trans BF.out hb16 (by have := BF.out.size; omega) | exact below_trans BF.out.drew hb16 (by have := BF.out.size; exact this)); have s0 := (hb16.cell (p := ⟨w9.heap.size, 0, none⟩) (show w9.heap.size < w15.heap.size by omega)).trans x0; have s1 := (hb16.cell (p := ⟨w14.heap.size, 0, none⟩) (show w14.heap.size < w15.heap.size by omega)).trans y0; clear hb16))
  all_goals
    go_wp2
    go_ret
    exact ⟨rfl, B16.out⟩
end Go.Proofs.YtbjalmiheipjjaaDoor
