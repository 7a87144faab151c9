/- The law of PagesOf: the walk. -/
import Derived.Test.YtgnfbiohjdepcaaGreatDoorDuD
import Derived.Test.YtgnfbiohjdepcaaGreatDoorDev
import Derived.Test.YtgnfbiohjdepcaaGreatDoorZAE
import Derived.Test.YtgnfbiohjdepcaaGreatDoorZAF
import Derived.Deep.DeepCutAuto
import Derived.Deep.RegionWith
namespace Go.Proofs.YtgnfbiohjdepcaaGreatDoor
open Go.RowKit
set_option maxRecDepth 100000 in
set_option maxHeartbeats 8000000 in
theorem pagesOf_law (v : Value) (ws : List Int) (ps : List St) (es : List Int) (qs : List Se) (s : ByteArray) (w : World) (h : RdDev w v ws ps es qs) (hwl : ws.length ≤ maxLen) (hpl : ps.length ≤ maxLen) (hel : es.length ≤ maxLen) (hql : qs.length ≤ maxLen) (hT : TS w) (hE : ED w) (hF : FD w) (hN : NW w) :
    Calls Tryz.prog 5 #[v, .string s] w fun e w' => e = .returned (.bool true) ∧ Below w.heap.size w w' := by
  have HRD := hideIt h
  obtain ⟨aW, cW, aP, cP, aS, cS, aQ, cQ, rfl, -, -⟩ := h.form
  have CA : Hid (∀ w', Below (w.alloc (.cells #[.slice aW ws.length cW, .slice aP ps.length cP, .slice aS es.length cS, .slice aQ qs.length cQ] 30)).heap.size (w.alloc (.cells #[.slice aW ws.length cW, .slice aP ps.length cP, .slice aS es.length cS, .slice aQ qs.length cQ] 30)) w' → w'.cell? ⟨w.heap.size, 0, none⟩ = some (.slice aW ws.length cW) ∧ w'.cell? ⟨w.heap.size, 1, none⟩ = some (.slice aP ps.length cP) ∧ w'.cell? ⟨w.heap.size, 2, none⟩ = some (.slice aS es.length cS) ∧ w'.cell? ⟨w.heap.size, 3, none⟩ = some (.slice aQ qs.length cQ)) := fun w' hb => by
    have : w'.heap[w.heap.size]? = some (.cells #[.slice aW ws.length cW, .slice aP ps.length cP, .slice aS es.length cS, .slice aQ qs.length cQ] 30 (0, 0)) := (hb.block _ (by simp)).trans (at_new rfl)
    obtain ⟨x0, x1, x2, x3, -, -, -, -⟩ := four_cells this
    exact ⟨x0, x1, x2, x3⟩
  have BW : Hid (Below w.heap.size w (w.alloc (.cells #[.slice aW ws.length cW, .slice aP ps.length cP, .slice aS es.length cS, .slice aQ qs.length cQ] 30))) := (Below.refl _ _).alloc (Nat.le_refl _) _
  have hWz : w.heap.size < (w.alloc (.cells #[.slice aW ws.length cW, .slice aP ps.length cP, .slice aS es.length cS, .slice aQ qs.length cQ] 30)).heap.size := by simp
  have RD : Hid (∀ w', Below (w.alloc (.cells #[.slice aW ws.length cW, .slice aP ps.length cP, .slice aS es.length cS, .slice aQ qs.length cQ] 30)).heap.size (w.alloc (.cells #[.slice aW ws.length cW, .slice aP ps.length cP, .slice aS es.length cS, .slice aQ qs.length cQ] 30)) w' → RdDev w' (.agg #[.slice aW ws.length cW, .slice aP ps.length cP, .slice aS es.length cS, .slice aQ qs.length cQ]) ws ps es qs) := fun w' hb => HRD.out.below (below_trans BW.out hb (by omega))
  have FB : Hid (∀ w', Below (w.alloc (.cells #[.slice aW ws.length cW, .slice aP ps.length cP, .slice aS es.length cS, .slice aQ qs.length cQ] 30)).heap.size (w.alloc (.cells #[.slice aW ws.length cW, .slice aP ps.length cP, .slice aS es.length cS, .slice aQ qs.length cQ] 30)) w' → Below w.heap.size w w') := fun w' hb => below_trans BW.out hb (by omega)
  clear h
  by_cases cSs : (s.size : Int) > 1048576
  · clear hT hE hF hN
    go_enter Tryz.func5, Tryz.ntmps5
    go_wp2
    go_ret
    exact ⟨rfl, BW.out⟩
  by_cases c0 : 1048576 < ws.length + ps.length + es.length + qs.length
  · obtain ⟨p0, p1, p2, p3⟩ := CA.out _ (Below.refl _ _)
    clear hT hE hF hN
    go_enter Tryz.func5, Tryz.ntmps5
    go_wp2_with fail
    refine (szDevices_any aW aP aS aQ ws.length ps.length es.length qs.length cW cP cS cQ _ hwl hpl hel hql).mono ?_
    rw [if_pos c0]
    rintro e w1 ⟨rfl, hb1⟩
    have B1 := hideIt (below_trans BW.out hb1 BW.out.size)
    clear hb1 p0 p1 p2 p3
    go_wp2
    go_ret
    exact ⟨rfl, B1.out⟩
  have E := hideIt (show (if 1048576 < ws.length + ps.length + es.length + qs.length then -1 else 1048576 - ws.length - ps.length - es.length - qs.length : Int) = 1048576 - ws.length - ps.length - es.length - qs.length from if_neg c0)
  have hw : ws.length ≤ 1048576 := by omega
  have hp : ps.length ≤ 1048576 := by omega
  have he : es.length ≤ 1048576 := by omega
  have hq : qs.length ≤ 1048576 := by omega
  have IC := hideIt (fun v w1 (hb : Below w.heap.size w w1) h => implPagesOf_any v ws ps es qs s w1 h hw hp he hq (hT.below hb) (hE.below hb) (hF.below hb) (hN.below hb))
  have SC := hideIt (fun v w1 h => specPagesOf_any v ws ps es qs s w1 h hw hp he hq)
  have d1 : (psR ws ps es qs s).1.length ≤ 1048576 := psR_len ws ps es qs s
  generalize psR ws ps es qs s = R at *
  obtain ⟨L, cd⟩ := R
  simp only at d1 SC IC
  clear hT hE hF hN
  have B_0 : Hid (Below (w.alloc (.cells #[.slice aW ws.length cW, .slice aP ps.length cP, .slice aS es.length cS, .slice aQ qs.length cQ] 30)).heap.size (w.alloc (.cells #[.slice aW ws.length cW, .slice aP ps.length cP, .slice aS es.length cS, .slice aQ qs.length cQ] 30)) (w.alloc (.cells #[.slice aW ws.length cW, .slice aP ps.length cP, .slice aS es.length cS, .slice aQ qs.length cQ] 30))) := Below.refl _ _
  go_enter Tryz.func5, Tryz.ntmps5
  obtain ⟨p0, p1, p2, p3⟩ := id (CA.out (w.alloc (.cells #[.slice aW ws.length cW, .slice aP ps.length cP, .slice aS es.length cS, .slice aQ qs.length cQ] 30)) B_0.out)
  go_wp2_with fail
  refine (szDevices_any aW aP aS aQ ws.length ps.length es.length qs.length cW cP cS cQ (w.alloc (.cells #[.slice aW ws.length cW, .slice aP ps.length cP, .slice aS es.length cS, .slice aQ qs.length cQ] 30)) hwl hpl hel hql).mono ?_
  rw [E.out]
  rintro e w1 ⟨rfl, hb1⟩
  have hz1 : (w.alloc (.cells #[.slice aW ws.length cW, .slice aP ps.length cP, .slice aS es.length cS, .slice aQ qs.length cQ] 30)).heap.size ≤ w1.heap.size := hb1.size
  have B_1 := hideIt (below_trans B_0.out hb1 (by omega))
  clear B_0
  clear hb1
  clear p0 p1 p2 p3
  obtain ⟨p0, p1, p2, p3⟩ := id (CA.out w1 B_1.out)
  go_wp2_with fail
  refine (toDevices_any _ ws ps es qs w1 (RD.out w1 B_1.out) hw hp he hq).mono ?_
  rintro e w2 ⟨v2, rfl, hr2, hb2⟩
  have hz2 : w1.heap.size ≤ w2.heap.size := hb2.size
  have B_2 := hideIt (below_trans B_1.out hb2 (by omega))
  clear B_1
  obtain ⟨aW2, cW2, aP2, cP2, aS2, cS2, aQ2, cQ2, rfl, -, -⟩ := hr2.rd.form
  have RA_2 := hideIt hr2
  clear hb2 hr2
  clear p0 p1 p2 p3
  go_wp2_with fail
  refine (SC.out _ w2 RA_2.out.rd).mono ?_
  rintro e w3 ⟨v3, rfl, hr3, hb3⟩
  have hz3 : w2.heap.size ≤ w3.heap.size := hb3.size
  have B_3 := hideIt (below_trans B_2.out hb3 (by omega))
  have RA_3 := hideIt (RA_2.out.below hb3 (by omega))
  clear B_2 RA_2
  obtain ⟨-, aL3, cL3, hvL3, -⟩ := hr3.rd
  subst hvL3
  have RS_3 := hideIt hr3
  clear hb3 hr3
  clear RA_3
  obtain ⟨p0, p1, p2, p3⟩ := id (CA.out w3 B_3.out)
  go_wp2_with fail
  refine (toDevices_any _ ws ps es qs w3 (RD.out w3 B_3.out) hw hp he hq).mono ?_
  rintro e w4 ⟨v4, rfl, hr4, hb4⟩
  have hz4 : w3.heap.size ≤ w4.heap.size := hb4.size
  have B_4 := hideIt (below_trans B_3.out hb4 (by omega))
  have RS_4 := hideIt (RS_3.out.below hb4 (by omega))
  clear B_3 RS_3
  obtain ⟨aW4, cW4, aP4, cP4, aS4, cS4, aQ4, cQ4, rfl, -, -⟩ := hr4.rd.form
  have RX_4 := hideIt hr4
  clear hb4 hr4
  clear p0 p1 p2 p3
  obtain ⟨w5, hA5⟩ : ∃ w5 : World, w5 = w4.alloc (.cells #[.slice aW4 ws.length cW4, .slice aP4 ps.length cP4, .slice aS4 es.length cS4, .slice aQ4 qs.length cQ4] 41) := ⟨_, rfl⟩
  have hb5 : Below w4.heap.size w4 w5 := by rw [hA5]; exact (Below.refl _ _).alloc (Nat.le_refl _) _
  have VX_5 : Hid (w5.heap[w4.heap.size]? = some (.cells #[.slice aW4 ws.length cW4, .slice aP4 ps.length cP4, .slice aS4 es.length cS4, .slice aQ4 qs.length cQ4] 41 (0, 0))) := by rw [hA5]; exact at_new rfl
  have hl5 : w4.heap.size < w5.heap.size := (Array.getElem?_eq_some_iff.1 VX_5.out).1
  have hz5 : w4.heap.size ≤ w5.heap.size := hb5.size
  have B_5 := hideIt (below_trans B_4.out hb5 (by omega))
  have RS_5 := hideIt (RS_4.out.below hb5 (by omega))
  have RX_5 := hideIt (RX_4.out.below hb5 (by omega))
  clear B_4 hb5 RS_4 RX_4
  obtain ⟨y0, y1, y2, y3, -, -, -, -⟩ := four_cells VX_5.out
  go_wp2_with fail
  rw [← hA5]
  clear hA5
  refine (IC.out _ w5 (FB.out _ B_5.out) RX_5.out.rd).mono ?_
  rintro e w6 ⟨v6, rfl, hr6, hb6⟩
  have hz6 : w5.heap.size ≤ w6.heap.size := hb6.size
  have B_6 := hideIt (below_trans B_5.out hb6 (by omega))
  have RS_6 := hideIt (RS_5.out.below hb6 (by omega))
  have RX_6 := hideIt (RX_5.out.below hb6 (by omega))
  have VX_6 := hideIt ((hb6.block _ (by omega)).trans VX_5.out)
  clear B_5 RS_5 RX_5 VX_5
  obtain ⟨-, aL6, cL6, hvL6, -⟩ := hr6.rd
  subst hvL6
  have RG_6 := hideIt hr6
  clear hb6 hr6
  clear y0 y1 y2 y3
  go_wp2_with fail
  refine (eqIntS_same _ _ L w6 RG_6.out.rd RS_6.out.rd (by omega)).mono ?_
  rintro e w7 ⟨rfl, hb7⟩
  have hz7 : w6.heap.size ≤ w7.heap.size := hb7.size
  have B_7 := hideIt (below_trans B_6.out hb7 (by omega))
  have RS_7 := hideIt (RS_6.out.below hb7 (by omega))
  have RX_7 := hideIt (RX_6.out.below hb7 (by omega))
  have RG_7 := hideIt (RG_6.out.below hb7 (by omega))
  have VX_7 := hideIt ((hb7.block _ (by omega)).trans VX_6.out)
  clear B_6 RS_6 RX_6 RG_6 VX_6
  clear hb7
  obtain ⟨y0, y1, y2, y3, -, -, -, -⟩ := four_cells VX_7.out
  obtain ⟨p0, p1, p2, p3⟩ := CA.out w7 B_7.out
  have SK : Hid (∀ w', Below w7.heap.size w7 w' → (w'.cell? ⟨w4.heap.size, 0, none⟩ = some (.slice aW4 ws.length cW4) ∧ w'.cell? ⟨w4.heap.size, 1, none⟩ = some (.slice aP4 ps.length cP4) ∧ w'.cell? ⟨w4.heap.size, 2, none⟩ = some (.slice aS4 es.length cS4) ∧ w'.cell? ⟨w4.heap.size, 3, none⟩ = some (.slice aQ4 qs.length cQ4)) ∧ w'.cell? ⟨w.heap.size, 0, none⟩ = some (.slice aW ws.length cW) ∧ w'.cell? ⟨w.heap.size, 1, none⟩ = some (.slice aP ps.length cP) ∧ w'.cell? ⟨w.heap.size, 2, none⟩ = some (.slice aS es.length cS) ∧ w'.cell? ⟨w.heap.size, 3, none⟩ = some (.slice aQ qs.length cQ)) := fun w' hb => ⟨by obtain ⟨a, b, c, d, -, -, -, -⟩ := four_cells ((hb.block _ (by omega)).trans VX_7.out); exact ⟨a, b, c, d⟩, CA.out w' (below_trans B_7.out hb (by omega))⟩
  go_upto_region 12 with fail
  go_cut [52] (fun s wx => s = .bool false ∧ Below w7.heap.size w7 wx)
  case first =>
    go_region_held3 (fun w' => (w'.cell? ⟨w4.heap.size, 0, none⟩ = some (.slice aW4 ws.length cW4) ∧ w'.cell? ⟨w4.heap.size, 1, none⟩ = some (.slice aP4 ps.length cP4) ∧ w'.cell? ⟨w4.heap.size, 2, none⟩ = some (.slice aS4 es.length cS4) ∧ w'.cell? ⟨w4.heap.size, 3, none⟩ = some (.slice aQ4 qs.length cQ4)) ∧ w'.cell? ⟨w.heap.size, 0, none⟩ = some (.slice aW ws.length cW) ∧ w'.cell? ⟨w.heap.size, 1, none⟩ = some (.slice aP ps.length cP) ∧ w'.cell? ⟨w.heap.size, 2, none⟩ = some (.slice aS es.length cS) ∧ w'.cell? ⟨w.heap.size, 3, none⟩ = some (.slice aQ qs.length cQ))
      (exact SK.out _ (by repeat (first | exact BE.out | exact BF.out | exact Below.refl _ _ | refine Below.drew ?_)))
      (first
        | (go_at_call 8; refine (toDevices_any _ ws ps es qs _ (RD.out _ (below_trans B_7.out (by repeat (first | exact Below.refl _ _ | refine Below.drew ?_)) (by omega))) hw hp he hq).mono ?_; rintro e wt ⟨vt, rfl, hrt, hbt⟩; have BF : Hid (Below w7.heap.size w7 wt) := (by first | exact hbt | exact below_trans (by repeat (first | exact Below.refl _ _ | refine Below.drew ?_)) hbt (Nat.le_refl _)); obtain ⟨aWt, cWt, aPt, cPt, aSt, cSt, aQt, cQt, rfl, -, -⟩ := hrt.rd.form; have RT := hideIt hrt.rd; clear hrt hbt)
        | (go_at_call 10; refine (eqDevices_same _ _ ws ps es qs _ (RX_7.out.rd.below (below_trans BF.out (by repeat (first | exact Below.refl _ _ | refine Below.drew ?_)) BF.out.size)) (RT.out.below (by repeat (first | exact Below.refl _ _ | refine Below.drew ?_))) (by omega) (by omega) (by omega) (by omega)).mono ?_; rintro e wu ⟨rfl, hbu⟩; have BE : Hid (Below w7.heap.size w7 wu) := below_trans BF.out (by first | exact hbu | exact below_trans (by repeat (first | exact Below.refl _ _ | refine Below.drew ?_)) hbu (Nat.le_refl _)) BF.out.size; clear hbu))
    all_goals
      go_wp2_with fail
      go_meet
      exact ⟨rfl, (by repeat (first | exact BE.out | refine Below.drew ?_))⟩
  case rest =>
  obtain ⟨rfl, hb8⟩ := hcut
  rename World => w8
  clear y0 y1 y2 y3 p0 p1 p2 p3 SK
  have hz8 : w7.heap.size ≤ w8.heap.size := hb8.size
  have B_8 := hideIt (below_trans B_7.out hb8 (by omega))
  have RS_8 := hideIt (RS_7.out.below hb8 (by omega))
  have RX_8 := hideIt (RX_7.out.below hb8 (by omega))
  have RG_8 := hideIt (RG_7.out.below hb8 (by omega))
  have VX_8 := hideIt ((hb8.block _ (by omega)).trans VX_7.out)
  clear B_7 hb8 RS_7 RX_7 RG_7 VX_7
  obtain ⟨y0, y1, y2, y3, -, -, -, -⟩ := four_cells VX_8.out
  go_wp2_with fail
  refine (markDevices_any _ ws ps es qs 1 _ _ w8 RX_8.out (by omega) (by omega) (by omega) (by omega) (by omega) (by decide) (by decide)).mono ?_
  rintro e w9 ⟨rfl, _, ho9⟩
  have hz9 : w8.heap.size ≤ w9.heap.size := ho9.size
  have B_9 := hideIt (B_8.out.trans (ho9.below (B := (w.alloc (.cells #[.slice aW ws.length cW, .slice aP ps.length cP, .slice aS es.length cS, .slice aQ qs.length cQ] 30)).heap.size) (by omega) (by omega)))
  have RS_9 := hideIt (RS_8.out.outside ho9 (by omega) (by omega))
  have RG_9 := hideIt (RG_8.out.outside ho9 (by omega) (by omega))
  have VX_9 := hideIt ((ho9.block _ (by omega) (by omega)).trans VX_8.out)
  clear B_8 RS_8 RX_8 RG_8 VX_8
  clear ho9
  clear y0 y1 y2 y3
  go_wp2_with fail
  refine (eqIntS_same _ _ L w9 RG_9.out.rd RS_9.out.rd (by omega)).mono ?_
  rintro e w10 ⟨rfl, hb10⟩
  have hz10 : w9.heap.size ≤ w10.heap.size := hb10.size
  have B_10 := hideIt (below_trans B_9.out hb10 (by omega))
  have RS_10 := hideIt (RS_9.out.below hb10 (by omega))
  have RG_10 := hideIt (RG_9.out.below hb10 (by omega))
  have VX_10 := hideIt ((hb10.block _ (by omega)).trans VX_9.out)
  clear B_9 RS_9 RG_9 VX_9
  clear hb10
  go_wp2_with fail
  refine (markIntS_any _ _ _ 1 _ _ w10 RG_10.out (fun u hu => by simp only [ints, List.mem_map] at hu; obtain ⟨z, _, rfl⟩ := hu; exact ⟨z, rfl⟩) (by omega) (by decide) (by decide)).mono ?_
  rintro e w11 ⟨rfl, hr11, hg11, he11⟩
  have ho11 := Row.grown_outside RG_10.out hg11
  have hz11 : w10.heap.size ≤ w11.heap.size := ho11.size
  have B_11 := hideIt (B_10.out.trans (ho11.below (B := (w.alloc (.cells #[.slice aW ws.length cW, .slice aP ps.length cP, .slice aS es.length cS, .slice aQ qs.length cQ] 30)).heap.size) (by omega) (by omega)))
  have RS_11 := hideIt (RS_10.out.outside ho11 (by omega) (by omega))
  have VX_11 := hideIt ((ho11.block _ (by omega) (by omega)).trans VX_10.out)
  clear B_10 RS_10 RG_10 VX_10
  have RK_11 := hideIt hr11
  clear ho11 hr11 hg11 he11
  go_wp2_with fail
  refine (heldIntS_any _ L.length 1 w11 (RdI_marks RK_11.out) (by omega) (by decide) (by decide)).mono ?_
  rintro e w' ⟨rfl, hw'⟩
  subst w'
  obtain ⟨p0, p1, p2, p3⟩ := id (CA.out w11 B_11.out)
  go_wp2_with fail
  refine (toDevices_any _ ws ps es qs w11 (RD.out w11 B_11.out) hw hp he hq).mono ?_
  rintro e w12 ⟨v12, rfl, hr12, hb12⟩
  have hz12 : w11.heap.size ≤ w12.heap.size := hb12.size
  have B_12 := hideIt (below_trans B_11.out hb12 (by omega))
  have RS_12 := hideIt (RS_11.out.below hb12 (by omega))
  have RK_12 := hideIt (RK_11.out.below hb12 (by omega))
  have VX_12 := hideIt ((hb12.block _ (by omega)).trans VX_11.out)
  clear B_11 RS_11 RK_11 VX_11
  obtain ⟨aW12, cW12, aP12, cP12, aS12, cS12, aQ12, cQ12, rfl, -, -⟩ := hr12.rd.form
  have RB_12 := hideIt hr12
  clear hb12 hr12
  clear p0 p1 p2 p3
  go_wp2_with fail
  refine (IC.out _ w12 (FB.out _ B_12.out) RB_12.out.rd).mono ?_
  rintro e w13 ⟨v13, rfl, hr13, hb13⟩
  have hz13 : w12.heap.size ≤ w13.heap.size := hb13.size
  have B_13 := hideIt (below_trans B_12.out hb13 (by omega))
  have RS_13 := hideIt (RS_12.out.below hb13 (by omega))
  have RK_13 := hideIt (RK_12.out.below hb13 (by omega))
  have RB_13 := hideIt (RB_12.out.below hb13 (by omega))
  have VX_13 := hideIt ((hb13.block _ (by omega)).trans VX_12.out)
  clear B_12 RS_12 RK_12 RB_12 VX_12
  obtain ⟨-, aL13, cL13, hvL13, -⟩ := hr13.rd
  subst hvL13
  have RH_13 := hideIt hr13
  clear hb13 hr13
  go_wp2_with fail
  refine (eqIntS_same _ _ L w13 RH_13.out.rd RS_13.out.rd (by omega)).mono ?_
  rintro e w14 ⟨rfl, hb14⟩
  have hz14 : w13.heap.size ≤ w14.heap.size := hb14.size
  have B_14 := hideIt (below_trans B_13.out hb14 (by omega))
  have RS_14 := hideIt (RS_13.out.below hb14 (by omega))
  have RK_14 := hideIt (RK_13.out.below hb14 (by omega))
  have RB_14 := hideIt (RB_13.out.below hb14 (by omega))
  have RH_14 := hideIt (RH_13.out.below hb14 (by omega))
  have VX_14 := hideIt ((hb14.block _ (by omega)).trans VX_13.out)
  clear B_13 RS_13 RK_13 RB_13 RH_13 VX_13
  clear hb14
  go_wp2_with fail
  refine (heldIntS_any _ L.length 1 w14 (RdI_marks RK_14.out) (by omega) (by decide) (by decide)).mono ?_
  rintro e w' ⟨rfl, hw'⟩
  subst w'
  go_wp2
  go_ret
  exact ⟨rfl, below_trans BW.out B_14.out (by omega)⟩
end Go.Proofs.YtgnfbiohjdepcaaGreatDoor
