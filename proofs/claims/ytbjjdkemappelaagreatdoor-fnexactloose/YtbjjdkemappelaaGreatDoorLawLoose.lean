/- The law of Loose: the walk. -/
import Derived.Test.YtbjjdkemappelaaGreatDoorYA
import Derived.Deep.DeepCutAuto
import Derived.Deep.RegionWith
namespace Go.Proofs.YtbjjdkemappelaaGreatDoor
open Go.RowKit

set_option maxRecDepth 100000 in
set_option maxHeartbeats 8000000 in
theorem loose_law (v : Value) (ws : List Int) (ps : List St) (es : List Int) (qs : List Se) (vM : Value) (l : List Mi) (w : World) (h : RdDev w v ws ps es qs) (hwl : ws.length ≤ maxLen) (hpl : ps.length ≤ maxLen) (hel : es.length ≤ maxLen) (hql : qs.length ≤ maxLen) (hM : RdM w vM l) (hml : l.length ≤ maxLen) (hS : SB w) (hT : TS w) (hE : ED w) (hF : FD w) :
    Calls Tryz.prog 5 #[v, vM] w fun e w' => e = .returned (.bool true) ∧ Below w.heap.size w w' := by
  have HRD := hideIt h
  obtain ⟨aW, cW, aP, cP, aS, cS, aQ, cQ, rfl, -, -⟩ := h.form
  have CA : Hid (∀ w', Below (w.alloc (.cells #[.slice aW ws.length cW, .slice aP ps.length cP, .slice aS es.length cS, .slice aQ qs.length cQ] 30)).heap.size (w.alloc (.cells #[.slice aW ws.length cW, .slice aP ps.length cP, .slice aS es.length cS, .slice aQ qs.length cQ] 30)) w' → w'.cell? ⟨w.heap.size, 0, none⟩ = some (.slice aW ws.length cW) ∧ w'.cell? ⟨w.heap.size, 1, none⟩ = some (.slice aP ps.length cP) ∧ w'.cell? ⟨w.heap.size, 2, none⟩ = some (.slice aS es.length cS) ∧ w'.cell? ⟨w.heap.size, 3, none⟩ = some (.slice aQ qs.length cQ)) := fun w' hb => by
    have : w'.heap[w.heap.size]? = some (.cells #[.slice aW ws.length cW, .slice aP ps.length cP, .slice aS es.length cS, .slice aQ qs.length cQ] 30 (0, 0)) := (hb.block _ (by simp)).trans (at_new rfl)
    obtain ⟨x0, x1, x2, x3, -, -, -, -⟩ := four_cells this
    exact ⟨x0, x1, x2, x3⟩
  have BW : Hid (Below w.heap.size w (w.alloc (.cells #[.slice aW ws.length cW, .slice aP ps.length cP, .slice aS es.length cS, .slice aQ qs.length cQ] 30))) := (Below.refl _ _).alloc (Nat.le_refl _) _
  have hWz : w.heap.size < (w.alloc (.cells #[.slice aW ws.length cW, .slice aP ps.length cP, .slice aS es.length cS, .slice aQ qs.length cQ] 30)).heap.size := by simp
  have RD : Hid (∀ w', Below (w.alloc (.cells #[.slice aW ws.length cW, .slice aP ps.length cP, .slice aS es.length cS, .slice aQ qs.length cQ] 30)).heap.size (w.alloc (.cells #[.slice aW ws.length cW, .slice aP ps.length cP, .slice aS es.length cS, .slice aQ qs.length cQ] 30)) w' → RdDev w' (.agg #[.slice aW ws.length cW, .slice aP ps.length cP, .slice aS es.length cS, .slice aQ qs.length cQ]) ws ps es qs) := fun w' hb => HRD.out.below (below_trans BW.out hb (by omega))
  have FB : Hid (∀ w', Below (w.alloc (.cells #[.slice aW ws.length cW, .slice aP ps.length cP, .slice aS es.length cS, .slice aQ qs.length cQ] 30)).heap.size (w.alloc (.cells #[.slice aW ws.length cW, .slice aP ps.length cP, .slice aS es.length cS, .slice aQ qs.length cQ] 30)) w' → Below w.heap.size w w') := fun w' hb => below_trans BW.out hb (by omega)
  clear h
  by_cases c0 : 1048576 < ws.length + ps.length + es.length + qs.length
  · obtain ⟨p0, p1, p2, p3⟩ := CA.out _ (Below.refl _ _)
    clear hT hE hF
    go_enter Tryz.func5, Tryz.ntmps5
    go_wp2_with fail
    refine (szDevices_any aW aP aS aQ ws.length ps.length es.length qs.length cW cP cS cQ _ hwl hpl hel hql).mono ?_
    rw [if_pos c0]
    rintro e w1 ⟨rfl, hb1⟩
    have B1 := hideIt (below_trans BW.out hb1 BW.out.size)
    clear hb1 p0 p1 p2 p3
    go_wp2
    go_ret
    exact ⟨rfl, B1.out⟩
  have E := hideIt (show (if 1048576 < ws.length + ps.length + es.length + qs.length then -1 else 1048576 - ws.length - ps.length - es.length - qs.length : Int) = 1048576 - ws.length - ps.length - es.length - qs.length from if_neg c0)
  have hw : ws.length ≤ 1048576 := by omega
  have hp : ps.length ≤ 1048576 := by omega
  have he : es.length ≤ 1048576 := by omega
  have hq : qs.length ≤ 1048576 := by omega
  have hll0 : l.length ≤ maxLen := hml
  obtain ⟨aM, cM, rfl, _, _⟩ := hM.shape
  have DM : Hid (∀ w', Below (w.alloc (.cells #[.slice aW ws.length cW, .slice aP ps.length cP, .slice aS es.length cS, .slice aQ qs.length cQ] 30)).heap.size (w.alloc (.cells #[.slice aW ws.length cW, .slice aP ps.length cP, .slice aS es.length cS, .slice aQ qs.length cQ] 30)) w' → RdM w' (.slice aM l.length cM) l) := fun w' hb => Rd.below hM (below_trans BW.out hb (by omega))
  clear hM
  obtain ⟨left, hleft⟩ : ∃ left : Int, left = 1048576 - ws.length - ps.length - es.length - qs.length := ⟨_, rfl⟩
  have E := hideIt (E.out.trans hleft.symm)
  have hl0 : 0 ≤ left := by omega
  have hl1 : left ≤ 1048576 := by omega
  clear hleft
  by_cases cN : left < l.length
  · have E2 := hideIt (show less left l.length = -1 from if_pos cN)
    obtain ⟨p0, p1, p2, p3⟩ := CA.out _ (Below.refl _ _)
    clear hT hE hF hS
    go_enter Tryz.func5, Tryz.ntmps5
    go_wp2_with fail
    refine (szDevices_any aW aP aS aQ ws.length ps.length es.length qs.length cW cP cS cQ _ hwl hpl hel hql).mono ?_
    rw [E.out]
    rintro e w1 ⟨rfl, hb1⟩
    have B1 := hideIt (below_trans BW.out hb1 BW.out.size)
    clear hb1 p0 p1 p2 p3
    go_wp2_with (go_at_call 19; refine (szMicroS_any aM l.length cM _ _ hll0 hl0 hl1).mono ?_; rw [E2.out]; rintro e w' ⟨rfl, hw'⟩; subst w')
    go_ret
    exact ⟨rfl, B1.out⟩
  have E2 := hideIt (show less left l.length = left - l.length from if_neg cN)
  have hll : l.length ≤ 1048576 := by omega
  have hlz : ¬ (left - (l.length : Int)) < 0 := by omega
  have IC := hideIt (fun v vM w1 (hb : Below w.heap.size w w1) h h2 => implLoose_any v ws ps es qs vM l w1 h h2 hw hp he hq hll (hT.below hb) (hE.below hb) (hF.below hb) (hS.below hb))
  have SC := hideIt (fun v vM w1 h h2 => specLoose_any v ws ps es qs vM l w1 h h2 hw hp he hq hll)
  have d1 := lsR_len ws ps es qs l hll
  generalize lsR ws ps es qs l = R at *
  obtain ⟨L, cd⟩ := R
  simp only at d1 SC IC
  obtain ⟨K, hK⟩ : ∃ K : Int, K = 1 + ws.length + 3 * ps.length + es.length + 2 * qs.length := ⟨_, rfl⟩
  have MD := hideIt (fun v lo hi w1 h hi1 => markDevices_any v ws ps es qs 1 lo hi w1 h hi1 (by omega) (by omega) (by omega) (by omega) (by decide) (by decide))
  rw [← hK] at MD
  have k0 : 0 ≤ K := by omega
  have k1 : K ≤ 1099511627776 := by omega
  have k2 : ¬ (K + 3 * (l.length : Int)) < 0 := by omega
  clear hK hS
  clear hT hE hF
  have B_0 : Hid (Below (w.alloc (.cells #[.slice aW ws.length cW, .slice aP ps.length cP, .slice aS es.length cS, .slice aQ qs.length cQ] 30)).heap.size (w.alloc (.cells #[.slice aW ws.length cW, .slice aP ps.length cP, .slice aS es.length cS, .slice aQ qs.length cQ] 30)) (w.alloc (.cells #[.slice aW ws.length cW, .slice aP ps.length cP, .slice aS es.length cS, .slice aQ qs.length cQ] 30))) := Below.refl _ _
  go_enter Tryz.func5, Tryz.ntmps5
  obtain ⟨p0, p1, p2, p3⟩ := id (CA.out (w.alloc (.cells #[.slice aW ws.length cW, .slice aP ps.length cP, .slice aS es.length cS, .slice aQ qs.length cQ] 30)) B_0.out)
  go_wp2_with fail
  refine (szDevices_any aW aP aS aQ ws.length ps.length es.length qs.length cW cP cS cQ (w.alloc (.cells #[.slice aW ws.length cW, .slice aP ps.length cP, .slice aS es.length cS, .slice aQ qs.length cQ] 30)) hwl hpl hel hql).mono ?_
  rw [E.out]
  rintro e w1 ⟨rfl, hb1⟩
  have hz1 : (w.alloc (.cells #[.slice aW ws.length cW, .slice aP ps.length cP, .slice aS es.length cS, .slice aQ qs.length cQ] 30)).heap.size ≤ w1.heap.size := hb1.size
  have B_1 := hideIt (below_trans B_0.out hb1 (by omega))
  clear B_0
  clear hb1
  clear p0 p1 p2 p3
  go_wp2_with fail
  refine (szMicroS_any aM l.length cM _ w1 hll0 hl0 hl1).mono ?_
  rw [E2.out]
  rintro e w' ⟨rfl, hw'⟩
  subst w'
  obtain ⟨p0, p1, p2, p3⟩ := id (CA.out w1 B_1.out)
  go_wp2_with fail
  refine (toDevices_any _ ws ps es qs w1 (RD.out w1 B_1.out) hw hp he hq).mono ?_
  rintro e w2 ⟨v2, rfl, hr2, hb2⟩
  have hz2 : w1.heap.size ≤ w2.heap.size := hb2.size
  have B_2 := hideIt (below_trans B_1.out hb2 (by omega))
  clear B_1
  obtain ⟨aW2, cW2, aP2, cP2, aS2, cS2, aQ2, cQ2, rfl, -, -⟩ := hr2.rd.form
  have RA_2 := hideIt hr2
  clear hb2 hr2
  clear p0 p1 p2 p3
  go_wp2_with fail
  refine (toMicroS_any _ l w2 (DM.out w2 B_2.out) hll).mono ?_
  rintro e w3 ⟨v3, rfl, hr3, hb3⟩
  have hz3 : w2.heap.size ≤ w3.heap.size := hb3.size
  have B_3 := hideIt (below_trans B_2.out hb3 (by omega))
  have RA_3 := hideIt (RA_2.out.below hb3 (by omega))
  clear B_2 RA_2
  obtain ⟨-, aY3, cY3, hvY3, -⟩ := hr3.rd
  subst hvY3
  have RM_3 := hideIt hr3
  clear hb3 hr3
  go_wp2_with fail
  refine (SC.out _ _ w3 RA_3.out.rd RM_3.out.rd).mono ?_
  rintro e w4 ⟨v4, rfl, hr4, hb4⟩
  have hz4 : w3.heap.size ≤ w4.heap.size := hb4.size
  have B_4 := hideIt (below_trans B_3.out hb4 (by omega))
  have RA_4 := hideIt (RA_3.out.below hb4 (by omega))
  have RM_4 := hideIt (RM_3.out.below hb4 (by omega))
  clear B_3 RA_3 RM_3
  obtain ⟨-, aL4, cL4, hvL4, -⟩ := hr4.rd
  subst hvL4
  have RS_4 := hideIt hr4
  clear hb4 hr4
  clear RA_4 RM_4
  obtain ⟨p0, p1, p2, p3⟩ := id (CA.out w4 B_4.out)
  go_wp2_with fail
  refine (toDevices_any _ ws ps es qs w4 (RD.out w4 B_4.out) hw hp he hq).mono ?_
  rintro e w5 ⟨v5, rfl, hr5, hb5⟩
  have hz5 : w4.heap.size ≤ w5.heap.size := hb5.size
  have B_5 := hideIt (below_trans B_4.out hb5 (by omega))
  have RS_5 := hideIt (RS_4.out.below hb5 (by omega))
  clear B_4 RS_4
  obtain ⟨aW5, cW5, aP5, cP5, aS5, cS5, aQ5, cQ5, rfl, -, -⟩ := hr5.rd.form
  have RX_5 := hideIt hr5
  clear hb5 hr5
  clear p0 p1 p2 p3
  obtain ⟨w6, hA6⟩ : ∃ w6 : World, w6 = w5.alloc (.cells #[.slice aW5 ws.length cW5, .slice aP5 ps.length cP5, .slice aS5 es.length cS5, .slice aQ5 qs.length cQ5] 41) := ⟨_, rfl⟩
  have hb6 : Below w5.heap.size w5 w6 := by rw [hA6]; exact (Below.refl _ _).alloc (Nat.le_refl _) _
  have VX_6 : Hid (w6.heap[w5.heap.size]? = some (.cells #[.slice aW5 ws.length cW5, .slice aP5 ps.length cP5, .slice aS5 es.length cS5, .slice aQ5 qs.length cQ5] 41 (0, 0))) := by rw [hA6]; exact at_new rfl
  have hl6 : w5.heap.size < w6.heap.size := (Array.getElem?_eq_some_iff.1 VX_6.out).1
  have hz6 : w5.heap.size ≤ w6.heap.size := hb6.size
  have B_6 := hideIt (below_trans B_5.out hb6 (by omega))
  have RS_6 := hideIt (RS_5.out.below hb6 (by omega))
  have RX_6 := hideIt (RX_5.out.below hb6 (by omega))
  clear B_5 hb6 RS_5 RX_5
  go_wp2_with fail
  rw [← hA6]
  clear hA6
  refine (toMicroS_any _ l w6 (DM.out w6 B_6.out) hll).mono ?_
  rintro e w7 ⟨v7, rfl, hr7, hb7⟩
  have hz7 : w6.heap.size ≤ w7.heap.size := hb7.size
  have B_7 := hideIt (below_trans B_6.out hb7 (by omega))
  have RS_7 := hideIt (RS_6.out.below hb7 (by omega))
  have RX_7 := hideIt (RX_6.out.below hb7 (by omega))
  have VX_7 := hideIt ((hb7.block _ (by omega)).trans VX_6.out)
  clear B_6 RS_6 RX_6 VX_6
  obtain ⟨-, aY7, cY7, hvY7, -⟩ := hr7.rd
  subst hvY7
  have RY_7 := hideIt hr7
  clear hb7 hr7
  obtain ⟨y0, y1, y2, y3, -, -, -, -⟩ := four_cells VX_7.out
  go_wp2_with fail
  refine (IC.out _ _ w7 (FB.out _ B_7.out) RX_7.out.rd RY_7.out.rd).mono ?_
  rintro e w8 ⟨v8, rfl, hr8, hb8⟩
  have hz8 : w7.heap.size ≤ w8.heap.size := hb8.size
  have B_8 := hideIt (below_trans B_7.out hb8 (by omega))
  have RS_8 := hideIt (RS_7.out.below hb8 (by omega))
  have RX_8 := hideIt (RX_7.out.below hb8 (by omega))
  have RY_8 := hideIt (RY_7.out.below hb8 (by omega))
  have VX_8 := hideIt ((hb8.block _ (by omega)).trans VX_7.out)
  clear B_7 RS_7 RX_7 RY_7 VX_7
  obtain ⟨-, aL8, cL8, hvL8, -⟩ := hr8.rd
  subst hvL8
  have RG_8 := hideIt hr8
  clear hb8 hr8
  clear y0 y1 y2 y3
  go_wp2_with fail
  refine (eqIntS_same _ _ L w8 RG_8.out.rd RS_8.out.rd (by omega)).mono ?_
  rintro e w9 ⟨rfl, hb9⟩
  have hz9 : w8.heap.size ≤ w9.heap.size := hb9.size
  have B_9 := hideIt (below_trans B_8.out hb9 (by omega))
  have RS_9 := hideIt (RS_8.out.below hb9 (by omega))
  have RX_9 := hideIt (RX_8.out.below hb9 (by omega))
  have RY_9 := hideIt (RY_8.out.below hb9 (by omega))
  have RG_9 := hideIt (RG_8.out.below hb9 (by omega))
  have VX_9 := hideIt ((hb9.block _ (by omega)).trans VX_8.out)
  clear B_8 RS_8 RX_8 RY_8 RG_8 VX_8
  clear hb9
  obtain ⟨y0, y1, y2, y3, -, -, -, -⟩ := four_cells VX_9.out
  obtain ⟨p0, p1, p2, p3⟩ := CA.out w9 B_9.out
  have SK : Hid (∀ w', Below w9.heap.size w9 w' → (w'.cell? ⟨w5.heap.size, 0, none⟩ = some (.slice aW5 ws.length cW5) ∧ w'.cell? ⟨w5.heap.size, 1, none⟩ = some (.slice aP5 ps.length cP5) ∧ w'.cell? ⟨w5.heap.size, 2, none⟩ = some (.slice aS5 es.length cS5) ∧ w'.cell? ⟨w5.heap.size, 3, none⟩ = some (.slice aQ5 qs.length cQ5)) ∧ w'.cell? ⟨w.heap.size, 0, none⟩ = some (.slice aW ws.length cW) ∧ w'.cell? ⟨w.heap.size, 1, none⟩ = some (.slice aP ps.length cP) ∧ w'.cell? ⟨w.heap.size, 2, none⟩ = some (.slice aS es.length cS) ∧ w'.cell? ⟨w.heap.size, 3, none⟩ = some (.slice aQ qs.length cQ)) := fun w' hb => ⟨by obtain ⟨a, b, c, d, -, -, -, -⟩ := four_cells ((hb.block _ (by omega)).trans VX_9.out); exact ⟨a, b, c, d⟩, CA.out w' (below_trans B_9.out hb (by omega))⟩
  go_upto_region 14 with fail
  go_cut [58] (fun s wx => s = .bool false ∧ Below w9.heap.size w9 wx)
  case first =>
    go_region_held3 (fun w' => (w'.cell? ⟨w5.heap.size, 0, none⟩ = some (.slice aW5 ws.length cW5) ∧ w'.cell? ⟨w5.heap.size, 1, none⟩ = some (.slice aP5 ps.length cP5) ∧ w'.cell? ⟨w5.heap.size, 2, none⟩ = some (.slice aS5 es.length cS5) ∧ w'.cell? ⟨w5.heap.size, 3, none⟩ = some (.slice aQ5 qs.length cQ5)) ∧ w'.cell? ⟨w.heap.size, 0, none⟩ = some (.slice aW ws.length cW) ∧ w'.cell? ⟨w.heap.size, 1, none⟩ = some (.slice aP ps.length cP) ∧ w'.cell? ⟨w.heap.size, 2, none⟩ = some (.slice aS es.length cS) ∧ w'.cell? ⟨w.heap.size, 3, none⟩ = some (.slice aQ qs.length cQ))
      (exact SK.out _ (by repeat (first | exact BE.out | exact BF.out | exact Below.refl _ _ | refine Below.drew ?_)))
      (first
        | (go_at_call 10; refine (toDevices_any _ ws ps es qs _ (RD.out _ (below_trans B_9.out (by repeat (first | exact Below.refl _ _ | refine Below.drew ?_)) (by omega))) hw hp he hq).mono ?_; rintro e wt ⟨vt, rfl, hrt, hbt⟩; have BF : Hid (Below w9.heap.size w9 wt) := (by first | exact hbt | exact below_trans (by repeat (first | exact Below.refl _ _ | refine Below.drew ?_)) hbt (Nat.le_refl _)); obtain ⟨aWt, cWt, aPt, cPt, aSt, cSt, aQt, cQt, rfl, -, -⟩ := hrt.rd.form; have RT := hideIt hrt.rd; clear hrt hbt)
        | (go_at_call 12; refine (eqDevices_same _ _ ws ps es qs _ (RX_9.out.rd.below (below_trans BF.out (by repeat (first | exact Below.refl _ _ | refine Below.drew ?_)) BF.out.size)) (RT.out.below (by repeat (first | exact Below.refl _ _ | refine Below.drew ?_))) (by omega) (by omega) (by omega) (by omega)).mono ?_; rintro e wu ⟨rfl, hbu⟩; have BE : Hid (Below w9.heap.size w9 wu) := below_trans BF.out (by first | exact hbu | exact below_trans (by repeat (first | exact Below.refl _ _ | refine Below.drew ?_)) hbu (Nat.le_refl _)) BF.out.size; clear hbu))
    all_goals
      go_wp2_with fail
      go_meet
      exact ⟨rfl, (by repeat (first | exact BE.out | refine Below.drew ?_))⟩
  case rest =>
  obtain ⟨rfl, hb10⟩ := hcut
  rename World => w10
  clear y0 y1 y2 y3 p0 p1 p2 p3 SK
  have hz10 : w9.heap.size ≤ w10.heap.size := hb10.size
  have B_10 := hideIt (below_trans B_9.out hb10 (by omega))
  have RS_10 := hideIt (RS_9.out.below hb10 (by omega))
  have RX_10 := hideIt (RX_9.out.below hb10 (by omega))
  have RY_10 := hideIt (RY_9.out.below hb10 (by omega))
  have RG_10 := hideIt (RG_9.out.below hb10 (by omega))
  have VX_10 := hideIt ((hb10.block _ (by omega)).trans VX_9.out)
  clear B_9 hb10 RS_9 RX_9 RY_9 RG_9 VX_9
  go_wp2_with fail
  refine (toMicroS_any _ l w10 (DM.out w10 B_10.out) hll).mono ?_
  rintro e w11 ⟨v11, rfl, hr11, hb11⟩
  have hz11 : w10.heap.size ≤ w11.heap.size := hb11.size
  have B_11 := hideIt (below_trans B_10.out hb11 (by omega))
  have RS_11 := hideIt (RS_10.out.below hb11 (by omega))
  have RX_11 := hideIt (RX_10.out.below hb11 (by omega))
  have RY_11 := hideIt (RY_10.out.below hb11 (by omega))
  have RG_11 := hideIt (RG_10.out.below hb11 (by omega))
  have VX_11 := hideIt ((hb11.block _ (by omega)).trans VX_10.out)
  clear B_10 RS_10 RX_10 RY_10 RG_10 VX_10
  obtain ⟨-, aY11, cY11, hvY11, -⟩ := hr11.rd
  subst hvY11
  have RZ_11 := hideIt hr11
  clear hb11 hr11
  go_wp2_with fail
  refine (eqMicroS_same _ _ l w11 RY_11.out.rd RZ_11.out.rd (by omega)).mono ?_
  rintro e w12 ⟨rfl, hb12⟩
  have hz12 : w11.heap.size ≤ w12.heap.size := hb12.size
  have B_12 := hideIt (below_trans B_11.out hb12 (by omega))
  have RS_12 := hideIt (RS_11.out.below hb12 (by omega))
  have RX_12 := hideIt (RX_11.out.below hb12 (by omega))
  have RY_12 := hideIt (RY_11.out.below hb12 (by omega))
  have RG_12 := hideIt (RG_11.out.below hb12 (by omega))
  have RZ_12 := hideIt (RZ_11.out.below hb12 (by omega))
  have VX_12 := hideIt ((hb12.block _ (by omega)).trans VX_11.out)
  clear B_11 RS_11 RX_11 RY_11 RG_11 RZ_11 VX_11
  clear hb12
  clear RZ_12
  obtain ⟨y0, y1, y2, y3, -, -, -, -⟩ := four_cells VX_12.out
  go_wp2_with fail
  refine (MD.out _ _ _ w12 RX_12.out (by omega)).mono ?_
  rintro e w13 ⟨rfl, _, ho13⟩
  have hz13 : w12.heap.size ≤ w13.heap.size := ho13.size
  have B_13 := hideIt (B_12.out.trans (ho13.below (B := (w.alloc (.cells #[.slice aW ws.length cW, .slice aP ps.length cP, .slice aS es.length cS, .slice aQ qs.length cQ] 30)).heap.size) (by omega) (by omega)))
  have RS_13 := hideIt (RS_12.out.outside ho13 (by omega) (by omega))
  have RY_13 := hideIt (RY_12.out.outside ho13 (by omega) (by omega))
  have RG_13 := hideIt (RG_12.out.outside ho13 (by omega) (by omega))
  have VX_13 := hideIt ((ho13.block _ (by omega) (by omega)).trans VX_12.out)
  clear B_12 RS_12 RX_12 RY_12 RG_12 VX_12
  clear ho13
  clear y0 y1 y2 y3
  go_wp2_with fail
  refine (markMicroS_any _ _ _ K _ _ w13 RY_13.out (isMis l) (by omega) k0 k1).mono ?_
  rintro e w14 ⟨rfl, hr14, hg14, he14⟩
  have ho14 := Row.grown_outside RY_13.out hg14
  have hz14 : w13.heap.size ≤ w14.heap.size := ho14.size
  have B_14 := hideIt (B_13.out.trans (ho14.below (B := (w.alloc (.cells #[.slice aW ws.length cW, .slice aP ps.length cP, .slice aS es.length cS, .slice aQ qs.length cQ] 30)).heap.size) (by omega) (by omega)))
  have RS_14 := hideIt (RS_13.out.outside ho14 (by omega) (by omega))
  have RG_14 := hideIt (RG_13.out.outside ho14 (by omega) (by omega))
  have VX_14 := hideIt ((ho14.block _ (by omega) (by omega)).trans VX_13.out)
  clear B_13 RS_13 RY_13 RG_13 VX_13
  clear ho14 hr14 hg14 he14
  go_wp2_with fail
  refine (eqIntS_same _ _ L w14 RG_14.out.rd RS_14.out.rd (by omega)).mono ?_
  rintro e w15 ⟨rfl, hb15⟩
  have hz15 : w14.heap.size ≤ w15.heap.size := hb15.size
  have B_15 := hideIt (below_trans B_14.out hb15 (by omega))
  have RS_15 := hideIt (RS_14.out.below hb15 (by omega))
  have RG_15 := hideIt (RG_14.out.below hb15 (by omega))
  have VX_15 := hideIt ((hb15.block _ (by omega)).trans VX_14.out)
  clear B_14 RS_14 RG_14 VX_14
  clear hb15
  go_wp2_with fail
  refine (markIntS_any _ _ _ 1 _ _ w15 RG_15.out (fun u hu => by simp only [ints, List.mem_map] at hu; obtain ⟨z, _, rfl⟩ := hu; exact ⟨z, rfl⟩) (by omega) (by decide) (by decide)).mono ?_
  rintro e w16 ⟨rfl, hr16, hg16, he16⟩
  have ho16 := Row.grown_outside RG_15.out hg16
  have hz16 : w15.heap.size ≤ w16.heap.size := ho16.size
  have B_16 := hideIt (B_15.out.trans (ho16.below (B := (w.alloc (.cells #[.slice aW ws.length cW, .slice aP ps.length cP, .slice aS es.length cS, .slice aQ qs.length cQ] 30)).heap.size) (by omega) (by omega)))
  have RS_16 := hideIt (RS_15.out.outside ho16 (by omega) (by omega))
  have VX_16 := hideIt ((ho16.block _ (by omega) (by omega)).trans VX_15.out)
  clear B_15 RS_15 RG_15 VX_15
  have RK_16 := hideIt hr16
  clear ho16 hr16 hg16 he16
  go_wp2_with fail
  refine (heldIntS_any _ L.length 1 w16 (RdI_marks RK_16.out) (by omega) (by decide) (by decide)).mono ?_
  rintro e w' ⟨rfl, hw'⟩
  subst w'
  obtain ⟨p0, p1, p2, p3⟩ := id (CA.out w16 B_16.out)
  go_wp2_with fail
  refine (toDevices_any _ ws ps es qs w16 (RD.out w16 B_16.out) hw hp he hq).mono ?_
  rintro e w17 ⟨v17, rfl, hr17, hb17⟩
  have hz17 : w16.heap.size ≤ w17.heap.size := hb17.size
  have B_17 := hideIt (below_trans B_16.out hb17 (by omega))
  have RS_17 := hideIt (RS_16.out.below hb17 (by omega))
  have RK_17 := hideIt (RK_16.out.below hb17 (by omega))
  have VX_17 := hideIt ((hb17.block _ (by omega)).trans VX_16.out)
  clear B_16 RS_16 RK_16 VX_16
  obtain ⟨aW17, cW17, aP17, cP17, aS17, cS17, aQ17, cQ17, rfl, -, -⟩ := hr17.rd.form
  have RB_17 := hideIt hr17
  clear hb17 hr17
  clear p0 p1 p2 p3
  go_wp2_with fail
  refine (toMicroS_any _ l w17 (DM.out w17 B_17.out) hll).mono ?_
  rintro e w18 ⟨v18, rfl, hr18, hb18⟩
  have hz18 : w17.heap.size ≤ w18.heap.size := hb18.size
  have B_18 := hideIt (below_trans B_17.out hb18 (by omega))
  have RS_18 := hideIt (RS_17.out.below hb18 (by omega))
  have RK_18 := hideIt (RK_17.out.below hb18 (by omega))
  have RB_18 := hideIt (RB_17.out.below hb18 (by omega))
  have VX_18 := hideIt ((hb18.block _ (by omega)).trans VX_17.out)
  clear B_17 RS_17 RK_17 RB_17 VX_17
  obtain ⟨-, aY18, cY18, hvY18, -⟩ := hr18.rd
  subst hvY18
  have RC_18 := hideIt hr18
  clear hb18 hr18
  go_wp2_with fail
  refine (IC.out _ _ w18 (FB.out _ B_18.out) RB_18.out.rd RC_18.out.rd).mono ?_
  rintro e w19 ⟨v19, rfl, hr19, hb19⟩
  have hz19 : w18.heap.size ≤ w19.heap.size := hb19.size
  have B_19 := hideIt (below_trans B_18.out hb19 (by omega))
  have RS_19 := hideIt (RS_18.out.below hb19 (by omega))
  have RK_19 := hideIt (RK_18.out.below hb19 (by omega))
  have RB_19 := hideIt (RB_18.out.below hb19 (by omega))
  have RC_19 := hideIt (RC_18.out.below hb19 (by omega))
  have VX_19 := hideIt ((hb19.block _ (by omega)).trans VX_18.out)
  clear B_18 RS_18 RK_18 RB_18 RC_18 VX_18
  obtain ⟨-, aL19, cL19, hvL19, -⟩ := hr19.rd
  subst hvL19
  have RH_19 := hideIt hr19
  clear hb19 hr19
  go_wp2_with fail
  refine (eqIntS_same _ _ L w19 RH_19.out.rd RS_19.out.rd (by omega)).mono ?_
  rintro e w20 ⟨rfl, hb20⟩
  have hz20 : w19.heap.size ≤ w20.heap.size := hb20.size
  have B_20 := hideIt (below_trans B_19.out hb20 (by omega))
  have RS_20 := hideIt (RS_19.out.below hb20 (by omega))
  have RK_20 := hideIt (RK_19.out.below hb20 (by omega))
  have RB_20 := hideIt (RB_19.out.below hb20 (by omega))
  have RC_20 := hideIt (RC_19.out.below hb20 (by omega))
  have RH_20 := hideIt (RH_19.out.below hb20 (by omega))
  have VX_20 := hideIt ((hb20.block _ (by omega)).trans VX_19.out)
  clear B_19 RS_19 RK_19 RB_19 RC_19 RH_19 VX_19
  clear hb20
  go_wp2_with fail
  refine (heldIntS_any _ L.length 1 w20 (RdI_marks RK_20.out) (by omega) (by decide) (by decide)).mono ?_
  rintro e w' ⟨rfl, hw'⟩
  subst w'
  go_wp2
  go_ret
  exact ⟨rfl, below_trans BW.out B_20.out (by omega)⟩
end Go.Proofs.YtbjjdkemappelaaGreatDoor
