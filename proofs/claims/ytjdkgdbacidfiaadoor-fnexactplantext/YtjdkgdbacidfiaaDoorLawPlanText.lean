/- The law of PlanText: the walk. -/
import Derived.Test.YtjdkgdbacidfiaaDoorMtC
import Derived.Test.YtjdkgdbacidfiaaDoorMiT
import Derived.Test.YtjdkgdbacidfiaaDoorMkT
namespace Go.Proofs.YtjdkgdbacidfiaaDoor
open Go.RowKit
theorem RdT_marksM {w : World} {lo hi : Nat} {v : Value} {k : Int} {n : Nat} (h : Row w 9 1 lo hi v n (strs (marksT k n))) : RdT w v (marksT k n) := by
  have := h.rd
  unfold RdT
  rw [marksT_len]
  exact this
theorem RdM_below {w w' : World} {v : Value} {l : List Mi} (h : RdM w v l) (hb : Below w.heap.size w w') : RdM w' v l := Rd.below h hb
set_option maxRecDepth 100000 in
set_option maxHeartbeats 8000000 in
theorem planText_law (v : Value) (l : List Mi) (w : World) (hM : RdM w v l) (hml : l.length ≤ maxLen) (hS : SB w) (hF : StF w) (hP : PT w) :
    Calls Tryd.prog 5 #[v] w fun e w' => e = .returned (.bool true) ∧ Below w.heap.size w w' := by
  have DM := hideIt hM
  obtain ⟨aM, cM, rfl, _, _⟩ := hM.shape
  clear hM
  by_cases cN : (1048576 : Int) < l.length
  · have E2 := hideIt (show less 1048576 l.length = -1 from if_pos cN)
    clear hS hF hP DM
    go_enter Tryd.func5, Tryd.ntmps5
    go_wp2_with (go_at_call 13; refine (szMicroS_any aM l.length cM _ _ hml (by omega) (by omega)).mono ?_; rw [E2.out]; rintro e w' ⟨rfl, hw'⟩; subst w')
    go_ret
    exact ⟨rfl, Below.refl _ _⟩
  have E2 := hideIt (show less 1048576 l.length = 1048576 - l.length from if_neg cN)
  have hll : l.length ≤ 1048576 := by omega
  have hlz : ¬ ((1048576 : Int) - (l.length : Int)) < 0 := by omega
  have IC := hideIt (fun v w1 (hb : Below w.heap.size w w1) h => implPlanText_any v l w1 h hll (hS.below hb) (hF.below hb) (hP.below hb))
  have SC := hideIt (fun v w1 h => specPlanText_any v l w1 h hll)
  have d1 := ptL_len l
  have k2 : ¬ (1 + 3 * (l.length : Int)) < 0 := by omega
  generalize ptL l = L at *
  generalize ptC l = cd at *
  clear hS hF hP cN
  have B_0 : Hid (Below w.heap.size w w) := Below.refl _ _
  go_enter Tryd.func5, Tryd.ntmps5
  go_wp2_with fail
  refine (szMicroS_any aM l.length cM 1048576 w hml (by omega) (by omega)).mono ?_
  rw [E2.out]
  rintro e w' ⟨rfl, hw'⟩
  subst w'
  go_wp2_with fail
  refine (toMicroS_any _ l w (RdM_below DM.out B_0.out) hll).mono ?_
  rintro e w1 ⟨v1, rfl, hr1, hb1⟩
  have hz1 : w.heap.size ≤ w1.heap.size := hb1.size
  have B_1 := hideIt (below_trans B_0.out hb1 (by omega))
  clear B_0
  obtain ⟨-, aY1, cY1, hvY1, -⟩ := hr1.rd
  subst hvY1
  have RA_1 := hideIt hr1
  clear hb1 hr1
  go_wp2_with fail
  refine (SC.out _ w1 RA_1.out.rd).mono ?_
  rintro e w2 ⟨v2, rfl, hr2, hb2⟩
  have hz2 : w1.heap.size ≤ w2.heap.size := hb2.size
  have B_2 := hideIt (below_trans B_1.out hb2 (by omega))
  have RA_2 := hideIt (RA_1.out.below hb2 (by omega))
  clear B_1 RA_1
  obtain ⟨-, aL2, cL2, hvL2, -⟩ := hr2.rd
  subst hvL2
  have RS_2 := hideIt hr2
  clear hb2 hr2
  clear RA_2
  go_wp2_with fail
  refine (toMicroS_any _ l w2 (RdM_below DM.out B_2.out) hll).mono ?_
  rintro e w3 ⟨v3, rfl, hr3, hb3⟩
  have hz3 : w2.heap.size ≤ w3.heap.size := hb3.size
  have B_3 := hideIt (below_trans B_2.out hb3 (by omega))
  have RS_3 := hideIt (RS_2.out.below hb3 (by omega))
  clear B_2 RS_2
  obtain ⟨-, aY3, cY3, hvY3, -⟩ := hr3.rd
  subst hvY3
  have RY_3 := hideIt hr3
  clear hb3 hr3
  go_wp2_with fail
  refine (IC.out _ w3 B_3.out RY_3.out.rd).mono ?_
  rintro e w4 ⟨v4, rfl, hr4, hb4⟩
  have hz4 : w3.heap.size ≤ w4.heap.size := hb4.size
  have B_4 := hideIt (below_trans B_3.out hb4 (by omega))
  have RS_4 := hideIt (RS_3.out.below hb4 (by omega))
  have RY_4 := hideIt (RY_3.out.below hb4 (by omega))
  clear B_3 RS_3 RY_3
  obtain ⟨-, aL4, cL4, hvL4, -⟩ := hr4.rd
  subst hvL4
  have RG_4 := hideIt hr4
  clear hb4 hr4
  go_wp2_with fail
  refine (eqStringS_same _ _ L w4 RG_4.out.rd RS_4.out.rd (by omega)).mono ?_
  rintro e w5 ⟨rfl, hb5⟩
  have hz5 : w4.heap.size ≤ w5.heap.size := hb5.size
  have B_5 := hideIt (below_trans B_4.out hb5 (by omega))
  have RS_5 := hideIt (RS_4.out.below hb5 (by omega))
  have RY_5 := hideIt (RY_4.out.below hb5 (by omega))
  have RG_5 := hideIt (RG_4.out.below hb5 (by omega))
  clear B_4 RS_4 RY_4 RG_4
  clear hb5
  go_wp2_with fail
  refine (toMicroS_any _ l w5 (RdM_below DM.out B_5.out) hll).mono ?_
  rintro e w6 ⟨v6, rfl, hr6, hb6⟩
  have hz6 : w5.heap.size ≤ w6.heap.size := hb6.size
  have B_6 := hideIt (below_trans B_5.out hb6 (by omega))
  have RS_6 := hideIt (RS_5.out.below hb6 (by omega))
  have RY_6 := hideIt (RY_5.out.below hb6 (by omega))
  have RG_6 := hideIt (RG_5.out.below hb6 (by omega))
  clear B_5 RS_5 RY_5 RG_5
  obtain ⟨-, aY6, cY6, hvY6, -⟩ := hr6.rd
  subst hvY6
  have RZ_6 := hideIt hr6
  clear hb6 hr6
  go_wp2_with fail
  refine (eqMicroS_same _ _ l w6 RY_6.out.rd RZ_6.out.rd (by omega)).mono ?_
  rintro e w7 ⟨rfl, hb7⟩
  have hz7 : w6.heap.size ≤ w7.heap.size := hb7.size
  have B_7 := hideIt (below_trans B_6.out hb7 (by omega))
  have RS_7 := hideIt (RS_6.out.below hb7 (by omega))
  have RY_7 := hideIt (RY_6.out.below hb7 (by omega))
  have RG_7 := hideIt (RG_6.out.below hb7 (by omega))
  have RZ_7 := hideIt (RZ_6.out.below hb7 (by omega))
  clear B_6 RS_6 RY_6 RG_6 RZ_6
  clear hb7
  clear RZ_7
  go_wp2_with fail
  refine (markMicroS_any _ _ _ 1 _ _ w7 RY_7.out (isMis l) (by omega) (by decide) (by decide)).mono ?_
  rintro e w8 ⟨rfl, hr8, hg8, he8⟩
  have ho8 := Row.grown_outside RY_7.out hg8
  have hz8 : w7.heap.size ≤ w8.heap.size := ho8.size
  have B_8 := hideIt (B_7.out.trans (ho8.below (B := w.heap.size) (by omega) (by omega)))
  have RS_8 := hideIt (RS_7.out.outside ho8 (by omega) (by omega))
  have RG_8 := hideIt (RG_7.out.outside ho8 (by omega) (by omega))
  clear B_7 RS_7 RY_7 RG_7
  clear ho8 hr8 hg8 he8
  go_wp2_with fail
  refine (eqStringS_same _ _ L w8 RG_8.out.rd RS_8.out.rd (by omega)).mono ?_
  rintro e w9 ⟨rfl, hb9⟩
  have hz9 : w8.heap.size ≤ w9.heap.size := hb9.size
  have B_9 := hideIt (below_trans B_8.out hb9 (by omega))
  have RS_9 := hideIt (RS_8.out.below hb9 (by omega))
  have RG_9 := hideIt (RG_8.out.below hb9 (by omega))
  clear B_8 RS_8 RG_8
  clear hb9
  go_wp2_with fail
  refine (markStringS_any _ L 1 _ _ w9 RG_9.out (by omega) (by omega) (by decide) (by decide)).mono ?_
  rintro e w10 ⟨rfl, hr10, hg10, he10⟩
  have ho10 := Row.grown_outside RG_9.out hg10
  have hz10 : w9.heap.size ≤ w10.heap.size := ho10.size
  have B_10 := hideIt (B_9.out.trans (ho10.below (B := w.heap.size) (by omega) (by omega)))
  have RS_10 := hideIt (RS_9.out.outside ho10 (by omega) (by omega))
  clear B_9 RS_9 RG_9
  have RK_10 := hideIt hr10
  clear ho10 hr10 hg10 he10
  go_wp2_with fail
  refine (heldStringS_any _ L.length 1 w10 (RdT_marksM RK_10.out) (by omega) (by decide) (by decide)).mono ?_
  rintro e w11 ⟨rfl, hb11⟩
  have hz11 : w10.heap.size ≤ w11.heap.size := hb11.size
  have B_11 := hideIt (below_trans B_10.out hb11 (by omega))
  have RS_11 := hideIt (RS_10.out.below hb11 (by omega))
  have RK_11 := hideIt (RK_10.out.below hb11 (by omega))
  clear B_10 RS_10 RK_10
  clear hb11
  go_wp2_with fail
  refine (toMicroS_any _ l w11 (RdM_below DM.out B_11.out) hll).mono ?_
  rintro e w12 ⟨v12, rfl, hr12, hb12⟩
  have hz12 : w11.heap.size ≤ w12.heap.size := hb12.size
  have B_12 := hideIt (below_trans B_11.out hb12 (by omega))
  have RS_12 := hideIt (RS_11.out.below hb12 (by omega))
  have RK_12 := hideIt (RK_11.out.below hb12 (by omega))
  clear B_11 RS_11 RK_11
  obtain ⟨-, aY12, cY12, hvY12, -⟩ := hr12.rd
  subst hvY12
  have RB_12 := hideIt hr12
  clear hb12 hr12
  go_wp2_with fail
  refine (IC.out _ w12 B_12.out RB_12.out.rd).mono ?_
  rintro e w13 ⟨v13, rfl, hr13, hb13⟩
  have hz13 : w12.heap.size ≤ w13.heap.size := hb13.size
  have B_13 := hideIt (below_trans B_12.out hb13 (by omega))
  have RS_13 := hideIt (RS_12.out.below hb13 (by omega))
  have RK_13 := hideIt (RK_12.out.below hb13 (by omega))
  have RB_13 := hideIt (RB_12.out.below hb13 (by omega))
  clear B_12 RS_12 RK_12 RB_12
  obtain ⟨-, aL13, cL13, hvL13, -⟩ := hr13.rd
  subst hvL13
  have RH_13 := hideIt hr13
  clear hb13 hr13
  go_wp2_with fail
  refine (eqStringS_same _ _ L w13 RH_13.out.rd RS_13.out.rd (by omega)).mono ?_
  rintro e w14 ⟨rfl, hb14⟩
  have hz14 : w13.heap.size ≤ w14.heap.size := hb14.size
  have B_14 := hideIt (below_trans B_13.out hb14 (by omega))
  have RS_14 := hideIt (RS_13.out.below hb14 (by omega))
  have RK_14 := hideIt (RK_13.out.below hb14 (by omega))
  have RB_14 := hideIt (RB_13.out.below hb14 (by omega))
  have RH_14 := hideIt (RH_13.out.below hb14 (by omega))
  clear B_13 RS_13 RK_13 RB_13 RH_13
  clear hb14
  go_wp2_with fail
  refine (heldStringS_any _ L.length 1 w14 (RdT_marksM RK_14.out) (by omega) (by decide) (by decide)).mono ?_
  rintro e w15 ⟨rfl, hb15⟩
  have hz15 : w14.heap.size ≤ w15.heap.size := hb15.size
  have B_15 := hideIt (below_trans B_14.out hb15 (by omega))
  have RS_15 := hideIt (RS_14.out.below hb15 (by omega))
  have RK_15 := hideIt (RK_14.out.below hb15 (by omega))
  have RB_15 := hideIt (RB_14.out.below hb15 (by omega))
  have RH_15 := hideIt (RH_14.out.below hb15 (by omega))
  clear B_14 RS_14 RK_14 RB_14 RH_14
  clear hb15
  go_wp2
  go_ret
  exact ⟨rfl, B_15.out⟩
end Go.Proofs.YtjdkgdbacidfiaaDoor
