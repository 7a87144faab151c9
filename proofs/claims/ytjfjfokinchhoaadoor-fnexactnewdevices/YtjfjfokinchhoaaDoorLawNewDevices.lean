/- The law of new devices: the walk. -/
import Derived.Test.YtjfjfokinchhoaaDoorNdB
import Derived.Test.YtjfjfokinchhoaaDoorNdC
namespace Go.Proofs.YtjfjfokinchhoaaDoor
open Go.RowKit

set_option maxRecDepth 100000 in
set_option maxHeartbeats 8000000 in
theorem newDevices_law (w : World) (hT : TS w) (hE : ED w) :
    Calls Tryd.prog 5 #[] w fun e w' => e = .returned (.bool true) ∧ Below w.heap.size w w' := by
  have SC := hideIt specNewDevices_any
  have IC := hideIt (fun w1 (hb : Below w.heap.size w w1) => implNewDevices_any w1 (hT.below hb) (hE.below hb))
  have d1 : ndW.length ≤ 336 := Nat.le_of_eq ndW_len
  have d2 : zs32.length ≤ 32 := Nat.le_of_eq zs32_len
  have d3 : ([] : List St).length ≤ 0 := Nat.le_refl _
  have d4 : ([] : List Se).length ≤ 0 := Nat.le_refl _
  generalize ndW = nW at *
  generalize zs32 = nS at *
  generalize ([] : List St) = nP at *
  generalize ([] : List Se) = nQ at *
  clear hT hE
  have s0 : ¬ (1 + (nW.length : Int) + 3 * (nP.length : Int) + (nS.length : Int) + 2 * (nQ.length : Int)) < 0 := by omega
  go_enter Tryd.func5, Tryd.ntmps5
  go_wp2_with fail
  refine (SC.out _).mono ?_
  rintro e wS ⟨vS, rfl, hrS, hbS⟩
  obtain ⟨aW0, cW0, aP0, cP0, aS0, cS0, aQ0, cQ0, rfl, -, -⟩ := hrS.form
  obtain ⟨W, hW⟩ : ∃ W : World, W = wS.alloc (.cells #[.slice aW0 nW.length cW0, .slice aP0 nP.length cP0, .slice aS0 nS.length cS0, .slice aQ0 nQ.length cQ0] 54) := ⟨_, rfl⟩
  have hbW : Below wS.heap.size wS W := by rw [hW]; exact (Below.refl _ _).alloc (Nat.le_refl _) _
  have RS := hideIt (hrS.below hbW)
  have V1 : Hid (W.heap[wS.heap.size]? = some (.cells #[.slice aW0 nW.length cW0, .slice aP0 nP.length cP0, .slice aS0 nS.length cS0, .slice aQ0 nQ.length cQ0] 54 (0, 0))) := by rw [hW]; exact at_new rfl
  have hWz : wS.heap.size < W.heap.size := (Array.getElem?_eq_some_iff.1 V1.out).1
  have BW := hideIt (below_trans hbS hbW hbS.size)
  have hWw : w.heap.size ≤ W.heap.size := BW.out.size
  have FB : Hid (∀ w', Below W.heap.size W w' → Below w.heap.size w w') := fun w' hb => below_trans BW.out hb hWw
  have C1 : Hid (∀ w', Below W.heap.size W w' → w'.heap[wS.heap.size]? = some (.cells #[.slice aW0 nW.length cW0, .slice aP0 nP.length cP0, .slice aS0 nS.length cS0, .slice aQ0 nQ.length cQ0] 54 (0, 0))) := fun w' hb => (hb.block _ hWz).trans V1.out
  clear hrS hbS hbW V1 SC
  have B_0 : Hid (Below W.heap.size W W) := Below.refl _ _
  go_wp2_with fail
  rw [← hW]
  clear hW
  refine (IC.out W (FB.out _ B_0.out)).mono ?_
  rintro e w1 ⟨v1, rfl, hr1, hb1⟩
  have hz1 : W.heap.size ≤ w1.heap.size := hb1.size
  have B_1 := hideIt (below_trans B_0.out hb1 (by omega))
  clear B_0
  obtain ⟨aW1, cW1, aP1, cP1, aS1, cS1, aQ1, cQ1, hv1, -, -⟩ := hr1.rd.form
  subst hv1
  have RG_1 := hideIt hr1
  clear hb1 hr1
  obtain ⟨w2, hA2⟩ : ∃ w2 : World, w2 = w1.alloc (.cells #[.slice aW1 nW.length cW1, .slice aP1 nP.length cP1, .slice aS1 nS.length cS1, .slice aQ1 nQ.length cQ1] 54) := ⟨_, rfl⟩
  have hb2 : Below w1.heap.size w1 w2 := by rw [hA2]; exact (Below.refl _ _).alloc (Nat.le_refl _) _
  have VG_2 : Hid (w2.heap[w1.heap.size]? = some (.cells #[.slice aW1 nW.length cW1, .slice aP1 nP.length cP1, .slice aS1 nS.length cS1, .slice aQ1 nQ.length cQ1] 54 (0, 0))) := by rw [hA2]; exact at_new rfl
  have hl2 : w1.heap.size < w2.heap.size := (Array.getElem?_eq_some_iff.1 VG_2.out).1
  have hz2 : w1.heap.size ≤ w2.heap.size := hb2.size
  have B_2 := hideIt (below_trans B_1.out hb2 (by omega))
  have RG_2 := hideIt (RG_1.out.below hb2 (by omega))
  clear B_1 hb2 RG_1
  go_upto_region 3 with fail
  rw [← hA2]
  clear hA2
  obtain ⟨x0, x1, x2, x3, -, -, -, -⟩ := four_cells VG_2.out
  obtain ⟨y0, y1, y2, y3, -, -, -, -⟩ := four_cells (C1.out _ B_2.out)
  go_wp2_with fail
  refine (eqDevices_same _ _ nW nP nS nQ w2 RG_2.out.rd (RS.out.below B_2.out) (by omega) (by omega) (by omega) (by omega)).mono ?_
  rintro e w3 ⟨rfl, hb3⟩
  have hz3 : w2.heap.size ≤ w3.heap.size := hb3.size
  have B_3 := hideIt (below_trans B_2.out hb3 (by omega))
  have RG_3 := hideIt (RG_2.out.below hb3 (by omega))
  have VG_3 := hideIt ((hb3.block _ (by omega)).trans VG_2.out)
  clear B_2 RG_2 VG_2
  clear hb3
  clear x0 x1 x2 x3 y0 y1 y2 y3
  obtain ⟨x0, x1, x2, x3, -, -, -, -⟩ := four_cells VG_3.out
  go_wp2_with fail
  refine (markDevices_any _ nW nP nS nQ 1 _ _ w3 RG_3.out (by omega) (by omega) (by omega) (by omega) (by omega) (by decide) (by decide)).mono ?_
  rintro e w4 ⟨rfl, hr4, ho4⟩
  clear x0 x1 x2 x3
  have hz4 : w3.heap.size ≤ w4.heap.size := ho4.size
  have B_4 := hideIt (B_3.out.trans (ho4.below (B := W.heap.size) (by omega) (by omega)))
  have VG_4 := hideIt ((ho4.block _ (by omega) (by omega)).trans VG_3.out)
  clear B_3 RG_3 VG_3
  have RK_4 := hideIt hr4
  clear ho4
  clear hr4
  obtain ⟨x0, x1, x2, x3, -, -, -, -⟩ := four_cells VG_4.out
  go_wp2_with fail
  refine (heldDevices_any _ nW.length nP.length nS.length nQ.length 1 w4 RK_4.out.rd (by omega) (by omega) (by omega) (by omega) (by decide) (by decide)).mono ?_
  rintro e w5 ⟨rfl, hb5⟩
  have hz5 : w4.heap.size ≤ w5.heap.size := hb5.size
  have B_5 := hideIt (below_trans B_4.out hb5 (by omega))
  have RK_5 := hideIt (RK_4.out.below hb5 (by omega))
  have VG_5 := hideIt ((hb5.block _ (by omega)).trans VG_4.out)
  clear B_4 RK_4 VG_4
  clear hb5
  clear x0 x1 x2 x3
  go_wp2_with fail
  refine (IC.out w5 (FB.out _ B_5.out)).mono ?_
  rintro e w6 ⟨v6, rfl, hr6, hb6⟩
  have hz6 : w5.heap.size ≤ w6.heap.size := hb6.size
  have B_6 := hideIt (below_trans B_5.out hb6 (by omega))
  have RK_6 := hideIt (RK_5.out.below hb6 (by omega))
  have VG_6 := hideIt ((hb6.block _ (by omega)).trans VG_5.out)
  clear B_5 RK_5 VG_5
  obtain ⟨aW6, cW6, aP6, cP6, aS6, cS6, aQ6, cQ6, hv6, -, -⟩ := hr6.rd.form
  subst hv6
  have RH_6 := hideIt hr6
  clear hb6 hr6
  obtain ⟨w7, hA7⟩ : ∃ w7 : World, w7 = w6.alloc (.cells #[.slice aW6 nW.length cW6, .slice aP6 nP.length cP6, .slice aS6 nS.length cS6, .slice aQ6 nQ.length cQ6] 54) := ⟨_, rfl⟩
  have hb7 : Below w6.heap.size w6 w7 := by rw [hA7]; exact (Below.refl _ _).alloc (Nat.le_refl _) _
  have VH_7 : Hid (w7.heap[w6.heap.size]? = some (.cells #[.slice aW6 nW.length cW6, .slice aP6 nP.length cP6, .slice aS6 nS.length cS6, .slice aQ6 nQ.length cQ6] 54 (0, 0))) := by rw [hA7]; exact at_new rfl
  have hl7 : w6.heap.size < w7.heap.size := (Array.getElem?_eq_some_iff.1 VH_7.out).1
  have hz7 : w6.heap.size ≤ w7.heap.size := hb7.size
  have B_7 := hideIt (below_trans B_6.out hb7 (by omega))
  have RK_7 := hideIt (RK_6.out.below hb7 (by omega))
  have RH_7 := hideIt (RH_6.out.below hb7 (by omega))
  have VG_7 := hideIt ((hb7.block _ (by omega)).trans VG_6.out)
  clear B_6 hb7 RK_6 RH_6 VG_6
  go_upto_region 14 with fail
  rw [← hA7]
  clear hA7
  obtain ⟨x0, x1, x2, x3, -, -, -, -⟩ := four_cells VH_7.out
  obtain ⟨y0, y1, y2, y3, -, -, -, -⟩ := four_cells (C1.out _ B_7.out)
  go_wp2_with fail
  refine (eqDevices_same _ _ nW nP nS nQ w7 RH_7.out.rd (RS.out.below B_7.out) (by omega) (by omega) (by omega) (by omega)).mono ?_
  rintro e w8 ⟨rfl, hb8⟩
  have hz8 : w7.heap.size ≤ w8.heap.size := hb8.size
  have B_8 := hideIt (below_trans B_7.out hb8 (by omega))
  have RK_8 := hideIt (RK_7.out.below hb8 (by omega))
  have RH_8 := hideIt (RH_7.out.below hb8 (by omega))
  have VG_8 := hideIt ((hb8.block _ (by omega)).trans VG_7.out)
  have VH_8 := hideIt ((hb8.block _ (by omega)).trans VH_7.out)
  clear B_7 RK_7 RH_7 VG_7 VH_7
  clear hb8
  clear x0 x1 x2 x3 y0 y1 y2 y3
  obtain ⟨x0, x1, x2, x3, -, -, -, -⟩ := four_cells VG_8.out
  go_wp2_with fail
  refine (heldDevices_any _ nW.length nP.length nS.length nQ.length 1 w8 RK_8.out.rd (by omega) (by omega) (by omega) (by omega) (by decide) (by decide)).mono ?_
  rintro e w9 ⟨rfl, hb9⟩
  have hz9 : w8.heap.size ≤ w9.heap.size := hb9.size
  have B_9 := hideIt (below_trans B_8.out hb9 (by omega))
  have RK_9 := hideIt (RK_8.out.below hb9 (by omega))
  have RH_9 := hideIt (RH_8.out.below hb9 (by omega))
  have VG_9 := hideIt ((hb9.block _ (by omega)).trans VG_8.out)
  have VH_9 := hideIt ((hb9.block _ (by omega)).trans VH_8.out)
  clear B_8 RK_8 RH_8 VG_8 VH_8
  clear hb9
  clear x0 x1 x2 x3
  go_wp2
  go_ret
  exact ⟨rfl, below_trans BW.out B_9.out (by omega)⟩
end Go.Proofs.YtjfjfokinchhoaaDoor
