/- The law of Decay: the walk. -/
import Derived.Test.YtfcjhhiekjbbiaaTrF
import Derived.Test.YtfcjhhiekjbbiaaIntS
namespace Go.Proofs.Ytfcjhhiekjbbiaa
open Go.RowKit

theorem deR_len (zs : List Int) : (deR zs).1.length ≤ 2147483648 := by
  unfold deR decH
  split
  · simp
  · split
    · rename_i h; have := (heat_parts h).1; simp only [List.length_map, List.length_take]; omega
    · simp

set_option maxRecDepth 100000 in
set_option maxHeartbeats 8000000 in
theorem decay_law (v : Value) (zs : List Int) (w : World) (h : RdI w v zs) :
    Calls Try.prog 7 #[v] w fun e w' => e = .returned (.bool true) ∧ Below w.heap.size w w' := by
  have HZ := hideIt h
  obtain ⟨aZ, cZ, rfl, _⟩ := h.shape
  clear h
  by_cases c0 : 1048576 < zs.length
  · go_enter Try.func7, Try.ntmps7
    go_wp2
    go_ret
    exact ⟨rfl, Below.refl _ _⟩
  have hzs : zs.length ≤ 1048576 := by omega
  have SC : Hid (∀ (v : Value) (w : World), RdI w v zs → _) := fun v w h => specDecay_any v zs w h hzs
  have IC : Hid (∀ (v : Value) (w : World), RdI w v zs → _) := fun v w h => implDecay_any v zs w h hzs
  have d1 : (deR zs).1.length ≤ 2147483648 := deR_len zs
  generalize deR zs = r at *
  obtain ⟨L, cd⟩ := r
  unfold InOut at SC IC
  simp only at SC IC d1
  have B_0 : Hid (Below w.heap.size w w) := Below.refl _ _
  go_enter Try.func7, Try.ntmps7
  go_wp2_with fail
  refine (toIntS_any _ zs _ (Rd.below HZ.out B_0.out) hzs).mono ?_
  rintro e w1 ⟨v1, rfl, hr1, hb1⟩
  obtain ⟨aZ1, cZ1, rfl⟩ := RdI.form hr1.rd rfl
  have hz1 : w.heap.size ≤ w1.heap.size := hb1.size
  have B_1 := hideIt (below_trans B_0.out hb1 (by omega))
  clear B_0
  have R1_1 : Hid (Row w1 3 1 w.heap.size w1.heap.size _ (zs).length (ints (zs))) := hr1
  clear hr1 hb1
  go_wp2_with fail
  refine (SC.out _ _ R1_1.out.rd).mono ?_
  rintro e w2 ⟨v2, rfl, hr2, hb2⟩
  obtain ⟨aL2, cL2, rfl⟩ := RdI.form hr2.rd rfl
  have hz2 : w1.heap.size ≤ w2.heap.size := hb2.size
  have B_2 := hideIt (below_trans B_1.out hb2 (by omega))
  have R1_2 := hideIt (R1_1.out.below hb2 (by omega))
  clear B_1 R1_1
  have R2_2 : Hid (Row w2 3 1 w1.heap.size w2.heap.size _ (L).length (ints (L))) := hr2
  clear hr2 hb2
  clear R1_2
  go_wp2_with fail
  refine (toIntS_any _ zs _ (Rd.below HZ.out B_2.out) hzs).mono ?_
  rintro e w3 ⟨v3, rfl, hr3, hb3⟩
  obtain ⟨aZ3, cZ3, rfl⟩ := RdI.form hr3.rd rfl
  have hz3 : w2.heap.size ≤ w3.heap.size := hb3.size
  have B_3 := hideIt (below_trans B_2.out hb3 (by omega))
  have R2_3 := hideIt (R2_2.out.below hb3 (by omega))
  clear B_2 R2_2
  have R3_3 : Hid (Row w3 3 1 w2.heap.size w3.heap.size _ (zs).length (ints (zs))) := hr3
  clear hr3 hb3
  go_wp2_with fail
  refine (IC.out _ _ R3_3.out.rd).mono ?_
  rintro e w4 ⟨v4, rfl, hr4, hb4⟩
  obtain ⟨aL4, cL4, rfl⟩ := RdI.form hr4.rd rfl
  have hz4 : w3.heap.size ≤ w4.heap.size := hb4.size
  have B_4 := hideIt (below_trans B_3.out hb4 (by omega))
  have R2_4 := hideIt (R2_3.out.below hb4 (by omega))
  have R3_4 := hideIt (R3_3.out.below hb4 (by omega))
  clear B_3 R2_3 R3_3
  have R4_4 : Hid (Row w4 3 1 w3.heap.size w4.heap.size _ (L).length (ints (L))) := hr4
  clear hr4 hb4
  go_wp2_with fail
  refine (eqIntS_same _ _ L _ R4_4.out.rd R2_4.out.rd (by omega)).mono ?_
  rintro e w5 ⟨rfl, hb5⟩
  have hz5 : w4.heap.size ≤ w5.heap.size := hb5.size
  have B_5 := hideIt (below_trans B_4.out hb5 (by omega))
  have R2_5 := hideIt (R2_4.out.below hb5 (by omega))
  have R3_5 := hideIt (R3_4.out.below hb5 (by omega))
  have R4_5 := hideIt (R4_4.out.below hb5 (by omega))
  clear B_4 R2_4 R3_4 R4_4
  clear hb5
  go_wp2_with fail
  refine (toIntS_any _ zs _ (Rd.below HZ.out B_5.out) hzs).mono ?_
  rintro e w6 ⟨v6, rfl, hr6, hb6⟩
  obtain ⟨aZ6, cZ6, rfl⟩ := RdI.form hr6.rd rfl
  have hz6 : w5.heap.size ≤ w6.heap.size := hb6.size
  have B_6 := hideIt (below_trans B_5.out hb6 (by omega))
  have R2_6 := hideIt (R2_5.out.below hb6 (by omega))
  have R3_6 := hideIt (R3_5.out.below hb6 (by omega))
  have R4_6 := hideIt (R4_5.out.below hb6 (by omega))
  clear B_5 R2_5 R3_5 R4_5
  have R6_6 : Hid (Row w6 3 1 w5.heap.size w6.heap.size _ (zs).length (ints (zs))) := hr6
  clear hr6 hb6
  go_wp2_with fail
  refine (eqIntS_same _ _ zs _ R3_6.out.rd R6_6.out.rd (by omega)).mono ?_
  rintro e w7 ⟨rfl, hb7⟩
  have hz7 : w6.heap.size ≤ w7.heap.size := hb7.size
  have B_7 := hideIt (below_trans B_6.out hb7 (by omega))
  have R2_7 := hideIt (R2_6.out.below hb7 (by omega))
  have R3_7 := hideIt (R3_6.out.below hb7 (by omega))
  have R4_7 := hideIt (R4_6.out.below hb7 (by omega))
  have R6_7 := hideIt (R6_6.out.below hb7 (by omega))
  clear B_6 R2_6 R3_6 R4_6 R6_6
  clear hb7
  clear R6_7
  go_wp2_with fail
  refine (markIntS_any _ _ _ 1 _ _ _ R3_7.out (fun u hu => by simp only [ints, List.mem_map] at hu; obtain ⟨z, _, rfl⟩ := hu; exact ⟨z, rfl⟩) (by omega) (by decide) (by decide)).mono ?_
  rintro e w8 ⟨rfl, hr8, hg8, he8⟩
  have ho8 := Row.grown_outside R3_7.out hg8
  have hz8 : w7.heap.size ≤ w8.heap.size := ho8.size
  have B_8 := hideIt (B_7.out.trans (ho8.below (B := w.heap.size) (by omega) (by omega)))
  have R2_8 := hideIt (R2_7.out.outside ho8 (by omega) (by omega))
  have R4_8 := hideIt (R4_7.out.outside ho8 (by omega) (by omega))
  clear B_7 R2_7 R3_7 R4_7
  clear hr8 hg8 he8 ho8
  go_wp2_with fail
  refine (eqIntS_same _ _ L _ R4_8.out.rd R2_8.out.rd (by omega)).mono ?_
  rintro e w9 ⟨rfl, hb9⟩
  have hz9 : w8.heap.size ≤ w9.heap.size := hb9.size
  have B_9 := hideIt (below_trans B_8.out hb9 (by omega))
  have R2_9 := hideIt (R2_8.out.below hb9 (by omega))
  have R4_9 := hideIt (R4_8.out.below hb9 (by omega))
  clear B_8 R2_8 R4_8
  clear hb9
  go_wp2_with fail
  refine (markIntS_any _ _ _ 1 _ _ _ R4_9.out (fun u hu => by simp only [ints, List.mem_map] at hu; obtain ⟨z, _, rfl⟩ := hu; exact ⟨z, rfl⟩) (by omega) (by decide) (by decide)).mono ?_
  rintro e w10 ⟨rfl, hr10, hg10, he10⟩
  have ho10 := Row.grown_outside R4_9.out hg10
  have hz10 : w9.heap.size ≤ w10.heap.size := ho10.size
  have B_10 := hideIt (B_9.out.trans (ho10.below (B := w.heap.size) (by omega) (by omega)))
  have R2_10 := hideIt (R2_9.out.outside ho10 (by omega) (by omega))
  clear B_9 R2_9 R4_9
  have Rk_10 := hideIt hr10
  clear hr10 hg10 he10 ho10
  go_wp2_with fail
  refine (heldIntS_any _ L.length 1 _ (RdI_marks Rk_10.out) (by omega) (by decide) (by decide)).mono ?_
  rintro e w' ⟨rfl, hw'⟩
  subst w'
  go_wp2_with fail
  refine (toIntS_any _ zs _ (Rd.below HZ.out B_10.out) hzs).mono ?_
  rintro e w11 ⟨v11, rfl, hr11, hb11⟩
  obtain ⟨aZ11, cZ11, rfl⟩ := RdI.form hr11.rd rfl
  have hz11 : w10.heap.size ≤ w11.heap.size := hb11.size
  have B_11 := hideIt (below_trans B_10.out hb11 (by omega))
  have R2_11 := hideIt (R2_10.out.below hb11 (by omega))
  have Rk_11 := hideIt (Rk_10.out.below hb11 (by omega))
  clear B_10 R2_10 Rk_10
  have R11_11 : Hid (Row w11 3 1 w10.heap.size w11.heap.size _ (zs).length (ints (zs))) := hr11
  clear hr11 hb11
  go_wp2_with fail
  refine (IC.out _ _ R11_11.out.rd).mono ?_
  rintro e w12 ⟨v12, rfl, hr12, hb12⟩
  obtain ⟨aL12, cL12, rfl⟩ := RdI.form hr12.rd rfl
  have hz12 : w11.heap.size ≤ w12.heap.size := hb12.size
  have B_12 := hideIt (below_trans B_11.out hb12 (by omega))
  have R2_12 := hideIt (R2_11.out.below hb12 (by omega))
  have Rk_12 := hideIt (Rk_11.out.below hb12 (by omega))
  have R11_12 := hideIt (R11_11.out.below hb12 (by omega))
  clear B_11 R2_11 Rk_11 R11_11
  have R12_12 : Hid (Row w12 3 1 w11.heap.size w12.heap.size _ (L).length (ints (L))) := hr12
  clear hr12 hb12
  go_wp2_with fail
  refine (eqIntS_same _ _ L _ R12_12.out.rd R2_12.out.rd (by omega)).mono ?_
  rintro e w13 ⟨rfl, hb13⟩
  have hz13 : w12.heap.size ≤ w13.heap.size := hb13.size
  have B_13 := hideIt (below_trans B_12.out hb13 (by omega))
  have R2_13 := hideIt (R2_12.out.below hb13 (by omega))
  have Rk_13 := hideIt (Rk_12.out.below hb13 (by omega))
  have R11_13 := hideIt (R11_12.out.below hb13 (by omega))
  have R12_13 := hideIt (R12_12.out.below hb13 (by omega))
  clear B_12 R2_12 Rk_12 R11_12 R12_12
  clear hb13
  go_wp2_with fail
  refine (heldIntS_any _ L.length 1 _ (RdI_marks Rk_13.out) (by omega) (by decide) (by decide)).mono ?_
  rintro e w' ⟨rfl, hw'⟩
  subst w'
  go_wp2
  go_ret
  exact ⟨rfl, B_13.out⟩
end Go.Proofs.Ytfcjhhiekjbbiaa
