/- The law of NewHeat: the walk. -/
import Derived.Test.YtfcjhhiekjbbiaaTrF
import Derived.Test.YtfcjhhiekjbbiaaIntS
namespace Go.Proofs.Ytfcjhhiekjbbiaa
open Go.RowKit

set_option maxRecDepth 100000 in
set_option maxHeartbeats 8000000 in
theorem newHeat_law (w : World) :
    Calls Try.prog 4 #[] w fun e w' => e = .returned (.bool true) ∧ Below w.heap.size w w' := by
  have SC := hideIt (fun w => specNewHeat_any w)
  have IC := hideIt (fun w => implNewHeat_any w)
  have d1 : (newH 128).length ≤ 2147483648 := by rw [newH_len]; omega
  generalize newH 128 = L at *
  have B_0 : Hid (Below w.heap.size w w) := Below.refl _ _
  go_enter Try.func4, Try.ntmps4
  go_wp2_with fail
  refine (SC.out _).mono ?_
  rintro e w2 ⟨v2, rfl, hr2, hb2⟩
  obtain ⟨aL2, cL2, rfl⟩ := RdI.form hr2.rd rfl
  have hz2 : w.heap.size ≤ w2.heap.size := hb2.size
  have B_2 := hideIt (below_trans B_0.out hb2 (by omega))
  clear B_0
  have R2_2 : Hid (Row w2 3 1 w.heap.size w2.heap.size _ (L).length (ints (L))) := hr2
  clear hr2 hb2
  go_wp2_with fail
  refine (IC.out _).mono ?_
  rintro e w4 ⟨v4, rfl, hr4, hb4⟩
  obtain ⟨aL4, cL4, rfl⟩ := RdI.form hr4.rd rfl
  have hz4 : w2.heap.size ≤ w4.heap.size := hb4.size
  have B_4 := hideIt (below_trans B_2.out hb4 (by omega))
  have R2_4 := hideIt (R2_2.out.below hb4 (by omega))
  clear B_2 R2_2
  have R4_4 : Hid (Row w4 3 1 w2.heap.size w4.heap.size _ (L).length (ints (L))) := hr4
  clear hr4 hb4
  go_wp2_with fail
  refine (eqIntS_same _ _ L _ R4_4.out.rd R2_4.out.rd (by omega)).mono ?_
  rintro e w5 ⟨rfl, hb5⟩
  have hz5 : w4.heap.size ≤ w5.heap.size := hb5.size
  have B_5 := hideIt (below_trans B_4.out hb5 (by omega))
  have R2_5 := hideIt (R2_4.out.below hb5 (by omega))
  have R4_5 := hideIt (R4_4.out.below hb5 (by omega))
  clear B_4 R2_4 R4_4
  clear hb5
  go_wp2_with fail
  refine (markIntS_any _ _ _ 1 _ _ _ R4_5.out (fun u hu => by simp only [ints, List.mem_map] at hu; obtain ⟨z, _, rfl⟩ := hu; exact ⟨z, rfl⟩) (by omega) (by decide) (by decide)).mono ?_
  rintro e w10 ⟨rfl, hr10, hg10, he10⟩
  have ho10 := Row.grown_outside R4_5.out hg10
  have hz10 : w5.heap.size ≤ w10.heap.size := ho10.size
  have B_10 := hideIt (B_5.out.trans (ho10.below (B := w.heap.size) (by omega) (by omega)))
  have R2_10 := hideIt (R2_5.out.outside ho10 (by omega) (by omega))
  clear B_5 R2_5 R4_5
  have Rk_10 := hideIt hr10
  clear hr10 hg10 he10 ho10
  go_wp2_with fail
  refine (heldIntS_any _ L.length 1 _ (RdI_marks Rk_10.out) (by omega) (by decide) (by decide)).mono ?_
  rintro e w' ⟨rfl, hw'⟩
  subst w'
  go_wp2_with fail
  refine (IC.out _).mono ?_
  rintro e w12 ⟨v12, rfl, hr12, hb12⟩
  obtain ⟨aL12, cL12, rfl⟩ := RdI.form hr12.rd rfl
  have hz12 : w10.heap.size ≤ w12.heap.size := hb12.size
  have B_12 := hideIt (below_trans B_10.out hb12 (by omega))
  have R2_12 := hideIt (R2_10.out.below hb12 (by omega))
  have Rk_12 := hideIt (Rk_10.out.below hb12 (by omega))
  clear B_10 R2_10 Rk_10
  have R12_12 : Hid (Row w12 3 1 w10.heap.size w12.heap.size _ (L).length (ints (L))) := hr12
  clear hr12 hb12
  go_wp2_with fail
  refine (eqIntS_same _ _ L _ R12_12.out.rd R2_12.out.rd (by omega)).mono ?_
  rintro e w13 ⟨rfl, hb13⟩
  have hz13 : w12.heap.size ≤ w13.heap.size := hb13.size
  have B_13 := hideIt (below_trans B_12.out hb13 (by omega))
  have R2_13 := hideIt (R2_12.out.below hb13 (by omega))
  have Rk_13 := hideIt (Rk_12.out.below hb13 (by omega))
  have R12_13 := hideIt (R12_12.out.below hb13 (by omega))
  clear B_12 R2_12 Rk_12 R12_12
  clear hb13
  go_wp2_with fail
  refine (heldIntS_any _ L.length 1 _ (RdI_marks Rk_13.out) (by omega) (by decide) (by decide)).mono ?_
  rintro e w' ⟨rfl, hw'⟩
  subst w'
  go_wp2
  go_ret
  exact ⟨rfl, B_13.out⟩
end Go.Proofs.Ytfcjhhiekjbbiaa
