/- The law of HeatOK: the walk. -/
import Derived.Test.YtfcjhhiekjbbiaaTrD
import Derived.Test.YtfcjhhiekjbbiaaIntS
import Derived.Deep.OwnRows
import Derived.Deep.RegionHeld3
import Derived.Deep.DeepCutAuto
namespace Go.Proofs.Ytfcjhhiekjbbiaa
open Go.RowKit

set_option maxRecDepth 100000 in
set_option maxHeartbeats 8000000 in
theorem heatOK_law (v : Value) (zs : List Int) (w : World) (h : RdI w v zs) :
    Calls Try.prog 5 #[v] w fun e w' => e = .returned (.bool true) ∧ Below w.heap.size w w' := by
  have HZ := hideIt h
  obtain ⟨aZ, cZ, rfl, _⟩ := h.shape
  clear h
  by_cases c0 : 1048576 < zs.length
  · go_enter Try.func5, Try.ntmps5
    go_wp2
    go_ret
    exact ⟨rfl, Below.refl _ _⟩
  have hzs : zs.length ≤ 1048576 := by omega
  have B_0 : Hid (Below w.heap.size w w) := Below.refl _ _
  have SC : Hid (∀ (v : Value) (w : World), RdI w v zs → _) := fun v w h => specHeatOK_any v zs w h hzs
  have IC : Hid (∀ (v : Value) (w : World), RdI w v zs → _) := fun v w h => implHeatOK_any v zs w h hzs
  generalize heatB zs = hb at *
  go_enter Try.func5, Try.ntmps5
  go_wp2_with fail
  refine (toIntS_any _ zs _ (Rd.below HZ.out B_0.out) hzs).mono ?_
  rintro e w1 ⟨v1, rfl, hr1, hb1⟩
  obtain ⟨aZ1, cZ1, rfl⟩ := RdI.form hr1.rd rfl
  have hz1 : w.heap.size ≤ w1.heap.size := hb1.size
  have B_1 := hideIt (below_trans B_0.out hb1 (by omega))
  clear B_0
  have R1_1 : Hid (Row w1 3 1 w.heap.size w1.heap.size _ (zs).length (ints (zs))) := hr1
  clear hr1 hb1
  go_wp2_with fail
  refine (SC.out _ _ R1_1.out.rd).mono ?_
  rintro e w' ⟨rfl, hw'⟩
  subst w'
  clear R1_1
  go_wp2_with fail
  refine (toIntS_any _ zs _ (Rd.below HZ.out B_1.out) hzs).mono ?_
  rintro e w3 ⟨v3, rfl, hr3, hb3⟩
  obtain ⟨aZ3, cZ3, rfl⟩ := RdI.form hr3.rd rfl
  have hz3 : w1.heap.size ≤ w3.heap.size := hb3.size
  have B_3 := hideIt (below_trans B_1.out hb3 (by omega))
  clear B_1
  have R3_3 : Hid (Row w3 3 1 w1.heap.size w3.heap.size _ (zs).length (ints (zs))) := hr3
  clear hr3 hb3
  go_wp2_with fail
  refine (IC.out _ _ R3_3.out.rd).mono ?_
  rintro e w' ⟨rfl, hw'⟩
  subst w'
  go_wp2_with fail
  refine (toIntS_any _ zs _ (Rd.below HZ.out B_3.out) hzs).mono ?_
  rintro e w6 ⟨v6, rfl, hr6, hb6⟩
  obtain ⟨aZ6, cZ6, rfl⟩ := RdI.form hr6.rd rfl
  have hz6 : w3.heap.size ≤ w6.heap.size := hb6.size
  have B_6 := hideIt (below_trans B_3.out hb6 (by omega))
  have R3_6 := hideIt (R3_3.out.below hb6 (by omega))
  clear B_3 R3_3
  have R6_6 : Hid (Row w6 3 1 w3.heap.size w6.heap.size _ (zs).length (ints (zs))) := hr6
  clear hr6 hb6
  go_wp2_with fail
  refine (eqIntS_same _ _ zs _ R3_6.out.rd R6_6.out.rd (by omega)).mono ?_
  rintro e w7 ⟨rfl, hb7⟩
  have hz7 : w6.heap.size ≤ w7.heap.size := hb7.size
  have B_7 := hideIt (below_trans B_6.out hb7 (by omega))
  have R3_7 := hideIt (R3_6.out.below hb7 (by omega))
  have R6_7 := hideIt (R6_6.out.below hb7 (by omega))
  clear B_6 R3_6 R6_6
  clear hb7
  go_wp2
  go_ret
  exact ⟨rfl, B_7.out⟩
end Go.Proofs.Ytfcjhhiekjbbiaa
