/- The law of SplitPath: the walk. -/
import Derived.Test.YtpljkdbeekplbaaDoorPbE
namespace Go.Proofs.YtpljkdbeekplbaaDoor
open Go.RowKit

theorem rdt_marks {w : World} {lo hi : Nat} {v : Value} {k : Int} {n : Nat} (h : Row w 9 1 lo hi v n (strs (marksT k n))) : RdT w v (marksT k n) := by
  have := h.rd
  unfold RdT
  rw [marksT_len]
  exact this

set_option maxRecDepth 100000 in
set_option maxHeartbeats 4000000 in
theorem splitPath_law (s : ByteArray) (w : World) :
    Calls Tryd.prog 5 #[.string s] w fun e w' => e = .returned (.bool true) ∧ Below w.heap.size w w' := by
  have IC := hideIt (fun w1 => implSplitPath_any s w1)
  have SC := hideIt (fun w1 => specSplitPath_any s w1)
  have d1 := spR_len s
  generalize spR s = L at *
  generalize spC s = cd at *
  by_cases c : (s.size : Int) > 1048576
  · go_enter Tryd.func5, Tryd.ntmps5
    go_wp2
    go_ret
    exact ⟨rfl, Below.refl _ _⟩
  have B_0 : Hid (Below w.heap.size w w) := Below.refl _ _
  go_enter Tryd.func5, Tryd.ntmps5
  go_wp2_with fail
  refine (SC.out w).mono ?_
  rintro e w1 ⟨v1, rfl, hr1, hb1⟩
  have hz1 : w.heap.size ≤ w1.heap.size := hb1.size
  have B_1 := hideIt (below_trans B_0.out hb1 (by omega))
  clear B_0
  obtain ⟨-, aL1, cL1, hvL1, -⟩ := hr1.rd
  subst hvL1
  have RS_1 := hideIt hr1
  clear hb1 hr1
  go_wp2_with fail
  refine (IC.out w1).mono ?_
  rintro e w2 ⟨v2, rfl, hr2, hb2⟩
  have hz2 : w1.heap.size ≤ w2.heap.size := hb2.size
  have B_2 := hideIt (below_trans B_1.out hb2 (by omega))
  have RS_2 := hideIt (RS_1.out.below hb2 (by omega))
  clear B_1 RS_1
  obtain ⟨-, aL2, cL2, hvL2, -⟩ := hr2.rd
  subst hvL2
  have RG_2 := hideIt hr2
  clear hb2 hr2
  go_wp2_with fail
  refine (eqStringS_same _ _ L w2 RG_2.out.rd RS_2.out.rd (by omega)).mono ?_
  rintro e w3 ⟨rfl, hb3⟩
  have hz3 : w2.heap.size ≤ w3.heap.size := hb3.size
  have B_3 := hideIt (below_trans B_2.out hb3 (by omega))
  have RS_3 := hideIt (RS_2.out.below hb3 (by omega))
  have RG_3 := hideIt (RG_2.out.below hb3 (by omega))
  clear B_2 RS_2 RG_2
  clear hb3
  go_wp2_with fail
  refine (markStringS_any _ L 1 _ _ w3 RG_3.out (by omega) (by omega) (by decide) (by decide)).mono ?_
  rintro e w4 ⟨rfl, hr4, hg4, he4⟩
  have ho4 := Row.grown_outside RG_3.out hg4
  have hz4 : w3.heap.size ≤ w4.heap.size := ho4.size
  have B_4 := hideIt (B_3.out.trans (ho4.below (B := w.heap.size) (by omega) (by omega)))
  have RS_4 := hideIt (RS_3.out.outside ho4 (by omega) (by omega))
  clear B_3 RS_3 RG_3
  have RK_4 := hideIt hr4
  clear ho4 hr4 hg4 he4
  go_wp2_with fail
  refine (heldStringS_any _ L.length 1 w4 (rdt_marks RK_4.out) (by omega) (by decide) (by decide)).mono ?_
  rintro e w5 ⟨rfl, hb5⟩
  have hz5 : w4.heap.size ≤ w5.heap.size := hb5.size
  have B_5 := hideIt (below_trans B_4.out hb5 (by omega))
  have RS_5 := hideIt (RS_4.out.below hb5 (by omega))
  have RK_5 := hideIt (RK_4.out.below hb5 (by omega))
  clear B_4 RS_4 RK_4
  clear hb5
  go_wp2_with fail
  refine (IC.out w5).mono ?_
  rintro e w6 ⟨v6, rfl, hr6, hb6⟩
  have hz6 : w5.heap.size ≤ w6.heap.size := hb6.size
  have B_6 := hideIt (below_trans B_5.out hb6 (by omega))
  have RS_6 := hideIt (RS_5.out.below hb6 (by omega))
  have RK_6 := hideIt (RK_5.out.below hb6 (by omega))
  clear B_5 RS_5 RK_5
  obtain ⟨-, aL6, cL6, hvL6, -⟩ := hr6.rd
  subst hvL6
  have RH_6 := hideIt hr6
  clear hb6 hr6
  go_wp2_with fail
  refine (eqStringS_same _ _ L w6 RH_6.out.rd RS_6.out.rd (by omega)).mono ?_
  rintro e w7 ⟨rfl, hb7⟩
  have hz7 : w6.heap.size ≤ w7.heap.size := hb7.size
  have B_7 := hideIt (below_trans B_6.out hb7 (by omega))
  have RS_7 := hideIt (RS_6.out.below hb7 (by omega))
  have RK_7 := hideIt (RK_6.out.below hb7 (by omega))
  have RH_7 := hideIt (RH_6.out.below hb7 (by omega))
  clear B_6 RS_6 RK_6 RH_6
  clear hb7
  go_wp2_with fail
  refine (heldStringS_any _ L.length 1 w7 (rdt_marks RK_7.out) (by omega) (by decide) (by decide)).mono ?_
  rintro e w8 ⟨rfl, hb8⟩
  have hz8 : w7.heap.size ≤ w8.heap.size := hb8.size
  have B_8 := hideIt (below_trans B_7.out hb8 (by omega))
  have RS_8 := hideIt (RS_7.out.below hb8 (by omega))
  have RK_8 := hideIt (RK_7.out.below hb8 (by omega))
  have RH_8 := hideIt (RH_7.out.below hb8 (by omega))
  clear B_7 RS_7 RK_7 RH_7
  clear hb8
  go_wp2
  go_ret
  exact ⟨rfl, B_8.out⟩
end Go.Proofs.YtpljkdbeekplbaaDoor
