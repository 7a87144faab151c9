/- The law of the updates of an entry: the walk. -/
import Derived.Test.YtjfjfokinchhoaaDoorPiF
import Derived.Test.YtjfjfokinchhoaaDoorImF
import Derived.Test.YtjfjfokinchhoaaDoorMarks5
namespace Go.Proofs.YtjfjfokinchhoaaDoor
open Go.RowKit

set_option maxRecDepth 100000 in
set_option maxHeartbeats 8000000 in
theorem direntUpdates_law (k : Int) (x : Den) (w : World) (hF : FD w) (hs : x.name.size ≤ maxLen) :
    Calls Tryd.prog 12 #[.int .i64 k, x.v] w fun e w' => e = .returned (.bool true) ∧ Below w.heap.size w w' := by
  have CA : Hid (∀ w', Below (w.alloc (.cells x.cells.toArray 83)).heap.size (w.alloc (.cells x.cells.toArray 83)) w' → ∀ j, w'.cell? ⟨w.heap.size, j, none⟩ = x.cells[j]?) := fun w' hb j => by
    have : w'.heap[w.heap.size]? = some (.cells x.cells.toArray 83 (0, 0)) := (hb.block _ (by simp)).trans (at_new rfl)
    exact (eight_at (xs := x.cells) this j).1
  have BW : Hid (Below w.heap.size w (w.alloc (.cells x.cells.toArray 83))) := (Below.refl _ _).alloc (Nat.le_refl _) _
  have hWz : w.heap.size < (w.alloc (.cells x.cells.toArray 83)).heap.size := by simp
  have hF' : FD (w.alloc (.cells x.cells.toArray 83)) := hF.below BW.out
  have IC := hideIt (fun w1 (hb : Below (w.alloc (.cells x.cells.toArray 83)).heap.size (w.alloc (.cells x.cells.toArray 83)) w1) => implDirentUpdates_any k x w1 (hF'.below hb) hs)
  have SC := hideIt (fun w1 => specDirentUpdates_any k x w1 hs)
  have LZ := hideIt (fun w1 => szDirent_any x 1048576 w1 hs (by omega) (by omega))
  have d1 : (duL k x).length ≤ 3 := duL_len k x
  have A3 : Hid (∀ w' : World, (∀ j, w'.cell? ⟨w.heap.size, j, none⟩ = x.cells[j]?) → w'.cell? ⟨w.heap.size, 0, none⟩ = some (.int .i64 x.dir) ∧ w'.cell? ⟨w.heap.size, 1, none⟩ = some (.string x.name) ∧ w'.cell? ⟨w.heap.size, 2, none⟩ = some (.int .i64 x.child)) := fun w' h => ⟨h 0, h 1, h 2⟩
  rw [show x.v = .agg x.cells.toArray from rfl]
  generalize duL k x = L at *
  generalize duC k x = cd at *
  clear hF hs hF'
  by_cases c0 : 1048576 < x.name.size
  · have E := hideIt (show (if (1048576 : Int) < (x.name.size : Int) then (-1 : Int) else 1048576 - (x.name.size : Int)) = -1 from if_pos (by omega))
    clear c0
    obtain ⟨p0, p1, p2⟩ := A3.out _ (CA.out _ (Below.refl _ _))
    go_enter Tryd.func12, Tryd.ntmps12
    go_wp2_with fail
    refine (LZ.out _).mono ?_
    rw [E.out]
    rintro e w1 ⟨rfl, hb1⟩
    have B1 := hideIt (below_trans BW.out hb1 (by omega))
    clear hb1 p0 p1 p2
    go_wp2
    go_ret
    exact ⟨rfl, B1.out⟩
  have E := hideIt (show (if (1048576 : Int) < (x.name.size : Int) then (-1 : Int) else 1048576 - (x.name.size : Int)) = 1048576 - (x.name.size : Int) from if_neg (by omega))
  have c1 : x.name.size ≤ 1048576 := by omega
  clear c0
  have B_0 : Hid (Below (w.alloc (.cells x.cells.toArray 83)).heap.size (w.alloc (.cells x.cells.toArray 83)) (w.alloc (.cells x.cells.toArray 83))) := Below.refl _ _
  go_enter Tryd.func12, Tryd.ntmps12
  obtain ⟨p0, p1, p2⟩ := A3.out _ (CA.out (w.alloc (.cells x.cells.toArray 83)) B_0.out)
  go_wp2_with fail
  refine (LZ.out (w.alloc (.cells x.cells.toArray 83))).mono ?_
  rw [E.out]
  rintro e w1 ⟨rfl, hb1⟩
  have hz1 : (w.alloc (.cells x.cells.toArray 83)).heap.size ≤ w1.heap.size := hb1.size
  have B_1 := hideIt (below_trans B_0.out hb1 (by omega))
  clear B_0
  clear hb1
  clear p0 p1 p2
  obtain ⟨p0, p1, p2⟩ := A3.out _ (CA.out w1 B_1.out)
  go_wp2_with fail
  refine (toDirent_any x w1).mono ?_
  rintro e w2 ⟨rfl, hb2⟩
  have hz2 : w1.heap.size ≤ w2.heap.size := hb2.size
  have B_2 := hideIt (below_trans B_1.out hb2 (by omega))
  clear B_1
  clear hb2
  clear p0 p1 p2
  go_wp2_with fail
  refine (SC.out w2).mono ?_
  rintro e w3 ⟨v3, rfl, hr3, hb3⟩
  have hz3 : w2.heap.size ≤ w3.heap.size := hb3.size
  have B_3 := hideIt (below_trans B_2.out hb3 (by omega))
  clear B_2
  obtain ⟨-, aL3, cL3, hvL3, -⟩ := hr3.rd
  subst hvL3
  have RS_3 := hideIt hr3
  clear hb3 hr3
  obtain ⟨p0, p1, p2⟩ := A3.out _ (CA.out w3 B_3.out)
  go_wp2_with fail
  refine (toDirent_any x w3).mono ?_
  rintro e w4 ⟨rfl, hb4⟩
  have hz4 : w3.heap.size ≤ w4.heap.size := hb4.size
  have B_4 := hideIt (below_trans B_3.out hb4 (by omega))
  have RS_4 := hideIt (RS_3.out.below hb4 (by omega))
  clear B_3 RS_3
  clear hb4
  clear p0 p1 p2
  go_wp2_with fail
  refine (IC.out w4 B_4.out).mono ?_
  rintro e w5 ⟨v5, rfl, hr5, hb5⟩
  have hz5 : w4.heap.size ≤ w5.heap.size := hb5.size
  have B_5 := hideIt (below_trans B_4.out hb5 (by omega))
  have RS_5 := hideIt (RS_4.out.below hb5 (by omega))
  clear B_4 RS_4
  obtain ⟨-, aL5, cL5, hvL5, -⟩ := hr5.rd
  subst hvL5
  have RG_5 := hideIt hr5
  clear hb5 hr5
  go_wp2_with fail
  refine (eqUpdateS_same _ _ L w5 RG_5.out.rd RS_5.out.rd (by omega)).mono ?_
  rintro e w6 ⟨rfl, hb6⟩
  have hz6 : w5.heap.size ≤ w6.heap.size := hb6.size
  have B_6 := hideIt (below_trans B_5.out hb6 (by omega))
  have RS_6 := hideIt (RS_5.out.below hb6 (by omega))
  have RG_6 := hideIt (RG_5.out.below hb6 (by omega))
  clear B_5 RS_5 RG_5
  clear hb6
  go_wp2_with fail
  refine (markUpdateS_any _ _ _ 1 _ _ w6 RG_6.out (isSes L) (by omega) (by decide) (by decide)).mono ?_
  rintro e w7 ⟨rfl, hr7, hg7, he7⟩
  have ho7 := Row.grown_outside RG_6.out hg7
  have hz7 : w6.heap.size ≤ w7.heap.size := ho7.size
  have B_7 := hideIt (B_6.out.trans (ho7.below (B := (w.alloc (.cells x.cells.toArray 83)).heap.size) (by omega) (by omega)))
  have RS_7 := hideIt (RS_6.out.outside ho7 (by omega) (by omega))
  clear B_6 RS_6 RG_6
  have RK_7 := hideIt hr7
  clear ho7 hr7 hg7 he7
  go_wp2_with fail
  refine (heldUpdateS_any _ L.length 1 w7 (rdE_marks RK_7.out) (by omega) (by decide) (by decide)).mono ?_
  rintro e w' ⟨rfl, hw'⟩
  subst w'
  obtain ⟨p0, p1, p2⟩ := A3.out _ (CA.out w7 B_7.out)
  go_wp2_with fail
  refine (toDirent_any x w7).mono ?_
  rintro e w8 ⟨rfl, hb8⟩
  have hz8 : w7.heap.size ≤ w8.heap.size := hb8.size
  have B_8 := hideIt (below_trans B_7.out hb8 (by omega))
  have RS_8 := hideIt (RS_7.out.below hb8 (by omega))
  have RK_8 := hideIt (RK_7.out.below hb8 (by omega))
  clear B_7 RS_7 RK_7
  clear hb8
  clear p0 p1 p2
  go_wp2_with fail
  refine (IC.out w8 B_8.out).mono ?_
  rintro e w9 ⟨v9, rfl, hr9, hb9⟩
  have hz9 : w8.heap.size ≤ w9.heap.size := hb9.size
  have B_9 := hideIt (below_trans B_8.out hb9 (by omega))
  have RS_9 := hideIt (RS_8.out.below hb9 (by omega))
  have RK_9 := hideIt (RK_8.out.below hb9 (by omega))
  clear B_8 RS_8 RK_8
  obtain ⟨-, aL9, cL9, hvL9, -⟩ := hr9.rd
  subst hvL9
  have RH_9 := hideIt hr9
  clear hb9 hr9
  go_wp2_with fail
  refine (eqUpdateS_same _ _ L w9 RH_9.out.rd RS_9.out.rd (by omega)).mono ?_
  rintro e w10 ⟨rfl, hb10⟩
  have hz10 : w9.heap.size ≤ w10.heap.size := hb10.size
  have B_10 := hideIt (below_trans B_9.out hb10 (by omega))
  have RS_10 := hideIt (RS_9.out.below hb10 (by omega))
  have RK_10 := hideIt (RK_9.out.below hb10 (by omega))
  have RH_10 := hideIt (RH_9.out.below hb10 (by omega))
  clear B_9 RS_9 RK_9 RH_9
  clear hb10
  go_wp2_with fail
  refine (heldUpdateS_any _ L.length 1 w10 (rdE_marks RK_10.out) (by omega) (by decide) (by decide)).mono ?_
  rintro e w' ⟨rfl, hw'⟩
  subst w'
  go_wp2
  go_ret
  exact ⟨rfl, below_trans BW.out B_10.out (by omega)⟩
end Go.Proofs.YtjfjfokinchhoaaDoor
