/- The law of the updates of an inode: the walk. -/
import Derived.Test.YtjfjfokinchhoaaDoorPiE
import Derived.Test.YtjfjfokinchhoaaDoorImD
import Derived.Test.YtjfjfokinchhoaaDoorMarks5
namespace Go.Proofs.YtjfjfokinchhoaaDoor
open Go.RowKit

set_option maxRecDepth 100000 in
set_option maxHeartbeats 8000000 in
theorem inodeUpdates_law (i : Int) (x : Ino) (w : World) (hT : TS w) (hE : ED w) (hr : x.R) :
    Calls Tryd.prog 11 #[.int .i64 i, x.v] w fun e w' => e = .returned (.bool true) ∧ Below w.heap.size w w' := by
  have CA : Hid (∀ w', Below (w.alloc (.cells x.cs.toArray 73)).heap.size (w.alloc (.cells x.cs.toArray 73)) w' → ∀ j, w'.cell? ⟨w.heap.size, j, none⟩ = x.cs[j]?) := fun w' hb j => by
    have : w'.heap[w.heap.size]? = some (.cells x.cs.toArray 73 (0, 0)) := (hb.block _ (by simp)).trans (at_new rfl)
    exact (eight_at (xs := x.cs) this j).1
  have BW : Hid (Below w.heap.size w (w.alloc (.cells x.cs.toArray 73))) := (Below.refl _ _).alloc (Nat.le_refl _) _
  have hWz : w.heap.size < (w.alloc (.cells x.cs.toArray 73)).heap.size := by simp
  have hT' : TS (w.alloc (.cells x.cs.toArray 73)) := hT.below BW.out
  have hE' : ED (w.alloc (.cells x.cs.toArray 73)) := hE.below BW.out
  have IC := hideIt (fun w1 (hb : Below (w.alloc (.cells x.cs.toArray 73)).heap.size (w.alloc (.cells x.cs.toArray 73)) w1) => implInodeUpdates_any i x w1 (hT'.below hb) (hE'.below hb) hr)
  have SC := hideIt (fun w1 => specInodeUpdates_any i x w1 hr)
  have d1 : (iuL i x).length ≤ 11 := iuL_len i x
  rw [show x.v = .agg x.cs.toArray from rfl]
  generalize iuL i x = L at *
  generalize iuC i x = cd at *
  clear hT hE hr hT' hE'
  have B_0 : Hid (Below (w.alloc (.cells x.cs.toArray 73)).heap.size (w.alloc (.cells x.cs.toArray 73)) (w.alloc (.cells x.cs.toArray 73))) := Below.refl _ _
  go_enter Tryd.func11, Tryd.ntmps11
  obtain ⟨p0, p1, p2, p3, p4, p5, p6, p7, p8, p9, p10⟩ := Ino.all (CA.out (w.alloc (.cells x.cs.toArray 73)) B_0.out)
  go_wp2_with fail
  refine (toInode_any x (w.alloc (.cells x.cs.toArray 73))).mono ?_
  rintro e w1 ⟨rfl, hb1⟩
  have hz1 : (w.alloc (.cells x.cs.toArray 73)).heap.size ≤ w1.heap.size := hb1.size
  have B_1 := hideIt (below_trans B_0.out hb1 (by omega))
  clear B_0
  clear hb1
  clear p0 p1 p2 p3 p4 p5 p6 p7 p8 p9 p10
  go_wp2_with fail
  refine (SC.out w1).mono ?_
  rintro e w2 ⟨v2, rfl, hr2, hb2⟩
  have hz2 : w1.heap.size ≤ w2.heap.size := hb2.size
  have B_2 := hideIt (below_trans B_1.out hb2 (by omega))
  clear B_1
  obtain ⟨-, aL2, cL2, hvL2, -⟩ := hr2.rd
  subst hvL2
  have RS_2 := hideIt hr2
  clear hb2 hr2
  obtain ⟨p0, p1, p2, p3, p4, p5, p6, p7, p8, p9, p10⟩ := Ino.all (CA.out w2 B_2.out)
  go_wp2_with fail
  refine (toInode_any x w2).mono ?_
  rintro e w3 ⟨rfl, hb3⟩
  have hz3 : w2.heap.size ≤ w3.heap.size := hb3.size
  have B_3 := hideIt (below_trans B_2.out hb3 (by omega))
  have RS_3 := hideIt (RS_2.out.below hb3 (by omega))
  clear B_2 RS_2
  clear hb3
  clear p0 p1 p2 p3 p4 p5 p6 p7 p8 p9 p10
  go_wp2_with fail
  refine (IC.out w3 B_3.out).mono ?_
  rintro e w4 ⟨v4, rfl, hr4, hb4⟩
  have hz4 : w3.heap.size ≤ w4.heap.size := hb4.size
  have B_4 := hideIt (below_trans B_3.out hb4 (by omega))
  have RS_4 := hideIt (RS_3.out.below hb4 (by omega))
  clear B_3 RS_3
  obtain ⟨-, aL4, cL4, hvL4, -⟩ := hr4.rd
  subst hvL4
  have RG_4 := hideIt hr4
  clear hb4 hr4
  go_wp2_with fail
  refine (eqUpdateS_same _ _ L w4 RG_4.out.rd RS_4.out.rd (by omega)).mono ?_
  rintro e w5 ⟨rfl, hb5⟩
  have hz5 : w4.heap.size ≤ w5.heap.size := hb5.size
  have B_5 := hideIt (below_trans B_4.out hb5 (by omega))
  have RS_5 := hideIt (RS_4.out.below hb5 (by omega))
  have RG_5 := hideIt (RG_4.out.below hb5 (by omega))
  clear B_4 RS_4 RG_4
  clear hb5
  go_wp2_with fail
  refine (markUpdateS_any _ _ _ 1 _ _ w5 RG_5.out (isSes L) (by omega) (by decide) (by decide)).mono ?_
  rintro e w6 ⟨rfl, hr6, hg6, he6⟩
  have ho6 := Row.grown_outside RG_5.out hg6
  have hz6 : w5.heap.size ≤ w6.heap.size := ho6.size
  have B_6 := hideIt (B_5.out.trans (ho6.below (B := (w.alloc (.cells x.cs.toArray 73)).heap.size) (by omega) (by omega)))
  have RS_6 := hideIt (RS_5.out.outside ho6 (by omega) (by omega))
  clear B_5 RS_5 RG_5
  have RK_6 := hideIt hr6
  clear ho6 hr6 hg6 he6
  go_wp2_with fail
  refine (heldUpdateS_any _ L.length 1 w6 (rdE_marks RK_6.out) (by omega) (by decide) (by decide)).mono ?_
  rintro e w' ⟨rfl, hw'⟩
  subst w'
  obtain ⟨p0, p1, p2, p3, p4, p5, p6, p7, p8, p9, p10⟩ := Ino.all (CA.out w6 B_6.out)
  go_wp2_with fail
  refine (toInode_any x w6).mono ?_
  rintro e w7 ⟨rfl, hb7⟩
  have hz7 : w6.heap.size ≤ w7.heap.size := hb7.size
  have B_7 := hideIt (below_trans B_6.out hb7 (by omega))
  have RS_7 := hideIt (RS_6.out.below hb7 (by omega))
  have RK_7 := hideIt (RK_6.out.below hb7 (by omega))
  clear B_6 RS_6 RK_6
  clear hb7
  clear p0 p1 p2 p3 p4 p5 p6 p7 p8 p9 p10
  go_wp2_with fail
  refine (IC.out w7 B_7.out).mono ?_
  rintro e w8 ⟨v8, rfl, hr8, hb8⟩
  have hz8 : w7.heap.size ≤ w8.heap.size := hb8.size
  have B_8 := hideIt (below_trans B_7.out hb8 (by omega))
  have RS_8 := hideIt (RS_7.out.below hb8 (by omega))
  have RK_8 := hideIt (RK_7.out.below hb8 (by omega))
  clear B_7 RS_7 RK_7
  obtain ⟨-, aL8, cL8, hvL8, -⟩ := hr8.rd
  subst hvL8
  have RH_8 := hideIt hr8
  clear hb8 hr8
  go_wp2_with fail
  refine (eqUpdateS_same _ _ L w8 RH_8.out.rd RS_8.out.rd (by omega)).mono ?_
  rintro e w9 ⟨rfl, hb9⟩
  have hz9 : w8.heap.size ≤ w9.heap.size := hb9.size
  have B_9 := hideIt (below_trans B_8.out hb9 (by omega))
  have RS_9 := hideIt (RS_8.out.below hb9 (by omega))
  have RK_9 := hideIt (RK_8.out.below hb9 (by omega))
  have RH_9 := hideIt (RH_8.out.below hb9 (by omega))
  clear B_8 RS_8 RK_8 RH_8
  clear hb9
  go_wp2_with fail
  refine (heldUpdateS_any _ L.length 1 w9 (rdE_marks RK_9.out) (by omega) (by decide) (by decide)).mono ?_
  rintro e w' ⟨rfl, hw'⟩
  subst w'
  go_wp2
  go_ret
  exact ⟨rfl, below_trans BW.out B_9.out (by omega)⟩
end Go.Proofs.YtjfjfokinchhoaaDoor
