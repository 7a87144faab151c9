/- The law of NewModel: the walk. -/
import Derived.Test.YtihmihkhkmadmaaDoorZBU
import Derived.Test.YtihmihkhkmadmaaDoorZBV
import Derived.Deep.DeepCutAuto
import Derived.Deep.RegionHeld3
namespace Go.Proofs.YtihmihkhkmadmaaDoor
open Go.RowKit
def NwM2 (T2 : List Th) (D2 : List Den) (lo hi : Nat) (w : World) (v : Value) : Prop := ∀ w9 : World, (∀ b, lo ≤ b → b < hi → w9.heap[b]? = w.heap[b]?) → RdMd w9 v T2 D2
theorem NwM2.rd {T2 : List Th} {D2 : List Den} {lo hi : Nat} {w : World} {v : Value} (h : NwM2 T2 D2 lo hi w v) : RdMd w v T2 D2 := h w (fun _ _ _ => rfl)
theorem NwM2.below {T2 : List Th} {D2 : List Den} {lo hi : Nat} {w w' : World} {v : Value} (h : NwM2 T2 D2 lo hi w v) {B : Nat} (hb : Below B w w') (hB : hi ≤ B) : NwM2 T2 D2 lo hi w' v := fun w9 hs => h w9 (fun b h1 h2 => (hs b h1 h2).trans (hb.block b (by omega)))
theorem NwM2.outside {T2 : List Th} {D2 : List Den} {lo hi : Nat} {w w' : World} {v : Value} (h : NwM2 T2 D2 lo hi w v) {lo' hi' : Nat} (ho : Outside lo' hi' w w') (hd : hi ≤ lo' ∨ hi' ≤ lo) (hz : hi ≤ w.heap.size) : NwM2 T2 D2 lo hi w' v := fun w9 hs => h w9 (fun b h1 h2 => (hs b h1 h2).trans (ho.block b (by omega) (by omega)))
theorem nw_sm : (nwT.length ≤ 16 ∧ totT nwT ≤ 128 ∧ nwD.length ≤ 24) ∧ ∀ k (h : k < nwT.length), nwT[k].pages.length ≤ 2147483648 := by
  refine ⟨by decide, fun k hk => ?_⟩
  have q2 : ∀ t ∈ nwT, t.pages = [] := by
    intro t ht
    rcases List.mem_cons.1 ht with rfl | ht
    · rfl
    · rw [List.eq_of_mem_replicate ht]
  rw [q2 _ (List.getElem_mem hk)]
  decide
set_option maxRecDepth 100000 in
set_option maxHeartbeats 16000000 in
theorem newModel_law (w : World) (hT : TS w) (hE : ED w) (hF : FD w) (hN : NW w) :
    Calls Tryd.prog 3 #[] w fun e w' => e = .returned (.bool true) ∧ Below w.heap.size w w' := by
  have IC := hideIt (fun w1 (hb : Below w.heap.size w w1) => implNewModel_any w1 (hT.below hb) (hE.below hb) (hF.below hb) (hN.below hb))
  have SC : Hid (∀ w1, Calls Tryd.prog 5 #[] w1 fun e w' => ∃ v', e = .returned v' ∧ NwM2 nwT nwD w1.heap.size w'.heap.size w' v' ∧ Below w1.heap.size w1 w') := fun w1 => specNewModel_any w1
  clear hT hE hF hN
  have SM := hideIt nw_sm
  generalize nwT = T2 at *
  generalize nwD = D2 at *
  have HG := hideIt SM.out.2
  obtain ⟨⟨m1, m2, m3⟩, -⟩ := SM.out
  clear SM
  obtain ⟨km, ekm⟩ : ∃ km : Int, km = 1 + 2 * (T2.length : Int) + (totT T2 : Int) + 3 * D2.length := ⟨_, rfl⟩
  have km0 : ¬ km < 0 := by rw [ekm]; omega
  replace ekm := hideIt ekm
  obtain ⟨W, hW⟩ : ∃ W, W = w := ⟨_, rfl⟩
  have FB : Hid (∀ w', Below W.heap.size W w' → Below w.heap.size w w') := fun w' hb => by rw [hW] at hb; exact hb
  have B_0 : Hid (Below W.heap.size W W) := Below.refl _ _
  go_enter Tryd.func3, Tryd.ntmps3
  rw [← hW]
  clear hW
  go_wp2_with fail
  refine (SC.out W).mono ?_
  rintro e w1 ⟨v1, rfl, hr, hb⟩
  obtain ⟨SaW, ScW, SaP, ScP, eq⟩ := (hr _ (fun _ _ _ => rfl)).form
  subst eq
  have z1 : W.heap.size ≤ w1.heap.size := hb.size
  have B_1 := hideIt (below_trans B_0.out hb B_0.out.size)
  clear B_0 hb
  have QS_1 : Hid (NwM2 T2 D2 W.heap.size w1.heap.size w1 _) := hr
  clear hr
  obtain ⟨w2, hw2⟩ : ∃ w2, w2 = w1.alloc (.cells #[.slice SaW T2.length ScW, .slice SaP D2.length ScP] 25) := ⟨_, rfl⟩
  have hb : Below w1.heap.size w1 w2 := by rw [hw2]; exact (Below.refl _ _).alloc (Nat.le_refl _) _
  obtain ⟨bS, hbS⟩ : ∃ bS : Nat, bS = w1.heap.size := ⟨_, rfl⟩
  have VS_2 : Hid (w2.heap[bS]? = some (.cells #[.slice SaW T2.length ScW, .slice SaP D2.length ScP] 25 (0, 0))) := by rw [hw2, hbS]; exact at_new rfl
  have pS : w1.heap.size ≤ bS ∧ bS ≤ w1.heap.size ∧ bS < w2.heap.size := ⟨Nat.le_of_eq hbS.symm, Nat.le_of_eq hbS, lt_box VS_2.out⟩
  have z2 : w1.heap.size ≤ w2.heap.size := hb.size
  have B_2 := hideIt (below_trans B_1.out hb B_1.out.size)
  have QS_2 := hideIt (QS_1.out.below hb (by omega))
  clear B_1 QS_1 hb
  go_upto_region 2 with fail
  rw [← hw2, ← hbS]
  clear hw2 hbS
  clear SC
  go_wp2_with fail
  refine (IC.out w2 (FB.out w2 B_2.out)).mono ?_
  rintro e w3 ⟨v3, rfl, hr, hb⟩
  obtain ⟨GaW, GcW, GaP, GcP, eq⟩ := hr.rd.form
  subst eq
  have z3 : w2.heap.size ≤ w3.heap.size := hb.size
  have B_3 := hideIt (below_trans B_2.out hb B_2.out.size)
  have VS_3 := hideIt (box_below VS_2.out hb (lt_box VS_2.out))
  have QS_3 := hideIt (QS_2.out.below hb (by omega))
  clear B_2 VS_2 QS_2 hb
  have QG_3 : Hid (RowMd w3 w2.heap.size w3.heap.size _ T2 D2) := hr
  clear hr
  obtain ⟨w4, hw4⟩ : ∃ w4, w4 = w3.alloc (.cells #[.slice GaW T2.length GcW, .slice GaP D2.length GcP] 25) := ⟨_, rfl⟩
  have hb : Below w3.heap.size w3 w4 := by rw [hw4]; exact (Below.refl _ _).alloc (Nat.le_refl _) _
  obtain ⟨bG, hbG⟩ : ∃ bG : Nat, bG = w3.heap.size := ⟨_, rfl⟩
  have VG_4 : Hid (w4.heap[bG]? = some (.cells #[.slice GaW T2.length GcW, .slice GaP D2.length GcP] 25 (0, 0))) := by rw [hw4, hbG]; exact at_new rfl
  have pG : w3.heap.size ≤ bG ∧ bG ≤ w3.heap.size ∧ bG < w4.heap.size := ⟨Nat.le_of_eq hbG.symm, Nat.le_of_eq hbG, lt_box VG_4.out⟩
  have z4 : w3.heap.size ≤ w4.heap.size := hb.size
  have B_4 := hideIt (below_trans B_3.out hb B_3.out.size)
  have VS_4 := hideIt (box_below VS_3.out hb (lt_box VS_3.out))
  have QS_4 := hideIt (QS_3.out.below hb (by omega))
  have QG_4 := hideIt (QG_3.out.below hb (by omega))
  clear B_3 VS_3 QS_3 QG_3 hb
  go_upto_region 3 with fail
  rw [← hw4, ← hbG]
  clear hw4 hbG
  obtain ⟨g0, g1, -, -⟩ := two_cells VG_4.out
  obtain ⟨s0, s1, -, -⟩ := two_cells VS_4.out
  go_wp2_with fail
  refine (eqModel_same _ _ T2 D2 w4 QG_4.out.rd QS_4.out.rd (by omega) HG.out (by omega)).mono ?_
  rintro e w5 ⟨rfl, hb⟩
  clear g0 g1 s0 s1
  have z5 : w4.heap.size ≤ w5.heap.size := hb.size
  have B_5 := hideIt (below_trans B_4.out hb B_4.out.size)
  have VS_5 := hideIt (box_below VS_4.out hb (lt_box VS_4.out))
  have VG_5 := hideIt (box_below VG_4.out hb (lt_box VG_4.out))
  have QS_5 := hideIt (QS_4.out.below hb (by omega))
  have QG_5 := hideIt (QG_4.out.below hb (by omega))
  clear B_4 VS_4 VG_4 QS_4 QG_4 hb
  obtain ⟨g0, g1, -, -⟩ := two_cells VG_5.out
  go_wp2_with fail
  refine (markModel_any _ T2 D2 1 _ _ w5 QG_5.out (by omega) (by omega) (by omega) (by omega) (by decide) (by decide)).mono ?_
  rw [← ekm.out]
  rintro e w6 ⟨rfl, hk, ho⟩
  clear g0 g1
  clear QG_5
  have z6 : w5.heap.size ≤ w6.heap.size := ho.size
  have B_6 := hideIt (B_5.out.trans (ho.below (B := W.heap.size) (by omega) B_5.out.size))
  have VS_6 := hideIt ((ho.block _ (lt_box VS_5.out) (by omega)).trans VS_5.out)
  have VG_6 := hideIt ((ho.block _ (lt_box VG_5.out) (by omega)).trans VG_5.out)
  have QS_6 := hideIt (QS_5.out.outside ho (by omega) (by omega))
  clear B_5 VS_5 VG_5 QS_5 ho
  have QK_6 := hideIt hk
  clear hk
  obtain ⟨g0, g1, -, -⟩ := two_cells VG_6.out
  go_wp2_with fail
  refine (heldModel_any _ T2 D2.length 1 w6 QK_6.out.rd (by omega) (by omega) (by omega) (by decide) (by decide)).mono ?_
  rw [← ekm.out]
  rintro e w7 ⟨rfl, hb⟩
  clear g0 g1
  have z7 : w6.heap.size ≤ w7.heap.size := hb.size
  have B_7 := hideIt (below_trans B_6.out hb B_6.out.size)
  have VS_7 := hideIt (box_below VS_6.out hb (lt_box VS_6.out))
  have VG_7 := hideIt (box_below VG_6.out hb (lt_box VG_6.out))
  have QS_7 := hideIt (QS_6.out.below hb (by omega))
  have QK_7 := hideIt (QK_6.out.below hb (by omega))
  clear B_6 VS_6 VG_6 QS_6 QK_6 hb
  go_wp2_with fail
  refine (IC.out w7 (FB.out w7 B_7.out)).mono ?_
  rintro e w8 ⟨v8, rfl, hr, hb⟩
  obtain ⟨HaW, HcW, HaP, HcP, eq⟩ := hr.rd.form
  subst eq
  have z8 : w7.heap.size ≤ w8.heap.size := hb.size
  have B_8 := hideIt (below_trans B_7.out hb B_7.out.size)
  have VS_8 := hideIt (box_below VS_7.out hb (lt_box VS_7.out))
  have VG_8 := hideIt (box_below VG_7.out hb (lt_box VG_7.out))
  have QS_8 := hideIt (QS_7.out.below hb (by omega))
  have QK_8 := hideIt (QK_7.out.below hb (by omega))
  clear B_7 VS_7 VG_7 QS_7 QK_7 hb
  have QH_8 : Hid (RowMd w8 w7.heap.size w8.heap.size _ T2 D2) := hr
  clear hr
  obtain ⟨w9, hw9⟩ : ∃ w9, w9 = w8.alloc (.cells #[.slice HaW T2.length HcW, .slice HaP D2.length HcP] 25) := ⟨_, rfl⟩
  have hb : Below w8.heap.size w8 w9 := by rw [hw9]; exact (Below.refl _ _).alloc (Nat.le_refl _) _
  obtain ⟨bH, hbH⟩ : ∃ bH : Nat, bH = w8.heap.size := ⟨_, rfl⟩
  have VH_9 : Hid (w9.heap[bH]? = some (.cells #[.slice HaW T2.length HcW, .slice HaP D2.length HcP] 25 (0, 0))) := by rw [hw9, hbH]; exact at_new rfl
  have pH : w8.heap.size ≤ bH ∧ bH ≤ w8.heap.size ∧ bH < w9.heap.size := ⟨Nat.le_of_eq hbH.symm, Nat.le_of_eq hbH, lt_box VH_9.out⟩
  have z9 : w8.heap.size ≤ w9.heap.size := hb.size
  have B_9 := hideIt (below_trans B_8.out hb B_8.out.size)
  have VS_9 := hideIt (box_below VS_8.out hb (lt_box VS_8.out))
  have VG_9 := hideIt (box_below VG_8.out hb (lt_box VG_8.out))
  have QS_9 := hideIt (QS_8.out.below hb (by omega))
  have QK_9 := hideIt (QK_8.out.below hb (by omega))
  have QH_9 := hideIt (QH_8.out.below hb (by omega))
  clear B_8 VS_8 VG_8 QS_8 QK_8 QH_8 hb
  go_upto_region 14 with fail
  rw [← hw9, ← hbH]
  clear hw9 hbH
  clear IC
  obtain ⟨h0, h1, -, -⟩ := two_cells VH_9.out
  obtain ⟨s0, s1, -, -⟩ := two_cells VS_9.out
  go_wp2_with fail
  refine (eqModel_same _ _ T2 D2 w9 QH_9.out.rd QS_9.out.rd (by omega) HG.out (by omega)).mono ?_
  rintro e w10 ⟨rfl, hb⟩
  clear h0 h1 s0 s1
  have z10 : w9.heap.size ≤ w10.heap.size := hb.size
  have B_10 := hideIt (below_trans B_9.out hb B_9.out.size)
  have VS_10 := hideIt (box_below VS_9.out hb (lt_box VS_9.out))
  have VG_10 := hideIt (box_below VG_9.out hb (lt_box VG_9.out))
  have VH_10 := hideIt (box_below VH_9.out hb (lt_box VH_9.out))
  have QS_10 := hideIt (QS_9.out.below hb (by omega))
  have QK_10 := hideIt (QK_9.out.below hb (by omega))
  have QH_10 := hideIt (QH_9.out.below hb (by omega))
  clear B_9 VS_9 VG_9 VH_9 QS_9 QK_9 QH_9 hb
  obtain ⟨g0, g1, -, -⟩ := two_cells VG_10.out
  go_wp2_with fail
  refine (heldModel_any _ T2 D2.length 1 w10 QK_10.out.rd (by omega) (by omega) (by omega) (by decide) (by decide)).mono ?_
  rw [← ekm.out]
  rintro e w11 ⟨rfl, hb⟩
  clear g0 g1
  have z11 : w10.heap.size ≤ w11.heap.size := hb.size
  have B_11 := hideIt (below_trans B_10.out hb B_10.out.size)
  have VS_11 := hideIt (box_below VS_10.out hb (lt_box VS_10.out))
  have VG_11 := hideIt (box_below VG_10.out hb (lt_box VG_10.out))
  have VH_11 := hideIt (box_below VH_10.out hb (lt_box VH_10.out))
  have QS_11 := hideIt (QS_10.out.below hb (by omega))
  have QK_11 := hideIt (QK_10.out.below hb (by omega))
  have QH_11 := hideIt (QH_10.out.below hb (by omega))
  clear B_10 VS_10 VG_10 VH_10 QS_10 QK_10 QH_10 hb
  go_wp2
  go_ret
  exact ⟨rfl, B_11.out⟩
end Go.Proofs.YtihmihkhkmadmaaDoor
