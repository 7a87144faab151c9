/- The law of ModelText: the walk. -/
import Derived.Test.YtmeiionabonhnaaGreatDoorTqC
import Derived.Test.YtmeiionabonhnaaGreatDoorTpG
import Derived.Test.YtmeiionabonhnaaGreatDoorZBR
import Derived.Test.YtmeiionabonhnaaGreatDoorZBM
namespace Go.Proofs.YtmeiionabonhnaaGreatDoor
open Go.RowKit
theorem mtL_len (ts : List Th) (ps : List Den) : (mtL ts ps).length ≤ 24 := by
  unfold mtL
  split
  · rename_i hm
    have hi : imgB (imgM ts) ps = true := by
      cases q : imgB (imgM ts) ps with
      | true => rfl
      | false => rw [mod_not q] at hm; cases hm
    rw [List.length_map]
    exact pthN_len hi 16 0 0 ⟨#[]⟩ rfl
  · simp
set_option maxRecDepth 100000 in
set_option maxHeartbeats 8000000 in
theorem modelText_law (v : Value) (ts : List Th) (ps : List Den) (w : World) (h : RdMd w v ts ps) (hwl : ts.length ≤ maxLen) (hpl : ps.length ≤ maxLen) (hgl : ∀ k (hk : k < ts.length), ts[k].pages.length ≤ maxLen) (hs : ∀ k (h : k < ps.length), ps[k].name.size ≤ maxLen) (hT : TS w) (hE : ED w) (hF : FD w) (hQ : PT w) :
    Calls Tryz.prog 3 #[v] w fun e w' => e = .returned (.bool true) ∧ Below w.heap.size w w' := by
  have HRD := hideIt h
  obtain ⟨vW, vP, rfl, h1, h2⟩ := h
  obtain ⟨aW, cW, rfl⟩ := h1.form
  obtain ⟨aP, cP, rfl, _, _⟩ := h2.shape
  have SZ := hideIt (fun w1 (hb : Below w.heap.size w w1) => szModel_any _ ts ps 1048576 w1 (HRD.out.below hb) hwl hgl hpl hs (by omega) (by omega))
  have CA : Hid (∀ w', Below (w.alloc (.cells #[.slice aW ts.length cW, .slice aP ps.length cP] 25)).heap.size (w.alloc (.cells #[.slice aW ts.length cW, .slice aP ps.length cP] 25)) w' → w'.cell? ⟨w.heap.size, 0, none⟩ = some (.slice aW ts.length cW) ∧ w'.cell? ⟨w.heap.size, 1, none⟩ = some (.slice aP ps.length cP)) := fun w' hb => by
    have : w'.heap[w.heap.size]? = some (.cells #[.slice aW ts.length cW, .slice aP ps.length cP] 25 (0, 0)) := (hb.block _ (by simp)).trans (at_new rfl)
    exact ⟨(two_cells this).1, (two_cells this).2.1⟩
  have BW : Hid (Below w.heap.size w (w.alloc (.cells #[.slice aW ts.length cW, .slice aP ps.length cP] 25))) := (Below.refl _ _).alloc (Nat.le_refl _) _
  have hWz : w.heap.size < (w.alloc (.cells #[.slice aW ts.length cW, .slice aP ps.length cP] 25)).heap.size := by simp
  have RD : Hid (∀ w', Below (w.alloc (.cells #[.slice aW ts.length cW, .slice aP ps.length cP] 25)).heap.size (w.alloc (.cells #[.slice aW ts.length cW, .slice aP ps.length cP] 25)) w' → RdMd w' (.agg #[.slice aW ts.length cW, .slice aP ps.length cP]) ts ps) := fun w' hb => HRD.out.below (below_trans BW.out hb (by omega))
  have FB : Hid (∀ w', Below (w.alloc (.cells #[.slice aW ts.length cW, .slice aP ps.length cP] 25)).heap.size (w.alloc (.cells #[.slice aW ts.length cW, .slice aP ps.length cP] 25)) w' → Below w.heap.size w w') := fun w' hb => below_trans BW.out hb (by omega)
  clear h1 h2
  have IC0 := hideIt (fun (hw : ts.length ≤ 1048576) (hp : ps.length ≤ 1048576) v w1 (hb : Below w.heap.size w w1) h => implModelText_any v ts ps w1 h hw hp hs (hT.below hb) (hE.below hb) (hF.below hb) (hQ.below hb))
  have SC0 := hideIt (fun (hw : ts.length ≤ 1048576) (hp : ps.length ≤ 1048576) v w1 h => specModelText_any v ts ps w1 h hw hp hs)
  have d1 := mtL_len ts ps
  generalize mtL ts ps = L at *
  generalize mtC ts ps = cd at *
  clear hs hT hE hF hgl hQ
  have B_0 : Hid (Below (w.alloc (.cells #[.slice aW ts.length cW, .slice aP ps.length cP] 25)).heap.size (w.alloc (.cells #[.slice aW ts.length cW, .slice aP ps.length cP] 25)) (w.alloc (.cells #[.slice aW ts.length cW, .slice aP ps.length cP] 25))) := Below.refl _ _
  go_enter Tryz.func3, Tryz.ntmps3
  obtain ⟨p0, p1⟩ := id (CA.out (w.alloc (.cells #[.slice aW ts.length cW, .slice aP ps.length cP] 25)) B_0.out)
  go_wp2_with fail
  refine (SZ.out (w.alloc (.cells #[.slice aW ts.length cW, .slice aP ps.length cP] 25)) (FB.out _ B_0.out)).mono ?_
  rintro e w1 ⟨r, rfl, hq, hq1, hb1⟩
  have hz1 : (w.alloc (.cells #[.slice aW ts.length cW, .slice aP ps.length cP] 25)).heap.size ≤ w1.heap.size := hb1.size
  have B_1 := hideIt (below_trans B_0.out hb1 (by omega))
  have HQ := hideIt hq
  clear B_0 SZ hq
  clear hb1
  by_cases c0 : r < 0
  · have BF := hideIt (FB.out _ B_1.out)
    clear p0 p1 IC0 SC0 HQ
    go_wp2
    go_ret
    exact ⟨rfl, BF.out⟩
  have hq2 := HQ.out (by omega)
  have hw : ts.length ≤ 1048576 := by omega
  have hp : ps.length ≤ 1048576 := by omega
  have HG : Hid (∀ k (hk : k < ts.length), ts[k].pages.length ≤ 1048576) := fun k hk => by
    have := totT_le hk
    omega
  have HG2 : Hid (∀ k (hk : k < ts.length), ts[k].pages.length ≤ 2147483648) := fun k hk => Nat.le_trans (HG.out k hk) (by decide)
  have IC := hideIt (IC0.out hw hp)
  have SC := hideIt (SC0.out hw hp)
  have tot0 : totT ts ≤ 1048576 := by omega
  obtain ⟨km, ekm⟩ : ∃ km : Int, km = 1 + 2 * (ts.length : Int) + (totT ts : Int) + 3 * ps.length := ⟨_, rfl⟩
  have km0 : ¬ km < 0 := by rw [ekm]; omega
  replace ekm := hideIt ekm
  clear IC0 SC0 hq2 HQ hq1
  clear p0 p1
  obtain ⟨p0, p1⟩ := id (CA.out w1 B_1.out)
  go_wp2_with fail
  refine (toModel_any _ ts ps w1 (RD.out w1 B_1.out) hw HG.out hp).mono ?_
  rintro e w2 ⟨v2, rfl, hr2, hb2⟩
  have hz2 : w1.heap.size ≤ w2.heap.size := hb2.size
  have B_2 := hideIt (below_trans B_1.out hb2 (by omega))
  clear B_1
  obtain ⟨vW2, vP2, rfl, hI2, hS2⟩ := hr2.rd
  obtain ⟨aW2, cW2, rfl⟩ := hI2.form
  obtain ⟨aP2, cP2, rfl, _⟩ := hS2.shape
  clear hI2 hS2
  have RA_2 := hideIt hr2
  clear hb2 hr2
  clear p0 p1
  go_wp2_with fail
  refine (SC.out _ w2 RA_2.out.rd).mono ?_
  rintro e w3 ⟨v3, rfl, hr3, hb3⟩
  have hz3 : w2.heap.size ≤ w3.heap.size := hb3.size
  have B_3 := hideIt (below_trans B_2.out hb3 (by omega))
  have RA_3 := hideIt (RA_2.out.below hb3 (by omega))
  clear B_2 RA_2
  obtain ⟨-, aL3, cL3, hvL3, -⟩ := hr3.rd
  subst hvL3
  have RS_3 := hideIt hr3
  clear hb3 hr3
  clear RA_3
  obtain ⟨p0, p1⟩ := id (CA.out w3 B_3.out)
  go_wp2_with fail
  refine (toModel_any _ ts ps w3 (RD.out w3 B_3.out) hw HG.out hp).mono ?_
  rintro e w4 ⟨v4, rfl, hr4, hb4⟩
  have hz4 : w3.heap.size ≤ w4.heap.size := hb4.size
  have B_4 := hideIt (below_trans B_3.out hb4 (by omega))
  have RS_4 := hideIt (RS_3.out.below hb4 (by omega))
  clear B_3 RS_3
  obtain ⟨vW4, vP4, rfl, hI4, hS4⟩ := hr4.rd
  obtain ⟨aW4, cW4, rfl⟩ := hI4.form
  obtain ⟨aP4, cP4, rfl, _⟩ := hS4.shape
  clear hI4 hS4
  have RX_4 := hideIt hr4
  clear hb4 hr4
  clear p0 p1
  obtain ⟨w5, hA5⟩ : ∃ w5 : World, w5 = w4.alloc (.cells #[.slice aW4 ts.length cW4, .slice aP4 ps.length cP4] 33) := ⟨_, rfl⟩
  have hb5 : Below w4.heap.size w4 w5 := by rw [hA5]; exact (Below.refl _ _).alloc (Nat.le_refl _) _
  have VX_5 : Hid (w5.heap[w4.heap.size]? = some (.cells #[.slice aW4 ts.length cW4, .slice aP4 ps.length cP4] 33 (0, 0))) := by rw [hA5]; exact at_new rfl
  have hl5 : w4.heap.size < w5.heap.size := (Array.getElem?_eq_some_iff.1 VX_5.out).1
  have hz5 : w4.heap.size ≤ w5.heap.size := hb5.size
  have B_5 := hideIt (below_trans B_4.out hb5 (by omega))
  have RS_5 := hideIt (RS_4.out.below hb5 (by omega))
  have RX_5 := hideIt (RX_4.out.below hb5 (by omega))
  clear B_4 hb5 RS_4 RX_4
  go_wp2_with fail
  rw [← hA5]
  clear hA5
  refine (IC.out _ w5 (FB.out _ B_5.out) RX_5.out.rd).mono ?_
  rintro e w6 ⟨v6, rfl, hr6, hb6⟩
  have hz6 : w5.heap.size ≤ w6.heap.size := hb6.size
  have B_6 := hideIt (below_trans B_5.out hb6 (by omega))
  have RS_6 := hideIt (RS_5.out.below hb6 (by omega))
  have RX_6 := hideIt (RX_5.out.below hb6 (by omega))
  have VX_6 := hideIt ((hb6.block _ (by omega)).trans VX_5.out)
  clear B_5 RS_5 RX_5 VX_5
  obtain ⟨-, aL6, cL6, hvL6, -⟩ := hr6.rd
  subst hvL6
  have RG_6 := hideIt hr6
  clear hb6 hr6
  go_wp2_with fail
  refine (eqStringS_same _ _ L w6 RG_6.out.rd RS_6.out.rd (by omega)).mono ?_
  rintro e w7 ⟨rfl, hb7⟩
  have hz7 : w6.heap.size ≤ w7.heap.size := hb7.size
  have B_7 := hideIt (below_trans B_6.out hb7 (by omega))
  have RS_7 := hideIt (RS_6.out.below hb7 (by omega))
  have RX_7 := hideIt (RX_6.out.below hb7 (by omega))
  have RG_7 := hideIt (RG_6.out.below hb7 (by omega))
  have VX_7 := hideIt ((hb7.block _ (by omega)).trans VX_6.out)
  clear B_6 RS_6 RX_6 RG_6 VX_6
  clear hb7
  obtain ⟨y0, y1, _, _⟩ := two_cells VX_7.out
  obtain ⟨p0, p1⟩ := CA.out w7 B_7.out
  have SK : Hid (∀ w', Below w7.heap.size w7 w' → (w'.cell? ⟨w4.heap.size, 0, none⟩ = some (.slice aW4 ts.length cW4) ∧ w'.cell? ⟨w4.heap.size, 1, none⟩ = some (.slice aP4 ps.length cP4)) ∧ w'.cell? ⟨w.heap.size, 0, none⟩ = some (.slice aW ts.length cW) ∧ w'.cell? ⟨w.heap.size, 1, none⟩ = some (.slice aP ps.length cP)) := fun w' hb => ⟨by obtain ⟨a, b, _, _⟩ := two_cells ((hb.block _ (by omega)).trans VX_7.out); exact ⟨a, b⟩, CA.out w' (below_trans B_7.out hb (by omega))⟩
  go_upto_region 10 with fail
  go_cut [45] (fun s wx => s = .bool false ∧ Below w7.heap.size w7 wx)
  case first =>
    go_region_held3 (fun w' => (w'.cell? ⟨w4.heap.size, 0, none⟩ = some (.slice aW4 ts.length cW4) ∧ w'.cell? ⟨w4.heap.size, 1, none⟩ = some (.slice aP4 ps.length cP4)) ∧ w'.cell? ⟨w.heap.size, 0, none⟩ = some (.slice aW ts.length cW) ∧ w'.cell? ⟨w.heap.size, 1, none⟩ = some (.slice aP ps.length cP))
      (exact SK.out _ (by repeat (first | exact BE.out | exact BF.out | exact Below.refl _ _ | refine Below.drew ?_)))
      (first
        | (go_at_call 9; refine (toModel_any _ ts ps _ (RD.out _ (below_trans B_7.out (by repeat (first | exact Below.refl _ _ | refine Below.drew ?_)) (by omega))) hw HG.out hp).mono ?_; rintro e wt ⟨vt, rfl, hrt, hbt⟩; have BF : Hid (Below w7.heap.size w7 wt) := (by first | exact hbt | exact below_trans (by repeat (first | exact Below.refl _ _ | refine Below.drew ?_)) hbt (Nat.le_refl _)); obtain ⟨vWt, vPt, rfl, hIt, hSt⟩ := hrt.rd; obtain ⟨aWt, cWt, rfl⟩ := hIt.form; obtain ⟨aPt, cPt, rfl, _⟩ := hSt.shape; have RT := hideIt hrt.rd; clear hIt hSt hrt hbt)
        | (go_at_call 12; refine (eqModel_same _ _ ts ps _ (RX_7.out.rd.below (below_trans BF.out (by repeat (first | exact Below.refl _ _ | refine Below.drew ?_)) BF.out.size)) (RT.out.below (by repeat (first | exact Below.refl _ _ | refine Below.drew ?_))) (by omega) HG2.out (by omega)).mono ?_; rintro e wu ⟨rfl, hbu⟩; have BE : Hid (Below w7.heap.size w7 wu) := below_trans BF.out (by first | exact hbu | exact below_trans (by repeat (first | exact Below.refl _ _ | refine Below.drew ?_)) hbu (Nat.le_refl _)) BF.out.size; clear hbu))
    all_goals
      go_wp2_with fail
      go_meet
      exact ⟨rfl, (by repeat (first | exact BE.out | refine Below.drew ?_))⟩
  case rest =>
  obtain ⟨rfl, hb8⟩ := hcut
  rename World => w8
  clear y0 y1 p0 p1 SK
  have hz8 : w7.heap.size ≤ w8.heap.size := hb8.size
  have B_8 := hideIt (below_trans B_7.out hb8 (by omega))
  have RS_8 := hideIt (RS_7.out.below hb8 (by omega))
  have RX_8 := hideIt (RX_7.out.below hb8 (by omega))
  have RG_8 := hideIt (RG_7.out.below hb8 (by omega))
  have VX_8 := hideIt ((hb8.block _ (by omega)).trans VX_7.out)
  clear B_7 hb8 RS_7 RX_7 RG_7 VX_7
  obtain ⟨y0, y1, _, _⟩ := two_cells VX_8.out
  go_wp2_with fail
  refine (markModel_any _ ts ps 1 _ _ w8 RX_8.out (by omega) (by omega) (by omega) (by omega) (by decide) (by decide)).mono ?_
  rw [← ekm.out]
  rintro e w9 ⟨rfl, _, ho9⟩
  have hz9 : w8.heap.size ≤ w9.heap.size := ho9.size
  have B_9 := hideIt (B_8.out.trans (ho9.below (B := (w.alloc (.cells #[.slice aW ts.length cW, .slice aP ps.length cP] 25)).heap.size) (by omega) (by omega)))
  have RS_9 := hideIt (RS_8.out.outside ho9 (by omega) (by omega))
  have RG_9 := hideIt (RG_8.out.outside ho9 (by omega) (by omega))
  have VX_9 := hideIt ((ho9.block _ (by omega) (by omega)).trans VX_8.out)
  clear B_8 RS_8 RX_8 RG_8 VX_8
  clear ho9
  clear y0 y1
  go_wp2_with fail
  refine (eqStringS_same _ _ L w9 RG_9.out.rd RS_9.out.rd (by omega)).mono ?_
  rintro e w10 ⟨rfl, hb10⟩
  have hz10 : w9.heap.size ≤ w10.heap.size := hb10.size
  have B_10 := hideIt (below_trans B_9.out hb10 (by omega))
  have RS_10 := hideIt (RS_9.out.below hb10 (by omega))
  have RG_10 := hideIt (RG_9.out.below hb10 (by omega))
  have VX_10 := hideIt ((hb10.block _ (by omega)).trans VX_9.out)
  clear B_9 RS_9 RG_9 VX_9
  clear hb10
  go_wp2_with fail
  refine (markStringS_any _ L 1 _ _ w10 RG_10.out (by omega) (by omega) (by decide) (by decide)).mono ?_
  rintro e w11 ⟨rfl, hr11, hg11, he11⟩
  have ho11 := Row.grown_outside RG_10.out hg11
  have hz11 : w10.heap.size ≤ w11.heap.size := ho11.size
  have B_11 := hideIt (B_10.out.trans (ho11.below (B := (w.alloc (.cells #[.slice aW ts.length cW, .slice aP ps.length cP] 25)).heap.size) (by omega) (by omega)))
  have RS_11 := hideIt (RS_10.out.outside ho11 (by omega) (by omega))
  have VX_11 := hideIt ((ho11.block _ (by omega) (by omega)).trans VX_10.out)
  clear B_10 RS_10 RG_10 VX_10
  have RK_11 := hideIt hr11
  clear ho11 hr11 hg11 he11
  go_wp2_with fail
  refine (heldStringS_any _ L.length 1 w11 (RdT_marks RK_11.out) (by omega) (by decide) (by decide)).mono ?_
  rintro e w12 ⟨rfl, hb12⟩
  have hz12 : w11.heap.size ≤ w12.heap.size := hb12.size
  have B_12 := hideIt (below_trans B_11.out hb12 (by omega))
  have RS_12 := hideIt (RS_11.out.below hb12 (by omega))
  have RK_12 := hideIt (RK_11.out.below hb12 (by omega))
  have VX_12 := hideIt ((hb12.block _ (by omega)).trans VX_11.out)
  clear B_11 RS_11 RK_11 VX_11
  clear hb12
  obtain ⟨p0, p1⟩ := id (CA.out w12 B_12.out)
  go_wp2_with fail
  refine (toModel_any _ ts ps w12 (RD.out w12 B_12.out) hw HG.out hp).mono ?_
  rintro e w13 ⟨v13, rfl, hr13, hb13⟩
  have hz13 : w12.heap.size ≤ w13.heap.size := hb13.size
  have B_13 := hideIt (below_trans B_12.out hb13 (by omega))
  have RS_13 := hideIt (RS_12.out.below hb13 (by omega))
  have RK_13 := hideIt (RK_12.out.below hb13 (by omega))
  have VX_13 := hideIt ((hb13.block _ (by omega)).trans VX_12.out)
  clear B_12 RS_12 RK_12 VX_12
  obtain ⟨vW13, vP13, rfl, hI13, hS13⟩ := hr13.rd
  obtain ⟨aW13, cW13, rfl⟩ := hI13.form
  obtain ⟨aP13, cP13, rfl, _⟩ := hS13.shape
  clear hI13 hS13
  have RB_13 := hideIt hr13
  clear hb13 hr13
  clear p0 p1
  go_wp2_with fail
  refine (IC.out _ w13 (FB.out _ B_13.out) RB_13.out.rd).mono ?_
  rintro e w14 ⟨v14, rfl, hr14, hb14⟩
  have hz14 : w13.heap.size ≤ w14.heap.size := hb14.size
  have B_14 := hideIt (below_trans B_13.out hb14 (by omega))
  have RS_14 := hideIt (RS_13.out.below hb14 (by omega))
  have RK_14 := hideIt (RK_13.out.below hb14 (by omega))
  have RB_14 := hideIt (RB_13.out.below hb14 (by omega))
  have VX_14 := hideIt ((hb14.block _ (by omega)).trans VX_13.out)
  clear B_13 RS_13 RK_13 RB_13 VX_13
  obtain ⟨-, aL14, cL14, hvL14, -⟩ := hr14.rd
  subst hvL14
  have RH_14 := hideIt hr14
  clear hb14 hr14
  go_wp2_with fail
  refine (eqStringS_same _ _ L w14 RH_14.out.rd RS_14.out.rd (by omega)).mono ?_
  rintro e w15 ⟨rfl, hb15⟩
  have hz15 : w14.heap.size ≤ w15.heap.size := hb15.size
  have B_15 := hideIt (below_trans B_14.out hb15 (by omega))
  have RS_15 := hideIt (RS_14.out.below hb15 (by omega))
  have RK_15 := hideIt (RK_14.out.below hb15 (by omega))
  have RB_15 := hideIt (RB_14.out.below hb15 (by omega))
  have RH_15 := hideIt (RH_14.out.below hb15 (by omega))
  have VX_15 := hideIt ((hb15.block _ (by omega)).trans VX_14.out)
  clear B_14 RS_14 RK_14 RB_14 RH_14 VX_14
  clear hb15
  go_wp2_with fail
  refine (heldStringS_any _ L.length 1 w15 (RdT_marks RK_15.out) (by omega) (by decide) (by decide)).mono ?_
  rintro e w16 ⟨rfl, hb16⟩
  have hz16 : w15.heap.size ≤ w16.heap.size := hb16.size
  have B_16 := hideIt (below_trans B_15.out hb16 (by omega))
  have RS_16 := hideIt (RS_15.out.below hb16 (by omega))
  have RK_16 := hideIt (RK_15.out.below hb16 (by omega))
  have RB_16 := hideIt (RB_15.out.below hb16 (by omega))
  have RH_16 := hideIt (RH_15.out.below hb16 (by omega))
  have VX_16 := hideIt ((hb16.block _ (by omega)).trans VX_15.out)
  clear B_15 RS_15 RK_15 RB_15 RH_15 VX_15
  clear hb16
  go_wp2
  go_ret
  exact ⟨rfl, below_trans BW.out B_16.out (by omega)⟩
end Go.Proofs.YtmeiionabonhnaaGreatDoor
