/- The law of ModelOK: the walk. -/
import Derived.Test.YtihmihkhkmadmaaDoorMeB
import Derived.Test.YtihmihkhkmadmaaDoorMdC
namespace Go.Proofs.YtihmihkhkmadmaaDoor
open Go.RowKit
set_option maxRecDepth 100000 in
set_option maxHeartbeats 8000000 in
theorem modelOK_law (v : Value) (ts : List Th) (ps : List Den) (w : World) (h : RdMd w v ts ps) (hwl : ts.length ≤ maxLen) (hpl : ps.length ≤ maxLen) (hgl : ∀ k (hk : k < ts.length), ts[k].pages.length ≤ maxLen) (hs : ∀ k (h : k < ps.length), ps[k].name.size ≤ maxLen) (hT : TS w) (hE : ED w) (hF : FD w) :
    Calls Tryd.prog 4 #[v] w fun e w' => e = .returned (.bool true) ∧ Below w.heap.size w w' := by
  have HRD := hideIt h
  obtain ⟨vW, vP, rfl, h1, h2⟩ := h
  obtain ⟨aW, cW, rfl⟩ := h1.form
  obtain ⟨aP, cP, rfl, _, _⟩ := h2.shape
  have SZ := hideIt (fun w1 (hb : Below w.heap.size w w1) => szModel_any _ ts ps 1048576 w1 (HRD.out.below hb) hwl hgl hpl hs (by omega) (by omega))
  have CA : Hid (∀ w', Below (w.alloc (.cells #[.slice aW ts.length cW, .slice aP ps.length cP] 33)).heap.size (w.alloc (.cells #[.slice aW ts.length cW, .slice aP ps.length cP] 33)) w' → w'.cell? ⟨w.heap.size, 0, none⟩ = some (.slice aW ts.length cW) ∧ w'.cell? ⟨w.heap.size, 1, none⟩ = some (.slice aP ps.length cP)) := fun w' hb => by
    have : w'.heap[w.heap.size]? = some (.cells #[.slice aW ts.length cW, .slice aP ps.length cP] 33 (0, 0)) := (hb.block _ (by simp)).trans (at_new rfl)
    exact ⟨(two_cells this).1, (two_cells this).2.1⟩
  have BW : Hid (Below w.heap.size w (w.alloc (.cells #[.slice aW ts.length cW, .slice aP ps.length cP] 33))) := (Below.refl _ _).alloc (Nat.le_refl _) _
  have hWz : w.heap.size < (w.alloc (.cells #[.slice aW ts.length cW, .slice aP ps.length cP] 33)).heap.size := by simp
  have RD : Hid (∀ w', Below (w.alloc (.cells #[.slice aW ts.length cW, .slice aP ps.length cP] 33)).heap.size (w.alloc (.cells #[.slice aW ts.length cW, .slice aP ps.length cP] 33)) w' → RdMd w' (.agg #[.slice aW ts.length cW, .slice aP ps.length cP]) ts ps) := fun w' hb => HRD.out.below (below_trans BW.out hb (by omega))
  have FB : Hid (∀ w', Below (w.alloc (.cells #[.slice aW ts.length cW, .slice aP ps.length cP] 33)).heap.size (w.alloc (.cells #[.slice aW ts.length cW, .slice aP ps.length cP] 33)) w' → Below w.heap.size w w') := fun w' hb => below_trans BW.out hb (by omega)
  clear h1 h2
  have IC0 := hideIt (fun (hw : ts.length ≤ 1048576) (hp : ps.length ≤ 1048576) v w1 (hb : Below w.heap.size w w1) h => implModelOK_any v ts ps w1 h hw hp hs (hT.below hb) (hE.below hb) (hF.below hb))
  have SC0 := hideIt (fun (hw : ts.length ≤ 1048576) (hp : ps.length ≤ 1048576) v w1 h => specModelOK_any v ts ps w1 h hw hp hs)
  generalize modB ts ps = ans at *
  clear hs hT hE hF hgl
  have B_0 : Hid (Below (w.alloc (.cells #[.slice aW ts.length cW, .slice aP ps.length cP] 33)).heap.size (w.alloc (.cells #[.slice aW ts.length cW, .slice aP ps.length cP] 33)) (w.alloc (.cells #[.slice aW ts.length cW, .slice aP ps.length cP] 33))) := Below.refl _ _
  go_enter Tryd.func4, Tryd.ntmps4
  obtain ⟨p0, p1⟩ := id (CA.out (w.alloc (.cells #[.slice aW ts.length cW, .slice aP ps.length cP] 33)) B_0.out)
  go_wp2_with fail
  refine (SZ.out (w.alloc (.cells #[.slice aW ts.length cW, .slice aP ps.length cP] 33)) (FB.out _ B_0.out)).mono ?_
  rintro e w1 ⟨r, rfl, hq, hq1, hb1⟩
  have hz1 : (w.alloc (.cells #[.slice aW ts.length cW, .slice aP ps.length cP] 33)).heap.size ≤ w1.heap.size := hb1.size
  have B_1 := hideIt (below_trans B_0.out hb1 (by omega))
  have HQ := hideIt hq
  clear B_0 SZ hq
  clear hb1
  by_cases c0 : r < 0
  · have BF := hideIt (FB.out _ B_1.out)
    clear p0 p1 IC0 SC0 HQ
    go_wp2
    go_ret
    exact ⟨rfl, BF.out⟩
  have hq2 := HQ.out (by omega)
  have hw : ts.length ≤ 1048576 := by omega
  have hp : ps.length ≤ 1048576 := by omega
  have HG : Hid (∀ k (hk : k < ts.length), ts[k].pages.length ≤ 1048576) := fun k hk => by
    have := totT_le hk
    omega
  have HG2 : Hid (∀ k (hk : k < ts.length), ts[k].pages.length ≤ 2147483648) := fun k hk => Nat.le_trans (HG.out k hk) (by decide)
  have IC := hideIt (IC0.out hw hp)
  have SC := hideIt (SC0.out hw hp)
  clear IC0 SC0 hq2 HQ hq1
  clear p0 p1
  obtain ⟨p0, p1⟩ := id (CA.out w1 B_1.out)
  go_wp2_with fail
  refine (toModel_any _ ts ps w1 (RD.out w1 B_1.out) hw HG.out hp).mono ?_
  rintro e w2 ⟨v2, rfl, hr2, hb2⟩
  have hz2 : w1.heap.size ≤ w2.heap.size := hb2.size
  have B_2 := hideIt (below_trans B_1.out hb2 (by omega))
  clear B_1
  obtain ⟨vW2, vP2, rfl, hI2, hS2⟩ := hr2.rd
  obtain ⟨aW2, cW2, rfl⟩ := hI2.form
  obtain ⟨aP2, cP2, rfl, _⟩ := hS2.shape
  clear hI2 hS2
  have RA_2 := hideIt hr2
  clear hb2 hr2
  clear p0 p1
  go_wp2_with fail
  refine (SC.out _ w2 RA_2.out.rd).mono ?_
  rintro e w3 ⟨rfl, hb3⟩
  have hz3 : w2.heap.size ≤ w3.heap.size := hb3.size
  have B_3 := hideIt (below_trans B_2.out hb3 (by omega))
  have RA_3 := hideIt (RA_2.out.below hb3 (by omega))
  clear B_2 RA_2
  clear hb3
  clear RA_3
  obtain ⟨p0, p1⟩ := id (CA.out w3 B_3.out)
  go_wp2_with fail
  refine (toModel_any _ ts ps w3 (RD.out w3 B_3.out) hw HG.out hp).mono ?_
  rintro e w4 ⟨v4, rfl, hr4, hb4⟩
  have hz4 : w3.heap.size ≤ w4.heap.size := hb4.size
  have B_4 := hideIt (below_trans B_3.out hb4 (by omega))
  clear B_3
  obtain ⟨vW4, vP4, rfl, hI4, hS4⟩ := hr4.rd
  obtain ⟨aW4, cW4, rfl⟩ := hI4.form
  obtain ⟨aP4, cP4, rfl, _⟩ := hS4.shape
  clear hI4 hS4
  have RX_4 := hideIt hr4
  clear hb4 hr4
  clear p0 p1
  obtain ⟨w5, hA5⟩ : ∃ w5 : World, w5 = w4.alloc (.cells #[.slice aW4 ts.length cW4, .slice aP4 ps.length cP4] 25) := ⟨_, rfl⟩
  have hb5 : Below w4.heap.size w4 w5 := by rw [hA5]; exact (Below.refl _ _).alloc (Nat.le_refl _) _
  have VX_5 : Hid (w5.heap[w4.heap.size]? = some (.cells #[.slice aW4 ts.length cW4, .slice aP4 ps.length cP4] 25 (0, 0))) := by rw [hA5]; exact at_new rfl
  have hl5 : w4.heap.size < w5.heap.size := (Array.getElem?_eq_some_iff.1 VX_5.out).1
  have hz5 : w4.heap.size ≤ w5.heap.size := hb5.size
  have B_5 := hideIt (below_trans B_4.out hb5 (by omega))
  have RX_5 := hideIt (RX_4.out.below hb5 (by omega))
  clear B_4 hb5 RX_4
  go_wp2_with fail
  rw [← hA5]
  clear hA5
  refine (IC.out _ w5 (FB.out _ B_5.out) RX_5.out.rd).mono ?_
  rintro e w6 ⟨rfl, hb6⟩
  have hz6 : w5.heap.size ≤ w6.heap.size := hb6.size
  have B_6 := hideIt (below_trans B_5.out hb6 (by omega))
  have RX_6 := hideIt (RX_5.out.below hb6 (by omega))
  have VX_6 := hideIt ((hb6.block _ (by omega)).trans VX_5.out)
  clear B_5 RX_5 VX_5
  clear hb6
  obtain ⟨y0, y1, _, _⟩ := two_cells VX_6.out
  obtain ⟨p0, p1⟩ := CA.out w6 B_6.out
  have SK : Hid (∀ w', Below w6.heap.size w6 w' → (w'.cell? ⟨w4.heap.size, 0, none⟩ = some (.slice aW4 ts.length cW4) ∧ w'.cell? ⟨w4.heap.size, 1, none⟩ = some (.slice aP4 ps.length cP4)) ∧ w'.cell? ⟨w.heap.size, 0, none⟩ = some (.slice aW ts.length cW) ∧ w'.cell? ⟨w.heap.size, 1, none⟩ = some (.slice aP ps.length cP)) := fun w' hb => ⟨by obtain ⟨a, b, _, _⟩ := two_cells ((hb.block _ (by omega)).trans VX_6.out); exact ⟨a, b⟩, CA.out w' (below_trans B_6.out hb (by omega))⟩
  go_wp2_with fail
  go_region_held3 (fun w' => (w'.cell? ⟨w4.heap.size, 0, none⟩ = some (.slice aW4 ts.length cW4) ∧ w'.cell? ⟨w4.heap.size, 1, none⟩ = some (.slice aP4 ps.length cP4)) ∧ w'.cell? ⟨w.heap.size, 0, none⟩ = some (.slice aW ts.length cW) ∧ w'.cell? ⟨w.heap.size, 1, none⟩ = some (.slice aP ps.length cP))
    (exact SK.out _ (by repeat (first | exact BE.out | exact BF.out | exact Below.refl _ _ | refine Below.drew ?_)))
    (first
      | (go_at_call 12; refine (toModel_any _ ts ps _ (RD.out _ (below_trans B_6.out (by repeat (first | exact Below.refl _ _ | refine Below.drew ?_)) (by omega))) hw HG.out hp).mono ?_; rintro e wt ⟨vt, rfl, hrt, hbt⟩; have BF : Hid (Below w6.heap.size w6 wt) := (by first | exact hbt | exact below_trans (by repeat (first | exact Below.refl _ _ | refine Below.drew ?_)) hbt (Nat.le_refl _)); obtain ⟨vWt, vPt, rfl, hIt, hSt⟩ := hrt.rd; obtain ⟨aWt, cWt, rfl⟩ := hIt.form; obtain ⟨aPt, cPt, rfl, _⟩ := hSt.shape; have RT := hideIt hrt.rd; clear hIt hSt hrt hbt)
      | (go_at_call 7; refine (eqModel_same _ _ ts ps _ (RX_6.out.rd.below (below_trans BF.out (by repeat (first | exact Below.refl _ _ | refine Below.drew ?_)) BF.out.size)) (RT.out.below (by repeat (first | exact Below.refl _ _ | refine Below.drew ?_))) (by omega) HG2.out (by omega)).mono ?_; rintro e wu ⟨rfl, hbu⟩; have BE : Hid (Below w6.heap.size w6 wu) := below_trans BF.out (by first | exact hbu | exact below_trans (by repeat (first | exact Below.refl _ _ | refine Below.drew ?_)) hbu (Nat.le_refl _)) BF.out.size; clear hbu))
  all_goals
    have B9 := hideIt (FB.out _ (below_trans B_6.out BE.out (by omega)))
    clear SK y0 y1 p0 p1
    go_wp2
    go_ret
    exact ⟨rfl, (by repeat (first | exact B9.out | refine Below.drew ?_))⟩
end Go.Proofs.YtihmihkhkmadmaaDoor
