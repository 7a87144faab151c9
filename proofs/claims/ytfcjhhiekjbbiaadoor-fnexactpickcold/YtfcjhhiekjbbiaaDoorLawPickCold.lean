/- The law of PickCold: the walk. -/
import Derived.Test.YtfcjhhiekjbbiaaDoorTrL
import Derived.Test.YtfcjhhiekjbbiaaDoorImR
import Derived.Test.YtfcjhhiekjbbiaaDoorZAB
namespace Go.Proofs.YtfcjhhiekjbbiaaDoor
open Go.RowKit

set_option maxRecDepth 100000 in
set_option maxHeartbeats 8000000 in
theorem pickCold_law (v : Value) (ws : List Ino) (ps : List Den) (vh : Value) (zs : List Int) (w : World) (h : RdIm w v ws ps) (hh : RdI w vh zs) (hwl : ws.length ≤ maxLen) (hpl : ps.length ≤ maxLen) (hr : ∀ k (h : k < ws.length), ws[k].R) (hs : ∀ k (h : k < ps.length), ps[k].name.size ≤ maxLen) (hT : TS w) (hE : ED w) (hF : FD w) :
    Calls Tryd.prog 3 #[v, vh] w fun e w' => e = .returned (.bool true) ∧ Below w.heap.size w w' := by
  have HRD := hideIt h
  obtain ⟨vW, vP, rfl, h1, h2⟩ := h
  obtain ⟨aW, cW, rfl, _, _⟩ := h1.shape
  have HP := hideIt h2
  obtain ⟨aP, cP, rfl, _, _⟩ := h2.shape
  have SZ := hideIt (fun w1 (hb : Below w.heap.size w w1) => szImage_any aW ws.length cW (.slice aP ps.length cP) ps w1 hwl (Rd.below HP.out hb) hpl hs)
  have CA : Hid (∀ w', Below (w.alloc (.cells #[.slice aW ws.length cW, .slice aP ps.length cP] 25)).heap.size (w.alloc (.cells #[.slice aW ws.length cW, .slice aP ps.length cP] 25)) w' → w'.cell? ⟨w.heap.size, 0, none⟩ = some (.slice aW ws.length cW) ∧ w'.cell? ⟨w.heap.size, 1, none⟩ = some (.slice aP ps.length cP)) := fun w' hb => by
    have : w'.heap[w.heap.size]? = some (.cells #[.slice aW ws.length cW, .slice aP ps.length cP] 25 (0, 0)) := (hb.block _ (by simp)).trans (at_new rfl)
    exact ⟨(two_cells this).1, (two_cells this).2.1⟩
  have BW : Hid (Below w.heap.size w (w.alloc (.cells #[.slice aW ws.length cW, .slice aP ps.length cP] 25))) := (Below.refl _ _).alloc (Nat.le_refl _) _
  have hWz : w.heap.size < (w.alloc (.cells #[.slice aW ws.length cW, .slice aP ps.length cP] 25)).heap.size := by simp
  have RD : Hid (∀ w', Below (w.alloc (.cells #[.slice aW ws.length cW, .slice aP ps.length cP] 25)).heap.size (w.alloc (.cells #[.slice aW ws.length cW, .slice aP ps.length cP] 25)) w' → RdIm w' (.agg #[.slice aW ws.length cW, .slice aP ps.length cP]) ws ps) := fun w' hb => HRD.out.below (below_trans BW.out hb (by omega))
  have FB : Hid (∀ w', Below (w.alloc (.cells #[.slice aW ws.length cW, .slice aP ps.length cP] 25)).heap.size (w.alloc (.cells #[.slice aW ws.length cW, .slice aP ps.length cP] 25)) w' → Below w.heap.size w w') := fun w' hb => below_trans BW.out hb (by omega)
  obtain ⟨aZ, cZ, rfl, _, _⟩ := hh.shape
  have HZ : Hid (∀ w', Below (w.alloc (.cells #[.slice aW ws.length cW, .slice aP ps.length cP] 25)).heap.size (w.alloc (.cells #[.slice aW ws.length cW, .slice aP ps.length cP] 25)) w' → RdI w' (.slice aZ zs.length cZ) zs) := fun w' hb => Rd.below hh (below_trans BW.out hb (by omega))
  clear h1 h2 hh
  by_cases c9 : 1048576 < zs.length
  · have c8 : (zs.length : Int) > 1048576 := by omega
    clear c9 hr hs hT hE hF
    go_enter Tryd.func3, Tryd.ntmps3
    go_wp2
    go_ret
    exact ⟨rfl, BW.out⟩
  have hzs : zs.length ≤ 1048576 := by omega
  have c8 : ¬ (zs.length : Int) > 1048576 := by omega
  clear c9
  by_cases c0 : roomI ws.length ps < 0
  · have E := hideIt c0
    obtain ⟨p0, p1⟩ := CA.out _ (Below.refl _ _)
    generalize roomI ws.length ps = r at *
    clear c0 hr hs hT hE hF
    have E1 := E.out
    go_enter Tryd.func3, Tryd.ntmps3
    go_wp2_with fail
    refine (SZ.out _ BW.out).mono ?_
    rintro e w1 ⟨rfl, hb1⟩
    have B1 := hideIt (below_trans BW.out hb1 BW.out.size)
    clear hb1 p0 p1
    go_wp2
    go_ret
    exact ⟨rfl, B1.out⟩
  obtain ⟨hw, hp⟩ := room_small c0
  have IC := hideIt (fun v vh w1 (hb : Below w.heap.size w w1) h hh => implPickCold_any v vh ws ps zs w1 h hw hp hr hs hh hzs (hT.below hb) (hE.below hb) (hF.below hb))
  have SC := hideIt (fun v vh w1 h hh => specPickCold_any v vh ws ps zs w1 h hw hp hr hs hh hzs)
  generalize pcR ws ps zs 1 false = ans at *
  obtain ⟨a1, a2, a3⟩ := ans
  simp only at IC SC
  generalize roomI ws.length ps = r at *
  clear hr hs hT hE hF
  have B_0 : Hid (Below (w.alloc (.cells #[.slice aW ws.length cW, .slice aP ps.length cP] 25)).heap.size (w.alloc (.cells #[.slice aW ws.length cW, .slice aP ps.length cP] 25)) (w.alloc (.cells #[.slice aW ws.length cW, .slice aP ps.length cP] 25))) := Below.refl _ _
  go_enter Tryd.func3, Tryd.ntmps3
  obtain ⟨p0, p1⟩ := id (CA.out (w.alloc (.cells #[.slice aW ws.length cW, .slice aP ps.length cP] 25)) B_0.out)
  go_wp2_with fail
  refine (SZ.out (w.alloc (.cells #[.slice aW ws.length cW, .slice aP ps.length cP] 25)) (FB.out _ B_0.out)).mono ?_
  rintro e w1 ⟨rfl, hb1⟩
  have hz1 : (w.alloc (.cells #[.slice aW ws.length cW, .slice aP ps.length cP] 25)).heap.size ≤ w1.heap.size := hb1.size
  have B_1 := hideIt (below_trans B_0.out hb1 (by omega))
  clear B_0
  clear hb1
  clear p0 p1
  obtain ⟨p0, p1⟩ := id (CA.out w1 B_1.out)
  go_wp2_with fail
  refine (toImage_any _ ws ps w1 (RD.out w1 B_1.out) hw hp).mono ?_
  rintro e w2 ⟨v2, rfl, hr2, hb2⟩
  have hz2 : w1.heap.size ≤ w2.heap.size := hb2.size
  have B_2 := hideIt (below_trans B_1.out hb2 (by omega))
  clear B_1
  obtain ⟨vW2, vP2, rfl, hI2, hS2⟩ := hr2.rd
  obtain ⟨aW2, cW2, rfl, _⟩ := hI2.shape
  obtain ⟨aP2, cP2, rfl, _⟩ := hS2.shape
  clear hI2 hS2
  have RA_2 := hideIt hr2
  clear hb2 hr2
  clear p0 p1
  go_wp2_with fail
  refine (toIntS_any _ zs w2 (HZ.out w2 B_2.out) hzs).mono ?_
  rintro e w3 ⟨v3, rfl, hr3, hb3⟩
  have hz3 : w2.heap.size ≤ w3.heap.size := hb3.size
  have B_3 := hideIt (below_trans B_2.out hb3 (by omega))
  have RA_3 := hideIt (RA_2.out.below hb3 (by omega))
  clear B_2 RA_2
  obtain ⟨aZ3, cZ3, rfl⟩ := RdI.form hr3.rd rfl
  have RI_3 := hideIt hr3
  clear hb3 hr3
  go_wp2_with fail
  refine (SC.out _ _ w3 RA_3.out.rd RI_3.out.rd).mono ?_
  rintro e w4 ⟨rfl, hb4⟩
  have hz4 : w3.heap.size ≤ w4.heap.size := hb4.size
  have B_4 := hideIt (below_trans B_3.out hb4 (by omega))
  have RA_4 := hideIt (RA_3.out.below hb4 (by omega))
  have RI_4 := hideIt (RI_3.out.below hb4 (by omega))
  clear B_3 RA_3 RI_3
  clear hb4
  clear RA_4 RI_4
  obtain ⟨p0, p1⟩ := id (CA.out w4 B_4.out)
  go_wp2_with fail
  refine (toImage_any _ ws ps w4 (RD.out w4 B_4.out) hw hp).mono ?_
  rintro e w5 ⟨v5, rfl, hr5, hb5⟩
  have hz5 : w4.heap.size ≤ w5.heap.size := hb5.size
  have B_5 := hideIt (below_trans B_4.out hb5 (by omega))
  clear B_4
  obtain ⟨vW5, vP5, rfl, hI5, hS5⟩ := hr5.rd
  obtain ⟨aW5, cW5, rfl, _⟩ := hI5.shape
  obtain ⟨aP5, cP5, rfl, _⟩ := hS5.shape
  clear hI5 hS5
  have RX_5 := hideIt hr5
  clear hb5 hr5
  clear p0 p1
  obtain ⟨w6, hA6⟩ : ∃ w6 : World, w6 = w5.alloc (.cells #[.slice aW5 ws.length cW5, .slice aP5 ps.length cP5] 33) := ⟨_, rfl⟩
  have hb6 : Below w5.heap.size w5 w6 := by rw [hA6]; exact (Below.refl _ _).alloc (Nat.le_refl _) _
  have VX_6 : Hid (w6.heap[w5.heap.size]? = some (.cells #[.slice aW5 ws.length cW5, .slice aP5 ps.length cP5] 33 (0, 0))) := by rw [hA6]; exact at_new rfl
  have hl6 : w5.heap.size < w6.heap.size := (Array.getElem?_eq_some_iff.1 VX_6.out).1
  have hz6 : w5.heap.size ≤ w6.heap.size := hb6.size
  have B_6 := hideIt (below_trans B_5.out hb6 (by omega))
  have RX_6 := hideIt (RX_5.out.below hb6 (by omega))
  clear B_5 hb6 RX_5
  go_wp2_with fail
  rw [← hA6]
  clear hA6
  refine (toIntS_any _ zs w6 (HZ.out w6 B_6.out) hzs).mono ?_
  rintro e w7 ⟨v7, rfl, hr7, hb7⟩
  have hz7 : w6.heap.size ≤ w7.heap.size := hb7.size
  have B_7 := hideIt (below_trans B_6.out hb7 (by omega))
  have RX_7 := hideIt (RX_6.out.below hb7 (by omega))
  have VX_7 := hideIt ((hb7.block _ (by omega)).trans VX_6.out)
  clear B_6 RX_6 VX_6
  obtain ⟨aZ7, cZ7, rfl⟩ := RdI.form hr7.rd rfl
  have RZ_7 := hideIt hr7
  clear hb7 hr7
  obtain ⟨y0, y1, _, _⟩ := two_cells VX_7.out
  go_wp2_with fail
  refine (IC.out _ _ w7 (FB.out _ B_7.out) RX_7.out.rd RZ_7.out.rd).mono ?_
  rintro e w8 ⟨rfl, hb8⟩
  have hz8 : w7.heap.size ≤ w8.heap.size := hb8.size
  have B_8 := hideIt (below_trans B_7.out hb8 (by omega))
  have RX_8 := hideIt (RX_7.out.below hb8 (by omega))
  have RZ_8 := hideIt (RZ_7.out.below hb8 (by omega))
  have VX_8 := hideIt ((hb8.block _ (by omega)).trans VX_7.out)
  clear B_7 RX_7 RZ_7 VX_7
  clear hb8
  clear y0 y1
  obtain ⟨y0, y1, _, _⟩ := two_cells VX_8.out
  obtain ⟨p0, p1⟩ := CA.out w8 B_8.out
  have SK : Hid (∀ w', Below w8.heap.size w8 w' → (w'.cell? ⟨w5.heap.size, 0, none⟩ = some (.slice aW5 ws.length cW5) ∧ w'.cell? ⟨w5.heap.size, 1, none⟩ = some (.slice aP5 ps.length cP5)) ∧ w'.cell? ⟨w.heap.size, 0, none⟩ = some (.slice aW ws.length cW) ∧ w'.cell? ⟨w.heap.size, 1, none⟩ = some (.slice aP ps.length cP)) := fun w' hb => ⟨by obtain ⟨a, b, _, _⟩ := two_cells ((hb.block _ (by omega)).trans VX_8.out); exact ⟨a, b⟩, CA.out w' (below_trans B_8.out hb (by omega))⟩
  go_upto_region 13 with fail
  go_cut [59] (fun s wx => s = .bool false ∧ Below w8.heap.size w8 wx)
  case first =>
    go_region_held3 (fun w' => (w'.cell? ⟨w5.heap.size, 0, none⟩ = some (.slice aW5 ws.length cW5) ∧ w'.cell? ⟨w5.heap.size, 1, none⟩ = some (.slice aP5 ps.length cP5)) ∧ w'.cell? ⟨w.heap.size, 0, none⟩ = some (.slice aW ws.length cW) ∧ w'.cell? ⟨w.heap.size, 1, none⟩ = some (.slice aP ps.length cP))
      (exact SK.out _ (by repeat (first | exact BE.out | exact BF.out | exact Below.refl _ _ | refine Below.drew ?_)))
      (first
        | (go_at_call 7; refine (toImage_any _ ws ps _ (RD.out _ (below_trans B_8.out (by repeat (first | exact Below.refl _ _ | refine Below.drew ?_)) (by omega))) hw hp).mono ?_; rintro e wt ⟨vt, rfl, hrt, hbt⟩; have BF : Hid (Below w8.heap.size w8 wt) := (by first | exact hbt | exact below_trans (by repeat (first | exact Below.refl _ _ | refine Below.drew ?_)) hbt (Nat.le_refl _)); obtain ⟨vWt, vPt, rfl, hIt, hSt⟩ := hrt.rd; obtain ⟨aWt, cWt, rfl, _⟩ := hIt.shape; obtain ⟨aPt, cPt, rfl, _⟩ := hSt.shape; have RT := hideIt hrt.rd; clear hIt hSt hrt hbt)
        | (go_at_call 10; refine (eqImage_same _ _ ws ps _ (RX_8.out.rd.below (below_trans BF.out (by repeat (first | exact Below.refl _ _ | refine Below.drew ?_)) BF.out.size)) (RT.out.below (by repeat (first | exact Below.refl _ _ | refine Below.drew ?_))) (by omega) (by omega)).mono ?_; rintro e wu ⟨rfl, hbu⟩; have BE : Hid (Below w8.heap.size w8 wu) := below_trans BF.out (by first | exact hbu | exact below_trans (by repeat (first | exact Below.refl _ _ | refine Below.drew ?_)) hbu (Nat.le_refl _)) BF.out.size; clear hbu))
    all_goals
      go_wp2_with fail
      go_meet
      exact ⟨rfl, (by repeat (first | exact BE.out | refine Below.drew ?_))⟩
  case rest =>
  obtain ⟨rfl, hb9⟩ := hcut
  rename World => w9
  clear y0 y1 p0 p1 SK
  have hz9 : w8.heap.size ≤ w9.heap.size := hb9.size
  have B_9 := hideIt (below_trans B_8.out hb9 (by omega))
  have RX_9 := hideIt (RX_8.out.below hb9 (by omega))
  have RZ_9 := hideIt (RZ_8.out.below hb9 (by omega))
  have VX_9 := hideIt ((hb9.block _ (by omega)).trans VX_8.out)
  clear B_8 hb9 RX_8 RZ_8 VX_8
  go_wp2_with fail
  refine (toIntS_any _ zs w9 (HZ.out w9 B_9.out) hzs).mono ?_
  rintro e w10 ⟨v10, rfl, hr10, hb10⟩
  have hz10 : w9.heap.size ≤ w10.heap.size := hb10.size
  have B_10 := hideIt (below_trans B_9.out hb10 (by omega))
  have RX_10 := hideIt (RX_9.out.below hb10 (by omega))
  have RZ_10 := hideIt (RZ_9.out.below hb10 (by omega))
  have VX_10 := hideIt ((hb10.block _ (by omega)).trans VX_9.out)
  clear B_9 RX_9 RZ_9 VX_9
  obtain ⟨aZ10, cZ10, rfl⟩ := RdI.form hr10.rd rfl
  have RJ_10 := hideIt hr10
  clear hb10 hr10
  go_wp2_with fail
  refine (eqIntS_same _ _ zs w10 RZ_10.out.rd RJ_10.out.rd (by omega)).mono ?_
  rintro e w11 ⟨rfl, hb11⟩
  have hz11 : w10.heap.size ≤ w11.heap.size := hb11.size
  have B_11 := hideIt (below_trans B_10.out hb11 (by omega))
  have RX_11 := hideIt (RX_10.out.below hb11 (by omega))
  have RZ_11 := hideIt (RZ_10.out.below hb11 (by omega))
  have RJ_11 := hideIt (RJ_10.out.below hb11 (by omega))
  have VX_11 := hideIt ((hb11.block _ (by omega)).trans VX_10.out)
  clear B_10 RX_10 RZ_10 RJ_10 VX_10
  clear hb11
  go_wp2
  go_ret
  exact ⟨rfl, below_trans BW.out B_11.out (by omega)⟩
end Go.Proofs.YtfcjhhiekjbbiaaDoor
