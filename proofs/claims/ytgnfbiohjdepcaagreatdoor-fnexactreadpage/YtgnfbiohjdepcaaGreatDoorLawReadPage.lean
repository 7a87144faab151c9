/- The law of ReadPage: the walk. -/
import Derived.Test.YtgnfbiohjdepcaaGreatDoorZBM
import Derived.Test.YtgnfbiohjdepcaaGreatDoorDev
namespace Go.Proofs.YtgnfbiohjdepcaaGreatDoor
open Go.RowKit
set_option maxRecDepth 100000 in
set_option maxHeartbeats 8000000 in
theorem readPage_law (v : Value) (ws : List Int) (ps : List St) (es : List Int) (qs : List Se) (s : ByteArray) (page : Int) (w : World) (h : RdDev w v ws ps es qs) (hwl : ws.length ≤ maxLen) (hpl : ps.length ≤ maxLen) (hel : es.length ≤ maxLen) (hql : qs.length ≤ maxLen) (hT : TS w) (hE : ED w) (hF : FD w) (hN : NW w) :
    Calls Tryz.prog 3 #[v, .string s, .int .i64 page] w fun e w' => e = .returned (.bool true) ∧ Below w.heap.size w w' := by
  have HRD := hideIt h
  obtain ⟨aW, cW, aP, cP, aS, cS, aQ, cQ, rfl, -, -⟩ := h.form
  have CA : Hid (∀ w', Below (w.alloc (.cells #[.slice aW ws.length cW, .slice aP ps.length cP, .slice aS es.length cS, .slice aQ qs.length cQ] 30)).heap.size (w.alloc (.cells #[.slice aW ws.length cW, .slice aP ps.length cP, .slice aS es.length cS, .slice aQ qs.length cQ] 30)) w' → w'.cell? ⟨w.heap.size, 0, none⟩ = some (.slice aW ws.length cW) ∧ w'.cell? ⟨w.heap.size, 1, none⟩ = some (.slice aP ps.length cP) ∧ w'.cell? ⟨w.heap.size, 2, none⟩ = some (.slice aS es.length cS) ∧ w'.cell? ⟨w.heap.size, 3, none⟩ = some (.slice aQ qs.length cQ)) := fun w' hb => by
    have : w'.heap[w.heap.size]? = some (.cells #[.slice aW ws.length cW, .slice aP ps.length cP, .slice aS es.length cS, .slice aQ qs.length cQ] 30 (0, 0)) := (hb.block _ (by simp)).trans (at_new rfl)
    obtain ⟨x0, x1, x2, x3, -, -, -, -⟩ := four_cells this
    exact ⟨x0, x1, x2, x3⟩
  have BW : Hid (Below w.heap.size w (w.alloc (.cells #[.slice aW ws.length cW, .slice aP ps.length cP, .slice aS es.length cS, .slice aQ qs.length cQ] 30))) := (Below.refl _ _).alloc (Nat.le_refl _) _
  have hWz : w.heap.size < (w.alloc (.cells #[.slice aW ws.length cW, .slice aP ps.length cP, .slice aS es.length cS, .slice aQ qs.length cQ] 30)).heap.size := by simp
  have RD : Hid (∀ w', Below (w.alloc (.cells #[.slice aW ws.length cW, .slice aP ps.length cP, .slice aS es.length cS, .slice aQ qs.length cQ] 30)).heap.size (w.alloc (.cells #[.slice aW ws.length cW, .slice aP ps.length cP, .slice aS es.length cS, .slice aQ qs.length cQ] 30)) w' → RdDev w' (.agg #[.slice aW ws.length cW, .slice aP ps.length cP, .slice aS es.length cS, .slice aQ qs.length cQ]) ws ps es qs) := fun w' hb => HRD.out.below (below_trans BW.out hb (by omega))
  have FB : Hid (∀ w', Below (w.alloc (.cells #[.slice aW ws.length cW, .slice aP ps.length cP, .slice aS es.length cS, .slice aQ qs.length cQ] 30)).heap.size (w.alloc (.cells #[.slice aW ws.length cW, .slice aP ps.length cP, .slice aS es.length cS, .slice aQ qs.length cQ] 30)) w' → Below w.heap.size w w') := fun w' hb => below_trans BW.out hb (by omega)
  clear h
  by_cases cSs : (s.size : Int) > 1048576
  · clear hT hE hF hN
    go_enter Tryz.func3, Tryz.ntmps3
    go_wp2
    go_ret
    exact ⟨rfl, BW.out⟩
  by_cases c0 : 1048576 < ws.length + ps.length + es.length + qs.length
  · obtain ⟨p0, p1, p2, p3⟩ := CA.out _ (Below.refl _ _)
    clear hT hE hF hN
    go_enter Tryz.func3, Tryz.ntmps3
    go_wp2_with fail
    refine (szDevices_any aW aP aS aQ ws.length ps.length es.length qs.length cW cP cS cQ _ hwl hpl hel hql).mono ?_
    rw [if_pos c0]
    rintro e w1 ⟨rfl, hb1⟩
    have B1 := hideIt (below_trans BW.out hb1 BW.out.size)
    clear hb1 p0 p1 p2 p3
    go_wp2
    go_ret
    exact ⟨rfl, B1.out⟩
  have E := hideIt (show (if 1048576 < ws.length + ps.length + es.length + qs.length then -1 else 1048576 - ws.length - ps.length - es.length - qs.length : Int) = 1048576 - ws.length - ps.length - es.length - qs.length from if_neg c0)
  have hw : ws.length ≤ 1048576 := by omega
  have hp : ps.length ≤ 1048576 := by omega
  have he : es.length ≤ 1048576 := by omega
  have hq : qs.length ≤ 1048576 := by omega
  have IC := hideIt (fun v w1 (hb : Below w.heap.size w w1) h => implReadPage_any v ws ps es qs s page w1 h hw hp he hq (hT.below hb) (hE.below hb) (hF.below hb) (hN.below hb))
  have SC := hideIt (fun v w1 h => specReadPage_any v ws ps es qs s page w1 h hw hp he hq)
  generalize rpR ws ps es qs s page = R at *
  obtain ⟨a1, a2⟩ := R
  simp only at SC IC
  clear hT hE hF hN
  have B_0 : Hid (Below (w.alloc (.cells #[.slice aW ws.length cW, .slice aP ps.length cP, .slice aS es.length cS, .slice aQ qs.length cQ] 30)).heap.size (w.alloc (.cells #[.slice aW ws.length cW, .slice aP ps.length cP, .slice aS es.length cS, .slice aQ qs.length cQ] 30)) (w.alloc (.cells #[.slice aW ws.length cW, .slice aP ps.length cP, .slice aS es.length cS, .slice aQ qs.length cQ] 30))) := Below.refl _ _
  go_enter Tryz.func3, Tryz.ntmps3
  obtain ⟨p0, p1, p2, p3⟩ := id (CA.out (w.alloc (.cells #[.slice aW ws.length cW, .slice aP ps.length cP, .slice aS es.length cS, .slice aQ qs.length cQ] 30)) B_0.out)
  go_wp2_with fail
  refine (szDevices_any aW aP aS aQ ws.length ps.length es.length qs.length cW cP cS cQ (w.alloc (.cells #[.slice aW ws.length cW, .slice aP ps.length cP, .slice aS es.length cS, .slice aQ qs.length cQ] 30)) hwl hpl hel hql).mono ?_
  rw [E.out]
  rintro e w1 ⟨rfl, hb1⟩
  have hz1 : (w.alloc (.cells #[.slice aW ws.length cW, .slice aP ps.length cP, .slice aS es.length cS, .slice aQ qs.length cQ] 30)).heap.size ≤ w1.heap.size := hb1.size
  have B_1 := hideIt (below_trans B_0.out hb1 (by omega))
  clear B_0
  clear hb1
  clear p0 p1 p2 p3
  obtain ⟨p0, p1, p2, p3⟩ := id (CA.out w1 B_1.out)
  go_wp2_with fail
  refine (toDevices_any _ ws ps es qs w1 (RD.out w1 B_1.out) hw hp he hq).mono ?_
  rintro e w2 ⟨v2, rfl, hr2, hb2⟩
  have hz2 : w1.heap.size ≤ w2.heap.size := hb2.size
  have B_2 := hideIt (below_trans B_1.out hb2 (by omega))
  clear B_1
  obtain ⟨aW2, cW2, aP2, cP2, aS2, cS2, aQ2, cQ2, rfl, -, -⟩ := hr2.rd.form
  have RA_2 := hideIt hr2
  clear hb2 hr2
  clear p0 p1 p2 p3
  go_wp2_with fail
  refine (SC.out _ w2 RA_2.out.rd).mono ?_
  rintro e w3 ⟨rfl, hb3⟩
  have hz3 : w2.heap.size ≤ w3.heap.size := hb3.size
  have B_3 := hideIt (below_trans B_2.out hb3 (by omega))
  have RA_3 := hideIt (RA_2.out.below hb3 (by omega))
  clear B_2 RA_2
  clear hb3
  clear RA_3
  obtain ⟨p0, p1, p2, p3⟩ := id (CA.out w3 B_3.out)
  go_wp2_with fail
  refine (toDevices_any _ ws ps es qs w3 (RD.out w3 B_3.out) hw hp he hq).mono ?_
  rintro e w4 ⟨v4, rfl, hr4, hb4⟩
  have hz4 : w3.heap.size ≤ w4.heap.size := hb4.size
  have B_4 := hideIt (below_trans B_3.out hb4 (by omega))
  clear B_3
  obtain ⟨aW4, cW4, aP4, cP4, aS4, cS4, aQ4, cQ4, rfl, -, -⟩ := hr4.rd.form
  have RX_4 := hideIt hr4
  clear hb4 hr4
  clear p0 p1 p2 p3
  obtain ⟨w5, hA5⟩ : ∃ w5 : World, w5 = w4.alloc (.cells #[.slice aW4 ws.length cW4, .slice aP4 ps.length cP4, .slice aS4 es.length cS4, .slice aQ4 qs.length cQ4] 41) := ⟨_, rfl⟩
  have hb5 : Below w4.heap.size w4 w5 := by rw [hA5]; exact (Below.refl _ _).alloc (Nat.le_refl _) _
  have VX_5 : Hid (w5.heap[w4.heap.size]? = some (.cells #[.slice aW4 ws.length cW4, .slice aP4 ps.length cP4, .slice aS4 es.length cS4, .slice aQ4 qs.length cQ4] 41 (0, 0))) := by rw [hA5]; exact at_new rfl
  have hl5 : w4.heap.size < w5.heap.size := (Array.getElem?_eq_some_iff.1 VX_5.out).1
  have hz5 : w4.heap.size ≤ w5.heap.size := hb5.size
  have B_5 := hideIt (below_trans B_4.out hb5 (by omega))
  have RX_5 := hideIt (RX_4.out.below hb5 (by omega))
  clear B_4 hb5 RX_4
  obtain ⟨y0, y1, y2, y3, -, -, -, -⟩ := four_cells VX_5.out
  go_wp2_with fail
  rw [← hA5]
  clear hA5
  refine (IC.out _ w5 (FB.out _ B_5.out) RX_5.out.rd).mono ?_
  rintro e w6 ⟨rfl, hb6⟩
  have hz6 : w5.heap.size ≤ w6.heap.size := hb6.size
  have B_6 := hideIt (below_trans B_5.out hb6 (by omega))
  have RX_6 := hideIt (RX_5.out.below hb6 (by omega))
  have VX_6 := hideIt ((hb6.block _ (by omega)).trans VX_5.out)
  clear B_5 RX_5 VX_5
  clear hb6
  clear y0 y1 y2 y3
  obtain ⟨y0, y1, y2, y3, -, -, -, -⟩ := four_cells VX_6.out
  obtain ⟨p0, p1, p2, p3⟩ := CA.out w6 B_6.out
  have SK : Hid (∀ w', Below w6.heap.size w6 w' → (w'.cell? ⟨w4.heap.size, 0, none⟩ = some (.slice aW4 ws.length cW4) ∧ w'.cell? ⟨w4.heap.size, 1, none⟩ = some (.slice aP4 ps.length cP4) ∧ w'.cell? ⟨w4.heap.size, 2, none⟩ = some (.slice aS4 es.length cS4) ∧ w'.cell? ⟨w4.heap.size, 3, none⟩ = some (.slice aQ4 qs.length cQ4)) ∧ w'.cell? ⟨w.heap.size, 0, none⟩ = some (.slice aW ws.length cW) ∧ w'.cell? ⟨w.heap.size, 1, none⟩ = some (.slice aP ps.length cP) ∧ w'.cell? ⟨w.heap.size, 2, none⟩ = some (.slice aS es.length cS) ∧ w'.cell? ⟨w.heap.size, 3, none⟩ = some (.slice aQ qs.length cQ)) := fun w' hb => ⟨by obtain ⟨a, b, c, d, -, -, -, -⟩ := four_cells ((hb.block _ (by omega)).trans VX_6.out); exact ⟨a, b, c, d⟩, CA.out w' (below_trans B_6.out hb (by omega))⟩
  go_wp2_with fail
  go_region_held3 (fun w' => (w'.cell? ⟨w4.heap.size, 0, none⟩ = some (.slice aW4 ws.length cW4) ∧ w'.cell? ⟨w4.heap.size, 1, none⟩ = some (.slice aP4 ps.length cP4) ∧ w'.cell? ⟨w4.heap.size, 2, none⟩ = some (.slice aS4 es.length cS4) ∧ w'.cell? ⟨w4.heap.size, 3, none⟩ = some (.slice aQ4 qs.length cQ4)) ∧ w'.cell? ⟨w.heap.size, 0, none⟩ = some (.slice aW ws.length cW) ∧ w'.cell? ⟨w.heap.size, 1, none⟩ = some (.slice aP ps.length cP) ∧ w'.cell? ⟨w.heap.size, 2, none⟩ = some (.slice aS es.length cS) ∧ w'.cell? ⟨w.heap.size, 3, none⟩ = some (.slice aQ qs.length cQ))
    (exact SK.out _ (by repeat (first | exact BE.out | exact BF.out | exact Below.refl _ _ | refine Below.drew ?_)))
    (first
      | (go_at_call 8; refine (toDevices_any _ ws ps es qs _ (RD.out _ (below_trans B_6.out (by repeat (first | exact Below.refl _ _ | refine Below.drew ?_)) (by omega))) hw hp he hq).mono ?_; rintro e wt ⟨vt, rfl, hrt, hbt⟩; have BF : Hid (Below w6.heap.size w6 wt) := (by first | exact hbt | exact below_trans (by repeat (first | exact Below.refl _ _ | refine Below.drew ?_)) hbt (Nat.le_refl _)); obtain ⟨aWt, cWt, aPt, cPt, aSt, cSt, aQt, cQt, rfl, -, -⟩ := hrt.rd.form; have RT := hideIt hrt.rd; clear hrt hbt)
      | (go_at_call 10; refine (eqDevices_same _ _ ws ps es qs _ (RX_6.out.rd.below (below_trans BF.out (by repeat (first | exact Below.refl _ _ | refine Below.drew ?_)) BF.out.size)) (RT.out.below (by repeat (first | exact Below.refl _ _ | refine Below.drew ?_))) (by omega) (by omega) (by omega) (by omega)).mono ?_; rintro e wu ⟨rfl, hbu⟩; have BE : Hid (Below w6.heap.size w6 wu) := below_trans BF.out (by first | exact hbu | exact below_trans (by repeat (first | exact Below.refl _ _ | refine Below.drew ?_)) hbu (Nat.le_refl _)) BF.out.size; clear hbu))
  all_goals
    have B9 := hideIt (FB.out _ (below_trans B_6.out BE.out (by omega)))
    clear SK y0 y1 y2 y3 p0 p1 p2 p3
    go_wp2
    go_ret
    exact ⟨rfl, (by repeat (first | exact B9.out | refine Below.drew ?_))⟩
end Go.Proofs.YtgnfbiohjdepcaaGreatDoor
