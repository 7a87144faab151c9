/- The law of Parent: the walk. -/
import Derived.Test.YtpljkdbeekplbaaDoorZC
import Derived.Test.YtpljkdbeekplbaaDoorImR
namespace Go.Proofs.YtpljkdbeekplbaaDoor
open Go.RowKit

set_option maxRecDepth 100000 in
set_option maxHeartbeats 8000000 in
theorem parent_law (v : Value) (ws : List Ino) (ps : List Den) (s : ByteArray) (w : World) (h : RdIm w v ws ps) (hwl : ws.length ≤ maxLen) (hpl : ps.length ≤ maxLen) (hr : ∀ k (h : k < ws.length), ws[k].R) (hs : ∀ k (h : k < ps.length), ps[k].name.size ≤ maxLen) (hT : TS w) (hE : ED w) (hF : FD w) :
    Calls Tryd.prog 7 #[v, .string s] w fun e w' => e = .returned (.bool true) ∧ Below w.heap.size w w' := by
  have HRD := hideIt h
  obtain ⟨vW, vP, rfl, h1, h2⟩ := h
  obtain ⟨aW, cW, rfl, _, _⟩ := h1.shape
  have HP := hideIt h2
  obtain ⟨aP, cP, rfl, _, _⟩ := h2.shape
  have SZ := hideIt (fun w1 (hb : Below w.heap.size w w1) => szImage_any aW ws.length cW (.slice aP ps.length cP) ps w1 hwl (Rd.below HP.out hb) hpl hs)
  have CA : Hid (∀ w', Below (w.alloc (.cells #[.slice aW ws.length cW, .slice aP ps.length cP] 51)).heap.size (w.alloc (.cells #[.slice aW ws.length cW, .slice aP ps.length cP] 51)) w' → w'.cell? ⟨w.heap.size, 0, none⟩ = some (.slice aW ws.length cW) ∧ w'.cell? ⟨w.heap.size, 1, none⟩ = some (.slice aP ps.length cP)) := fun w' hb => by
    have : w'.heap[w.heap.size]? = some (.cells #[.slice aW ws.length cW, .slice aP ps.length cP] 51 (0, 0)) := (hb.block _ (by simp)).trans (at_new rfl)
    exact ⟨(two_cells this).1, (two_cells this).2.1⟩
  have BW : Hid (Below w.heap.size w (w.alloc (.cells #[.slice aW ws.length cW, .slice aP ps.length cP] 51))) := (Below.refl _ _).alloc (Nat.le_refl _) _
  have hWz : w.heap.size < (w.alloc (.cells #[.slice aW ws.length cW, .slice aP ps.length cP] 51)).heap.size := by simp
  have RD : Hid (∀ w', Below (w.alloc (.cells #[.slice aW ws.length cW, .slice aP ps.length cP] 51)).heap.size (w.alloc (.cells #[.slice aW ws.length cW, .slice aP ps.length cP] 51)) w' → RdIm w' (.agg #[.slice aW ws.length cW, .slice aP ps.length cP]) ws ps) := fun w' hb => HRD.out.below (below_trans BW.out hb (by omega))
  have FB : Hid (∀ w', Below (w.alloc (.cells #[.slice aW ws.length cW, .slice aP ps.length cP] 51)).heap.size (w.alloc (.cells #[.slice aW ws.length cW, .slice aP ps.length cP] 51)) w' → Below w.heap.size w w') := fun w' hb => below_trans BW.out hb (by omega)
  clear h1 h2
  by_cases cS : (s.size : Int) > 1048576
  · clear hr hs hT hE hF
    go_enter Tryd.func7, Tryd.ntmps7
    go_wp2
    go_ret
    exact ⟨rfl, BW.out⟩
  by_cases c0 : roomI ws.length ps < 0
  · have E := hideIt c0
    obtain ⟨p0, p1⟩ := CA.out _ (Below.refl _ _)
    generalize roomI ws.length ps = r at *
    clear c0 hr hs hT hE hF
    have E1 := E.out
    go_enter Tryd.func7, Tryd.ntmps7
    go_wp2_with fail
    refine (SZ.out _ BW.out).mono ?_
    rintro e w1 ⟨rfl, hb1⟩
    have B1 := hideIt (below_trans BW.out hb1 BW.out.size)
    clear hb1 p0 p1
    go_wp2
    go_ret
    exact ⟨rfl, B1.out⟩
  obtain ⟨hw, hp⟩ := room_small c0
  have IC := hideIt (fun v w1 (hb : Below w.heap.size w w1) h => implParent_any v ws ps s w1 h hw hp (hT.below hb) (hE.below hb) (hF.below hb) hr hs)
  have SC := hideIt (fun v w1 h => specParent_any v ws ps s w1 h hw hp hr hs)
  generalize paR ws ps s = res at *
  generalize roomI ws.length ps = r at *
  clear hr hs hT hE hF
  have B_0 : Hid (Below (w.alloc (.cells #[.slice aW ws.length cW, .slice aP ps.length cP] 51)).heap.size (w.alloc (.cells #[.slice aW ws.length cW, .slice aP ps.length cP] 51)) (w.alloc (.cells #[.slice aW ws.length cW, .slice aP ps.length cP] 51))) := Below.refl _ _
  go_enter Tryd.func7, Tryd.ntmps7
  obtain ⟨p0, p1⟩ := id (CA.out (w.alloc (.cells #[.slice aW ws.length cW, .slice aP ps.length cP] 51)) B_0.out)
  go_wp2_with fail
  refine (SZ.out (w.alloc (.cells #[.slice aW ws.length cW, .slice aP ps.length cP] 51)) (FB.out _ B_0.out)).mono ?_
  rintro e w1 ⟨rfl, hb1⟩
  have hz1 : (w.alloc (.cells #[.slice aW ws.length cW, .slice aP ps.length cP] 51)).heap.size ≤ w1.heap.size := hb1.size
  have B_1 := hideIt (below_trans B_0.out hb1 (by omega))
  clear B_0
  clear hb1
  clear p0 p1
  obtain ⟨p0, p1⟩ := id (CA.out w1 B_1.out)
  go_wp2_with fail
  refine (toImage_any _ ws ps w1 (RD.out w1 B_1.out) hw hp).mono ?_
  rintro e w2 ⟨v2, rfl, hr2, hb2⟩
  have hz2 : w1.heap.size ≤ w2.heap.size := hb2.size
  have B_2 := hideIt (below_trans B_1.out hb2 (by omega))
  clear B_1
  obtain ⟨vW2, vP2, rfl, hI2, hS2⟩ := hr2.rd
  obtain ⟨aW2, cW2, rfl, _⟩ := hI2.shape
  obtain ⟨aP2, cP2, rfl, _⟩ := hS2.shape
  clear hI2 hS2
  have RA_2 := hideIt hr2
  clear hb2 hr2
  clear p0 p1
  go_wp2_with fail
  refine (SC.out _ w2 RA_2.out.rd).mono ?_
  rintro e w3 ⟨rfl, hb3⟩
  have hz3 : w2.heap.size ≤ w3.heap.size := hb3.size
  have B_3 := hideIt (below_trans B_2.out hb3 (by omega))
  have RA_3 := hideIt (RA_2.out.below hb3 (by omega))
  clear B_2 RA_2
  clear hb3
  clear RA_3
  obtain ⟨p0, p1⟩ := id (CA.out w3 B_3.out)
  go_wp2_with fail
  refine (toImage_any _ ws ps w3 (RD.out w3 B_3.out) hw hp).mono ?_
  rintro e w4 ⟨v4, rfl, hr4, hb4⟩
  have hz4 : w3.heap.size ≤ w4.heap.size := hb4.size
  have B_4 := hideIt (below_trans B_3.out hb4 (by omega))
  clear B_3
  obtain ⟨vW4, vP4, rfl, hI4, hS4⟩ := hr4.rd
  obtain ⟨aW4, cW4, rfl, _⟩ := hI4.shape
  obtain ⟨aP4, cP4, rfl, _⟩ := hS4.shape
  clear hI4 hS4
  have RX_4 := hideIt hr4
  clear hb4 hr4
  clear p0 p1
  obtain ⟨w5, hA5⟩ : ∃ w5 : World, w5 = w4.alloc (.cells #[.slice aW4 ws.length cW4, .slice aP4 ps.length cP4] 30) := ⟨_, rfl⟩
  have hb5 : Below w4.heap.size w4 w5 := by rw [hA5]; exact (Below.refl _ _).alloc (Nat.le_refl _) _
  have VX_5 : Hid (w5.heap[w4.heap.size]? = some (.cells #[.slice aW4 ws.length cW4, .slice aP4 ps.length cP4] 30 (0, 0))) := by rw [hA5]; exact at_new rfl
  have hl5 : w4.heap.size < w5.heap.size := (Array.getElem?_eq_some_iff.1 VX_5.out).1
  have hz5 : w4.heap.size ≤ w5.heap.size := hb5.size
  have B_5 := hideIt (below_trans B_4.out hb5 (by omega))
  have RX_5 := hideIt (RX_4.out.below hb5 (by omega))
  clear B_4 hb5 RX_4
  go_wp2_with fail
  rw [← hA5]
  clear hA5
  refine (IC.out _ w5 (FB.out _ B_5.out) RX_5.out.rd).mono ?_
  rintro e w6 ⟨rfl, hb6⟩
  have hz6 : w5.heap.size ≤ w6.heap.size := hb6.size
  have B_6 := hideIt (below_trans B_5.out hb6 (by omega))
  have RX_6 := hideIt (RX_5.out.below hb6 (by omega))
  have VX_6 := hideIt ((hb6.block _ (by omega)).trans VX_5.out)
  clear B_5 RX_5 VX_5
  clear hb6
  obtain ⟨y0, y1, _, _⟩ := two_cells VX_6.out
  obtain ⟨p0, p1⟩ := CA.out w6 B_6.out
  have SK : Hid (∀ w', Below w6.heap.size w6 w' → (w'.cell? ⟨w4.heap.size, 0, none⟩ = some (.slice aW4 ws.length cW4) ∧ w'.cell? ⟨w4.heap.size, 1, none⟩ = some (.slice aP4 ps.length cP4)) ∧ w'.cell? ⟨w.heap.size, 0, none⟩ = some (.slice aW ws.length cW) ∧ w'.cell? ⟨w.heap.size, 1, none⟩ = some (.slice aP ps.length cP)) := fun w' hb => ⟨by obtain ⟨a, b, _, _⟩ := two_cells ((hb.block _ (by omega)).trans VX_6.out); exact ⟨a, b⟩, CA.out w' (below_trans B_6.out hb (by omega))⟩
  go_wp2_with fail
  go_region_held3 (fun w' => (w'.cell? ⟨w4.heap.size, 0, none⟩ = some (.slice aW4 ws.length cW4) ∧ w'.cell? ⟨w4.heap.size, 1, none⟩ = some (.slice aP4 ps.length cP4)) ∧ w'.cell? ⟨w.heap.size, 0, none⟩ = some (.slice aW ws.length cW) ∧ w'.cell? ⟨w.heap.size, 1, none⟩ = some (.slice aP ps.length cP))
    (exact SK.out _ (by repeat (first | exact BE.out | exact BF.out | exact Below.refl _ _ | refine Below.drew ?_)))
    (first
      | (go_at_call 28; refine (toImage_any _ ws ps _ (RD.out _ (below_trans B_6.out (by repeat (first | exact Below.refl _ _ | refine Below.drew ?_)) (by omega))) hw hp).mono ?_; rintro e wt ⟨vt, rfl, hrt, hbt⟩; have BF : Hid (Below w6.heap.size w6 wt) := (by first | exact hbt | exact below_trans (by repeat (first | exact Below.refl _ _ | refine Below.drew ?_)) hbt (Nat.le_refl _)); obtain ⟨vWt, vPt, rfl, hIt, hSt⟩ := hrt.rd; obtain ⟨aWt, cWt, rfl, _⟩ := hIt.shape; obtain ⟨aPt, cPt, rfl, _⟩ := hSt.shape; have RT := hideIt hrt.rd; clear hIt hSt hrt hbt)
      | (go_at_call 14; refine (eqImage_same _ _ ws ps _ (RX_6.out.rd.below (below_trans BF.out (by repeat (first | exact Below.refl _ _ | refine Below.drew ?_)) BF.out.size)) (RT.out.below (by repeat (first | exact Below.refl _ _ | refine Below.drew ?_))) (by omega) (by omega)).mono ?_; rintro e wu ⟨rfl, hbu⟩; have BE : Hid (Below w6.heap.size w6 wu) := below_trans BF.out (by first | exact hbu | exact below_trans (by repeat (first | exact Below.refl _ _ | refine Below.drew ?_)) hbu (Nat.le_refl _)) BF.out.size; clear hbu))
  all_goals
    have B9 := hideIt (FB.out _ (below_trans B_6.out BE.out (by omega)))
    clear SK y0 y1 p0 p1
    go_wp2
    go_ret
    exact ⟨rfl, (by repeat (first | exact B9.out | refine Below.drew ?_))⟩
end Go.Proofs.YtpljkdbeekplbaaDoor
