/- The law of SureOf: the walk. -/
import Derived.Test.YtbjjdkemappelaaGreatDoorYB
import Derived.Deep.DeepCutAuto
import Derived.Deep.RegionHeld3
namespace Go.Proofs.YtbjjdkemappelaaGreatDoor
open Go.RowKit

set_option maxRecDepth 100000 in
set_option maxHeartbeats 16000000 in
theorem sureOf_law (v : Value) (ws : List Int) (ps : List St) (es : List Int) (qs : List Se) (hs : List Int) (td : List Mi) (cd vl : Int) (nm : List ByteArray) (fr : Bool) (w : World) (h : RdF w v ws ps es qs hs td cd vl nm fr) (hB : ws.length ≤ maxLen ∧ ps.length ≤ maxLen ∧ es.length ≤ maxLen ∧ qs.length ≤ maxLen ∧ hs.length ≤ maxLen ∧ td.length ≤ maxLen ∧ nm.length ≤ maxLen) (hz : ∀ k (hk : k < nm.length), nm[k].size ≤ maxLen) (hS : SB w) (hT : TS w) (hE : ED w) (hF : FD w) :
    Calls Tryz.prog 7 #[v] w fun e w' => e = .returned (.bool true) ∧ Below w.heap.size w w' := by
  obtain ⟨aW, cW, aP, cP, aS, cS, aQ, cQ, aH, cH, aT, cT, aN, cN, rfl, -, -, -, n1⟩ := id h
  obtain ⟨W, hW⟩ : ∃ W, W = (w.alloc (.cells #[.slice aW ws.length cW, .slice aP ps.length cP, .slice aS es.length cS, .slice aQ qs.length cQ, .slice aH hs.length cH, .slice aT td.length cT, .int .i64 cd, .int .i64 vl, .slice aN nm.length cN, .bool fr] 62)) := ⟨_, rfl⟩
  have BW : Hid (Below w.heap.size w W) := by rw [hW]; exact ((Below.refl _ _).alloc (Nat.le_refl _) _)
  have VA_0 : Hid (W.heap[w.heap.size]? = some (.cells #[.slice aW ws.length cW, .slice aP ps.length cP, .slice aS es.length cS, .slice aQ qs.length cQ, .slice aH hs.length cH, .slice aT td.length cT, .int .i64 cd, .int .i64 vl, .slice aN nm.length cN, .bool fr] 62 (0, 0))) := by rw [hW]; exact (at_new rfl)
  have ltA : w.heap.size < W.heap.size := lt_box VA_0.out
  have B_0 : Hid (Below W.heap.size W W) := Below.refl _ _
  have RDA : Hid (∀ w', Below W.heap.size W w' → RdF w' (.agg #[.slice aW ws.length cW, .slice aP ps.length cP, .slice aS es.length cS, .slice aQ qs.length cQ, .slice aH hs.length cH, .slice aT td.length cT, .int .i64 cd, .int .i64 vl, .slice aN nm.length cN, .bool fr]) ws ps es qs hs td cd vl nm fr) := fun w' hb => RdF.below h (below_trans BW.out hb BW.out.size)
  have FB : Hid (∀ w', Below W.heap.size W w' → Below w.heap.size w w') := fun w' hb => below_trans BW.out hb BW.out.size
  have SZ : Hid (∀ w1, Below W.heap.size W w1 → Calls Tryz.prog 27 #[.agg #[.slice aW ws.length cW, .slice aP ps.length cP, .slice aS es.length cS, .slice aQ qs.length cQ, .slice aH hs.length cH, .slice aT td.length cT, .int .i64 cd, .int .i64 vl, .slice aN nm.length cN, .bool fr], .int .i64 1048576] w1 fun e w' => ∃ r : Int, e = .returned (.int .i64 r) ∧ (0 ≤ r → (ws.length ≤ 1048576 ∧ ps.length ≤ 1048576 ∧ es.length ≤ 1048576 ∧ qs.length ≤ 1048576 ∧ hs.length ≤ 1048576 ∧ td.length ≤ 1048576 ∧ nm.length ≤ 1048576) ∧ r ≤ 1048576) ∧ -1 ≤ r ∧ Below w1.heap.size w1 w') := fun w1 hb => szFs_any aW aP aS aQ aH aT aN cW cP cS cQ cH cT cN ws ps es qs hs td cd vl nm fr w1 hB.1 hB.2.1 hB.2.2.1 hB.2.2.2.1 hB.2.2.2.2.1 hB.2.2.2.2.2.1 hB.2.2.2.2.2.2 (Rd.below n1 (below_trans BW.out hb BW.out.size)) hz
  clear hB hz n1
  go_enter Tryz.func7, Tryz.ntmps7
  go_upto_region 2 with fail
  rw [← hW]
  clear hW
  obtain ⟨a0, a1, a2, a3, a4, a5, a6, a7, a8, a9, -⟩ := ten_cells VA_0.out
  go_wp2_with fail
  refine (SZ.out W B_0.out).mono ?_
  rintro e w1 ⟨r, rfl, hr, hr1, hb⟩
  clear a0 a1 a2 a3 a4 a5 a6 a7 a8 a9
  have z1 : W.heap.size ≤ w1.heap.size := hb.size
  have B_1 := hideIt (below_trans B_0.out hb B_0.out.size)
  have VA_1 := hideIt (box_below VA_0.out hb (lt_box VA_0.out))
  clear B_0 VA_0 hb
  by_cases cr : r < 0
  · clear hS hT hE hF SZ RDA 
    go_wp2
    go_ret
    exact ⟨rfl, FB.out _ B_1.out⟩
  obtain ⟨⟨hws, hps, hes, hqs, hhs, htd, hnm⟩, hr2⟩ := hr (by omega)
  clear SZ hr hr1
  have SC := hideIt (fun v1 w1 (h1 : RdF w1 v1 ws ps es qs hs td cd vl nm fr) => specSureOf_any v1 ws ps es qs hs td cd vl nm fr w1 h1 hws hps hes hqs hhs htd hnm)
  have IC := hideIt (fun v1 w1 (hb : Below w.heap.size w w1) (h1 : RdF w1 v1 ws ps es qs hs td cd vl nm fr) => implSureOf_any v1 ws ps es qs hs td cd vl nm fr w1 h1 hws hps hes hqs hhs htd hnm (hS.below hb) (hT.below hb) (hE.below hb) (hF.below hb))
  generalize suB ws ps es qs hs td cd vl nm fr = sb at *
  generalize suC (fsB ws ps es qs hs td cd vl nm fr) = sc at *
  clear hS hT hE hF
  obtain ⟨a0, a1, a2, a3, a4, a5, a6, a7, a8, a9, -⟩ := ten_cells VA_1.out
  go_wp2_with fail
  refine (toFs_any _ ws ps es qs hs td cd vl nm fr w1 (RDA.out w1 B_1.out) hws hps hes hqs hhs htd hnm).mono ?_
  rintro e w2 ⟨v2, rfl, hr, hb⟩
  clear a0 a1 a2 a3 a4 a5 a6 a7 a8 a9
  have hq := hr.form
  obtain ⟨SaW, ScW, SaP, ScP, SaS, ScS, SaQ, ScQ, SaH, ScH, SaT, ScT, SaN, ScN, eq⟩ := hq
  subst eq
  have z2 : w1.heap.size ≤ w2.heap.size := hb.size
  have B_2 := hideIt (below_trans B_1.out hb B_1.out.size)
  have VA_2 := hideIt (box_below VA_1.out hb (lt_box VA_1.out))
  clear B_1 VA_1 hb
  have QS_2 : Hid (RowF w2 w1.heap.size w2.heap.size _ ws ps es qs hs td cd vl nm fr) := hr
  clear hr
  go_wp2_with fail
  refine (SC.out _ w2 QS_2.out.rd).mono ?_
  rintro e w3 ⟨rfl, hb⟩
  have z3 : w2.heap.size ≤ w3.heap.size := hb.size
  have B_3 := hideIt (below_trans B_2.out hb B_2.out.size)
  have VA_3 := hideIt (box_below VA_2.out hb (lt_box VA_2.out))
  have QS_3 := hideIt (QS_2.out.below hb (by omega))
  clear B_2 VA_2 QS_2 hb
  clear SC QS_3
  obtain ⟨a0, a1, a2, a3, a4, a5, a6, a7, a8, a9, -⟩ := ten_cells VA_3.out
  go_wp2_with fail
  refine (toFs_any _ ws ps es qs hs td cd vl nm fr w3 (RDA.out w3 B_3.out) hws hps hes hqs hhs htd hnm).mono ?_
  rintro e w4 ⟨v4, rfl, hr, hb⟩
  clear a0 a1 a2 a3 a4 a5 a6 a7 a8 a9
  have hq := hr.form
  obtain ⟨XaW, XcW, XaP, XcP, XaS, XcS, XaQ, XcQ, XaH, XcH, XaT, XcT, XaN, XcN, eq⟩ := hq
  subst eq
  have z4 : w3.heap.size ≤ w4.heap.size := hb.size
  have B_4 := hideIt (below_trans B_3.out hb B_3.out.size)
  have VA_4 := hideIt (box_below VA_3.out hb (lt_box VA_3.out))
  clear B_3 VA_3 hb
  have QX_4 : Hid (RowF w4 w3.heap.size w4.heap.size _ ws ps es qs hs td cd vl nm fr) := hr
  clear hr
  have RX_4 := hideIt QX_4.out.rd
  clear QX_4
  obtain ⟨w5, hw5⟩ : ∃ w5, w5 = w4.alloc (.cells #[.slice XaW ws.length XcW, .slice XaP ps.length XcP, .slice XaS es.length XcS, .slice XaQ qs.length XcQ, .slice XaH hs.length XcH, .slice XaT td.length XcT, .int .i64 cd, .int .i64 vl, .slice XaN nm.length XcN, .bool fr] 67) := ⟨_, rfl⟩
  have hb : Below w4.heap.size w4 w5 := by rw [hw5]; exact (Below.refl _ _).alloc (Nat.le_refl _) _
  obtain ⟨bX, hbX⟩ : ∃ bX : Nat, bX = w4.heap.size := ⟨_, rfl⟩
  have VX_5 : Hid (w5.heap[bX]? = some (.cells #[.slice XaW ws.length XcW, .slice XaP ps.length XcP, .slice XaS es.length XcS, .slice XaQ qs.length XcQ, .slice XaH hs.length XcH, .slice XaT td.length XcT, .int .i64 cd, .int .i64 vl, .slice XaN nm.length XcN, .bool fr] 67 (0, 0))) := by rw [hw5, hbX]; exact at_new rfl
  have pX : w4.heap.size ≤ bX ∧ bX ≤ w4.heap.size ∧ bX < w5.heap.size := ⟨Nat.le_of_eq hbX.symm, Nat.le_of_eq hbX, lt_box VX_5.out⟩
  have z5 : w4.heap.size ≤ w5.heap.size := hb.size
  have B_5 := hideIt (below_trans B_4.out hb B_4.out.size)
  have VA_5 := hideIt (box_below VA_4.out hb (lt_box VA_4.out))
  have RX_5 := hideIt (RX_4.out.below hb)
  clear B_4 VA_4 RX_4 hb
  go_upto_region 7 with fail
  rw [← hw5, ← hbX]
  clear hw5 hbX
  obtain ⟨x0, x1, x2, x3, x4, x5, x6, x7, x8, x9, -⟩ := ten_cells VX_5.out
  go_wp2_with fail
  refine (IC.out _ w5 (FB.out w5 B_5.out) RX_5.out).mono ?_
  rintro e w6 ⟨rfl, hb⟩
  clear x0 x1 x2 x3 x4 x5 x6 x7 x8 x9
  have z6 : w5.heap.size ≤ w6.heap.size := hb.size
  have B_6 := hideIt (below_trans B_5.out hb B_5.out.size)
  have VA_6 := hideIt (box_below VA_5.out hb (lt_box VA_5.out))
  have VX_6 := hideIt (box_below VX_5.out hb (lt_box VX_5.out))
  have RX_6 := hideIt (RX_5.out.below hb)
  clear B_5 VA_5 VX_5 RX_5 hb
  clear IC
  have SK : Hid (∀ w', Below w6.heap.size w6 w' → (w'.cell? ⟨bX, 0, none⟩ = some (.slice XaW ws.length XcW) ∧ w'.cell? ⟨bX, 1, none⟩ = some (.slice XaP ps.length XcP) ∧ w'.cell? ⟨bX, 2, none⟩ = some (.slice XaS es.length XcS) ∧ w'.cell? ⟨bX, 3, none⟩ = some (.slice XaQ qs.length XcQ) ∧ w'.cell? ⟨bX, 4, none⟩ = some (.slice XaH hs.length XcH) ∧ w'.cell? ⟨bX, 5, none⟩ = some (.slice XaT td.length XcT) ∧ w'.cell? ⟨bX, 6, none⟩ = some (.int .i64 cd) ∧ w'.cell? ⟨bX, 7, none⟩ = some (.int .i64 vl) ∧ w'.cell? ⟨bX, 8, none⟩ = some (.slice XaN nm.length XcN) ∧ w'.cell? ⟨bX, 9, none⟩ = some (.bool fr)) ∧ (w'.cell? ⟨w.heap.size, 0, none⟩ = some (.slice aW ws.length cW) ∧ w'.cell? ⟨w.heap.size, 1, none⟩ = some (.slice aP ps.length cP) ∧ w'.cell? ⟨w.heap.size, 2, none⟩ = some (.slice aS es.length cS) ∧ w'.cell? ⟨w.heap.size, 3, none⟩ = some (.slice aQ qs.length cQ) ∧ w'.cell? ⟨w.heap.size, 4, none⟩ = some (.slice aH hs.length cH) ∧ w'.cell? ⟨w.heap.size, 5, none⟩ = some (.slice aT td.length cT) ∧ w'.cell? ⟨w.heap.size, 6, none⟩ = some (.int .i64 cd) ∧ w'.cell? ⟨w.heap.size, 7, none⟩ = some (.int .i64 vl) ∧ w'.cell? ⟨w.heap.size, 8, none⟩ = some (.slice aN nm.length cN) ∧ w'.cell? ⟨w.heap.size, 9, none⟩ = some (.bool fr))) := fun w' hb => by
    obtain ⟨x0, x1, x2, x3, x4, x5, x6, x7, x8, x9, -⟩ := ten_cells (box_below VX_6.out hb (lt_box VX_6.out))
    obtain ⟨a0, a1, a2, a3, a4, a5, a6, a7, a8, a9, -⟩ := ten_cells (box_below VA_6.out hb (lt_box VA_6.out))
    exact ⟨⟨x0, x1, x2, x3, x4, x5, x6, x7, x8, x9⟩, a0, a1, a2, a3, a4, a5, a6, a7, a8, a9⟩
  go_upto_region 10 with fail
  go_cut [39] (fun s wx => s = .bool false ∧ Hid (Below w6.heap.size w6 wx))
  case first =>
    as_aux_lemma =>
      obtain ⟨⟨x0, x1, x2, x3, x4, x5, x6, x7, x8, x9⟩, a0, a1, a2, a3, a4, a5, a6, a7, a8, a9⟩ := SK.out _ (Below.refl _ _)
      go_region_held3 (fun w' => (w'.cell? ⟨bX, 0, none⟩ = some (.slice XaW ws.length XcW) ∧ w'.cell? ⟨bX, 1, none⟩ = some (.slice XaP ps.length XcP) ∧ w'.cell? ⟨bX, 2, none⟩ = some (.slice XaS es.length XcS) ∧ w'.cell? ⟨bX, 3, none⟩ = some (.slice XaQ qs.length XcQ) ∧ w'.cell? ⟨bX, 4, none⟩ = some (.slice XaH hs.length XcH) ∧ w'.cell? ⟨bX, 5, none⟩ = some (.slice XaT td.length XcT) ∧ w'.cell? ⟨bX, 6, none⟩ = some (.int .i64 cd) ∧ w'.cell? ⟨bX, 7, none⟩ = some (.int .i64 vl) ∧ w'.cell? ⟨bX, 8, none⟩ = some (.slice XaN nm.length XcN) ∧ w'.cell? ⟨bX, 9, none⟩ = some (.bool fr)) ∧ (w'.cell? ⟨w.heap.size, 0, none⟩ = some (.slice aW ws.length cW) ∧ w'.cell? ⟨w.heap.size, 1, none⟩ = some (.slice aP ps.length cP) ∧ w'.cell? ⟨w.heap.size, 2, none⟩ = some (.slice aS es.length cS) ∧ w'.cell? ⟨w.heap.size, 3, none⟩ = some (.slice aQ qs.length cQ) ∧ w'.cell? ⟨w.heap.size, 4, none⟩ = some (.slice aH hs.length cH) ∧ w'.cell? ⟨w.heap.size, 5, none⟩ = some (.slice aT td.length cT) ∧ w'.cell? ⟨w.heap.size, 6, none⟩ = some (.int .i64 cd) ∧ w'.cell? ⟨w.heap.size, 7, none⟩ = some (.int .i64 vl) ∧ w'.cell? ⟨w.heap.size, 8, none⟩ = some (.slice aN nm.length cN) ∧ w'.cell? ⟨w.heap.size, 9, none⟩ = some (.bool fr)))
        (exact SK.out _ (by repeat (first | with_reducible exact BE.out | with_reducible exact BF.out | with_reducible exact Below.refl _ _ | with_reducible refine Below.drew ?_)))
        (first
          | (go_at_call 29; refine (toFs_any _ ws ps es qs hs td cd vl nm fr _ (RDA.out _ (below_trans B_6.out (by repeat (first | with_reducible exact Below.refl _ _ | with_reducible refine Below.drew ?_)) B_6.out.size)) hws hps hes hqs hhs htd hnm).mono ?_; rintro e wt ⟨vt, rfl, hrt, hbt⟩; have BF : Hid (Below w6.heap.size w6 wt) := belY (by repeat (first | with_reducible exact Below.refl _ _ | with_reducible refine Below.drew ?_)) hbt; have RT := hideIt hrt.rd; obtain ⟨taW, tcW, taP, tcP, taS, tcS, taQ, tcQ, taH, tcH, taT, tcT, taN, tcN, eqt⟩ := hrt.form; subst eqt; clear hrt hbt)
          | (go_at_call 31; refine (eqFs_same _ _ ws ps es qs hs td cd vl nm fr _ (RX_6.out.below (belY BF.out (by repeat (first | with_reducible exact Below.refl _ _ | with_reducible refine Below.drew ?_)))) (RT.out.below (by repeat (first | with_reducible exact Below.refl _ _ | with_reducible refine Below.drew ?_))) (by omega) (by omega) (by omega) (by omega) (by omega) (by omega) (by omega)).mono ?_; rintro e wu ⟨rfl, hbu⟩; have BE : Hid (Below w6.heap.size w6 wu) := belY BF.out (belY (by repeat (first | with_reducible exact Below.refl _ _ | with_reducible refine Below.drew ?_)) hbu); clear hbu))
      all_goals
        go_wp2_with fail
        go_meet
        exact ⟨rfl, (by unfold Hid; repeat (first | with_reducible exact BE.out | with_reducible refine Below.drew ?_))⟩
  case rest =>
  obtain ⟨rfl, hbH⟩ := hcut
  rename World => w7
  clear SK
  have hb := hbH.out
  clear hbH
  have z7 : w6.heap.size ≤ w7.heap.size := hb.size
  have B_7 := hideIt (below_trans B_6.out hb B_6.out.size)
  have VA_7 := hideIt (box_below VA_6.out hb (lt_box VA_6.out))
  have VX_7 := hideIt (box_below VX_6.out hb (lt_box VX_6.out))
  have RX_7 := hideIt (RX_6.out.below hb)
  clear B_6 VA_6 VX_6 RX_6 hb
  go_wp2
  go_ret
  exact ⟨rfl, FB.out _ B_7.out⟩
end Go.Proofs.YtbjjdkemappelaaGreatDoor
