/- The law of ModelOf: the walk. -/
import Derived.Test.YtihmihkhkmadmaaGreatDoorZBW
import Derived.Test.YtihmihkhkmadmaaGreatDoorZBX
import Derived.Test.YtihmihkhkmadmaaGreatDoorDev
import Derived.Test.YtihmihkhkmadmaaGreatDoorZAZ
import Derived.Test.YtihmihkhkmadmaaGreatDoorZBE
import Derived.Deep.DeepCutAuto
import Derived.Deep.RegionHeld3
namespace Go.Proofs.YtihmihkhkmadmaaGreatDoor
open Go.RowKit
theorem totT_bound : ∀ (ts : List Th), (∀ t ∈ ts, t.pages.length ≤ 8) → totT ts ≤ 8 * ts.length
  | [], _ => by simp [totT]
  | t :: ts, h => by
    have a := h t (List.mem_cons_self ..)
    have b := totT_bound ts (fun u hu => h u (List.mem_cons_of_mem _ hu))
    show t.pages.length + totT ts ≤ 8 * (ts.length + 1)
    omega
theorem modelOf_sm (ws : List Int) (ps : List St) (es : List Int) (qs : List Se) : ((moT ws ps es qs).length ≤ 16 ∧ totT (moT ws ps es qs) ≤ 128 ∧ (moD ws ps es qs).length ≤ 24) ∧ ∀ k (h : k < (moT ws ps es qs).length), (moT ws ps es qs)[k].pages.length ≤ 2147483648 := by
  by_cases d : dvB ws ps es qs = true
  · have e1 : moT ws ps es qs = ofL ws ps es qs (dvN ws ps es qs) := if_pos d
    have e2 : moD ws ps es qs = dvD ws ps es qs := if_pos d
    obtain ⟨a, b, c⟩ := dvL d
    have q : ∀ t ∈ ofL ws ps es qs (dvN ws ps es qs), t.pages.length ≤ 8 := fun t ht => by
      obtain ⟨x, hx, rfl⟩ := List.mem_map.1 (show t ∈ (dvN ws ps es qs).map (ofT ws ps es qs) from ht)
      obtain ⟨k, hk, rfl⟩ := List.getElem_of_mem hx
      have z := (ino_parts (c k hk)).2.1
      show (pgL _ _ _ _ _ _).length ≤ 8
      rw [pgL_len]
      omega
    have t1 := totT_bound _ q
    rw [ofL_len, a] at t1
    have q2 : ∀ t ∈ moT ws ps es qs, t.pages.length ≤ 8 := by rw [e1]; exact q
    refine ⟨⟨by rw [e1, ofL_len, a]; decide, by rw [e1]; omega, by rw [e2, b]; decide⟩, fun k hk => ?_⟩
    exact Nat.le_trans (q2 _ (List.getElem_mem hk)) (by decide)
  · have e1 : moT ws ps es qs = [] := if_neg d
    have e2 : moD ws ps es qs = [] := if_neg d
    refine ⟨⟨by rw [e1]; decide, by rw [e1]; decide, by rw [e2]; decide⟩, fun k hk => ?_⟩
    exfalso
    rw [e1] at hk
    exact absurd hk (by simp)
set_option maxRecDepth 100000 in
set_option maxHeartbeats 16000000 in
theorem modelOf_law (v : Value) (ws : List Int) (ps : List St) (es : List Int) (qs : List Se) (w : World) (h : RdDev w v ws ps es qs) (hB : ws.length ≤ maxLen ∧ ps.length ≤ maxLen ∧ es.length ≤ maxLen ∧ qs.length ≤ maxLen) (hT : TS w) (hE : ED w) (hF : FD w) (hN : NW w) :
    Calls Tryz.prog 3 #[v] w fun e w' => e = .returned (.bool true) ∧ Below w.heap.size w w' := by
  have ic := hideIt (fun (hq : ws.length ≤ 1048576 ∧ ps.length ≤ 1048576 ∧ es.length ≤ 1048576 ∧ qs.length ≤ 1048576) v1 w1 (hb : Below w.heap.size w w1) (h1 : RdDev w1 v1 ws ps es qs) => implModelOf_any v1 ws ps es qs w1 h1 hq.1 hq.2.1 hq.2.2.1 hq.2.2.2 (hT.below hb) (hE.below hb) (hF.below hb) (hN.below hb))
  clear hT hE hF hN
  obtain ⟨aW, cW, aP, cP, aS, cS, aQ, cQ, rfl, -, -⟩ := id h.form
  obtain ⟨W, hW⟩ : ∃ W, W = w.alloc (.cells #[.slice aW ws.length cW, .slice aP ps.length cP, .slice aS es.length cS, .slice aQ qs.length cQ] 30) := ⟨_, rfl⟩
  have BW : Hid (Below w.heap.size w W) := by rw [hW]; exact (Below.refl _ _).alloc (Nat.le_refl _) _
  have VA_0 : Hid (W.heap[w.heap.size]? = some (.cells #[.slice aW ws.length cW, .slice aP ps.length cP, .slice aS es.length cS, .slice aQ qs.length cQ] 30 (0, 0))) := by rw [hW]; exact at_new rfl
  have ltA : w.heap.size < W.heap.size := lt_box VA_0.out
  have B_0 : Hid (Below W.heap.size W W) := Below.refl _ _
  have RDA : Hid (∀ w', Below W.heap.size W w' → RdDev w' (.agg #[.slice aW ws.length cW, .slice aP ps.length cP, .slice aS es.length cS, .slice aQ qs.length cQ]) ws ps es qs) := fun w' hb => RdDev.below h (below_trans BW.out hb BW.out.size)
  have FB : Hid (∀ w', Below W.heap.size W w' → Below w.heap.size w w') := fun w' hb => below_trans BW.out hb BW.out.size
  clear h
  go_enter Tryz.func3, Tryz.ntmps3
  go_upto_region 2 with fail
  rw [← hW]
  clear hW
  obtain ⟨a0, a1, a2, a3, -⟩ := four_cells VA_0.out
  have SZ := hideIt (szDevices_any aW aP aS aQ ws.length ps.length es.length qs.length cW cP cS cQ W hB.1 hB.2.1 hB.2.2.1 hB.2.2.2)
  clear hB
  by_cases c0 : 1048576 < ws.length + ps.length + es.length + qs.length
  case pos =>
    rw [if_pos c0] at SZ
    clear RDA ic
    go_wp2_with fail
    refine SZ.out.mono ?_
    rintro e w1 ⟨rfl, hb1⟩
    have B1 := hideIt (below_trans BW.out hb1 BW.out.size)
    clear hb1 a0 a1 a2 a3
    go_wp2
    go_ret
    exact ⟨rfl, B1.out⟩
  rw [if_neg c0] at SZ
  have hws : ws.length ≤ 1048576 := by omega
  have hps : ps.length ≤ 1048576 := by omega
  have hes : es.length ≤ 1048576 := by omega
  have hqs : qs.length ≤ 1048576 := by omega
  have cq : ¬ ((1048576 - ws.length - ps.length - es.length - qs.length : Int)) < 0 := by omega
  go_wp2_with fail
  refine (SZ.out).mono ?_
  rintro e w1 ⟨rfl, hb⟩
  clear a0 a1 a2 a3
  have z1 : W.heap.size ≤ w1.heap.size := hb.size
  have B_1 := hideIt (below_trans B_0.out hb B_0.out.size)
  have VA_1 := hideIt (box_below VA_0.out hb (lt_box VA_0.out))
  clear B_0 VA_0 hb
  clear SZ
  have SM := hideIt (modelOf_sm ws ps es qs)
  have SC := hideIt (fun v1 w1 (h1 : RdDev w1 v1 ws ps es qs) => specModelOf_any v1 ws ps es qs w1 h1 hws hps hes hqs)
  have IC := hideIt (ic.out ⟨hws, hps, hes, hqs⟩)
  clear ic
  generalize moT ws ps es qs = T2 at *
  generalize moD ws ps es qs = D2 at *
  generalize moC ws ps es qs = rc at *
  have HG := hideIt SM.out.2
  obtain ⟨⟨m1, m2, m3⟩, -⟩ := SM.out
  clear SM
  obtain ⟨kx, ekx⟩ : ∃ kx : Int, kx = 1 + ws.length + 3 * ps.length + es.length + 2 * qs.length := ⟨_, rfl⟩
  have kx0 : ¬ kx < 0 := by rw [ekx]; omega
  obtain ⟨km, ekm⟩ : ∃ km : Int, km = 1 + 2 * (T2.length : Int) + (totT T2 : Int) + 3 * D2.length := ⟨_, rfl⟩
  have km0 : ¬ km < 0 := by rw [ekm]; omega
  replace ekx := hideIt ekx
  replace ekm := hideIt ekm
  obtain ⟨a0, a1, a2, a3, -⟩ := four_cells VA_1.out
  go_wp2_with fail
  refine (toDevices_any _ ws ps es qs w1 (RDA.out w1 B_1.out) hws hps hes hqs).mono ?_
  rintro e w2 ⟨v2, rfl, hr, hb⟩
  clear a0 a1 a2 a3
  obtain ⟨TaW, TcW, TaP, TcP, TaS, TcS, TaQ, TcQ, eq, -, -⟩ := hr.rd.form
  subst eq
  have z2 : w1.heap.size ≤ w2.heap.size := hb.size
  have B_2 := hideIt (below_trans B_1.out hb B_1.out.size)
  have VA_2 := hideIt (box_below VA_1.out hb (lt_box VA_1.out))
  clear B_1 VA_1 hb
  have QT_2 : Hid (RowDev w2 w1.heap.size w2.heap.size _ ws ps es qs) := hr
  clear hr
  go_wp2_with fail
  refine (SC.out _ w2 QT_2.out.rd).mono ?_
  rintro e w3 ⟨v3, rfl, hr, hb⟩
  obtain ⟨SaW, ScW, SaP, ScP, eq⟩ := hr.rd.form
  subst eq
  have z3 : w2.heap.size ≤ w3.heap.size := hb.size
  have B_3 := hideIt (below_trans B_2.out hb B_2.out.size)
  have VA_3 := hideIt (box_below VA_2.out hb (lt_box VA_2.out))
  have QT_3 := hideIt (QT_2.out.below hb (by omega))
  clear B_2 VA_2 QT_2 hb
  have QS_3 : Hid (OwMd w3 w2.heap.size w3.heap.size _ T2 D2) := hr
  clear hr
  obtain ⟨w4, hw4⟩ : ∃ w4, w4 = w3.alloc (.cells #[.slice SaW T2.length ScW, .slice SaP D2.length ScP] 35) := ⟨_, rfl⟩
  have hb : Below w3.heap.size w3 w4 := by rw [hw4]; exact (Below.refl _ _).alloc (Nat.le_refl _) _
  obtain ⟨bS, hbS⟩ : ∃ bS : Nat, bS = w3.heap.size := ⟨_, rfl⟩
  have VS_4 : Hid (w4.heap[bS]? = some (.cells #[.slice SaW T2.length ScW, .slice SaP D2.length ScP] 35 (0, 0))) := by rw [hw4, hbS]; exact at_new rfl
  have pS : w3.heap.size ≤ bS ∧ bS ≤ w3.heap.size ∧ bS < w4.heap.size := ⟨Nat.le_of_eq hbS.symm, Nat.le_of_eq hbS, lt_box VS_4.out⟩
  have z4 : w3.heap.size ≤ w4.heap.size := hb.size
  have B_4 := hideIt (below_trans B_3.out hb B_3.out.size)
  have VA_4 := hideIt (box_below VA_3.out hb (lt_box VA_3.out))
  have QT_4 := hideIt (QT_3.out.below hb (by omega))
  have QS_4 := hideIt (QS_3.out.below hb (by omega))
  clear B_3 VA_3 QT_3 QS_3 hb
  go_upto_region 6 with fail
  rw [← hw4, ← hbS]
  clear hw4 hbS
  clear SC
  clear QT_4
  obtain ⟨a0, a1, a2, a3, -⟩ := four_cells VA_4.out
  go_wp2_with fail
  refine (toDevices_any _ ws ps es qs w4 (RDA.out w4 B_4.out) hws hps hes hqs).mono ?_
  rintro e w5 ⟨v5, rfl, hr, hb⟩
  clear a0 a1 a2 a3
  obtain ⟨XaW, XcW, XaP, XcP, XaS, XcS, XaQ, XcQ, eq, -, -⟩ := hr.rd.form
  subst eq
  have z5 : w4.heap.size ≤ w5.heap.size := hb.size
  have B_5 := hideIt (below_trans B_4.out hb B_4.out.size)
  have VA_5 := hideIt (box_below VA_4.out hb (lt_box VA_4.out))
  have VS_5 := hideIt (box_below VS_4.out hb (lt_box VS_4.out))
  have QS_5 := hideIt (QS_4.out.below hb (by omega))
  clear B_4 VA_4 VS_4 QS_4 hb
  have QX_5 : Hid (RowDev w5 w4.heap.size w5.heap.size _ ws ps es qs) := hr
  clear hr
  obtain ⟨w6, hw6⟩ : ∃ w6, w6 = w5.alloc (.cells #[.slice XaW ws.length XcW, .slice XaP ps.length XcP, .slice XaS es.length XcS, .slice XaQ qs.length XcQ] 45) := ⟨_, rfl⟩
  have hb : Below w5.heap.size w5 w6 := by rw [hw6]; exact (Below.refl _ _).alloc (Nat.le_refl _) _
  obtain ⟨bX, hbX⟩ : ∃ bX : Nat, bX = w5.heap.size := ⟨_, rfl⟩
  have VX_6 : Hid (w6.heap[bX]? = some (.cells #[.slice XaW ws.length XcW, .slice XaP ps.length XcP, .slice XaS es.length XcS, .slice XaQ qs.length XcQ] 45 (0, 0))) := by rw [hw6, hbX]; exact at_new rfl
  have pX : w5.heap.size ≤ bX ∧ bX ≤ w5.heap.size ∧ bX < w6.heap.size := ⟨Nat.le_of_eq hbX.symm, Nat.le_of_eq hbX, lt_box VX_6.out⟩
  have z6 : w5.heap.size ≤ w6.heap.size := hb.size
  have B_6 := hideIt (below_trans B_5.out hb B_5.out.size)
  have VA_6 := hideIt (box_below VA_5.out hb (lt_box VA_5.out))
  have VS_6 := hideIt (box_below VS_5.out hb (lt_box VS_5.out))
  have QS_6 := hideIt (QS_5.out.below hb (by omega))
  have QX_6 := hideIt (QX_5.out.below hb (by omega))
  clear B_5 VA_5 VS_5 QS_5 QX_5 hb
  go_upto_region 7 with fail
  rw [← hw6, ← hbX]
  clear hw6 hbX
  obtain ⟨x0, x1, x2, x3, -⟩ := four_cells VX_6.out
  go_wp2_with fail
  refine (IC.out _ w6 (FB.out w6 B_6.out) QX_6.out.rd).mono ?_
  rintro e w7 ⟨v7, rfl, hr, hb⟩
  clear x0 x1 x2 x3
  obtain ⟨GaW, GcW, GaP, GcP, eq⟩ := hr.rd.form
  subst eq
  have z7 : w6.heap.size ≤ w7.heap.size := hb.size
  have B_7 := hideIt (below_trans B_6.out hb B_6.out.size)
  have VA_7 := hideIt (box_below VA_6.out hb (lt_box VA_6.out))
  have VS_7 := hideIt (box_below VS_6.out hb (lt_box VS_6.out))
  have VX_7 := hideIt (box_below VX_6.out hb (lt_box VX_6.out))
  have QS_7 := hideIt (QS_6.out.below hb (by omega))
  have QX_7 := hideIt (QX_6.out.below hb (by omega))
  clear B_6 VA_6 VS_6 VX_6 QS_6 QX_6 hb
  have QG_7 : Hid (RowMd w7 w6.heap.size w7.heap.size _ T2 D2) := hr
  clear hr
  obtain ⟨w8, hw8⟩ : ∃ w8, w8 = w7.alloc (.cells #[.slice GaW T2.length GcW, .slice GaP D2.length GcP] 35) := ⟨_, rfl⟩
  have hb : Below w7.heap.size w7 w8 := by rw [hw8]; exact (Below.refl _ _).alloc (Nat.le_refl _) _
  obtain ⟨bG, hbG⟩ : ∃ bG : Nat, bG = w7.heap.size := ⟨_, rfl⟩
  have VG_8 : Hid (w8.heap[bG]? = some (.cells #[.slice GaW T2.length GcW, .slice GaP D2.length GcP] 35 (0, 0))) := by rw [hw8, hbG]; exact at_new rfl
  have pG : w7.heap.size ≤ bG ∧ bG ≤ w7.heap.size ∧ bG < w8.heap.size := ⟨Nat.le_of_eq hbG.symm, Nat.le_of_eq hbG, lt_box VG_8.out⟩
  have z8 : w7.heap.size ≤ w8.heap.size := hb.size
  have B_8 := hideIt (below_trans B_7.out hb B_7.out.size)
  have VA_8 := hideIt (box_below VA_7.out hb (lt_box VA_7.out))
  have VS_8 := hideIt (box_below VS_7.out hb (lt_box VS_7.out))
  have VX_8 := hideIt (box_below VX_7.out hb (lt_box VX_7.out))
  have QS_8 := hideIt (QS_7.out.below hb (by omega))
  have QX_8 := hideIt (QX_7.out.below hb (by omega))
  have QG_8 := hideIt (QG_7.out.below hb (by omega))
  clear B_7 VA_7 VS_7 VX_7 QS_7 QX_7 QG_7 hb
  go_upto_region 8 with fail
  rw [← hw8, ← hbG]
  clear hw8 hbG
  obtain ⟨g0, g1, -, -⟩ := two_cells VG_8.out
  obtain ⟨s0, s1, -, -⟩ := two_cells VS_8.out
  go_wp2_with fail
  refine (eqModel_same _ _ T2 D2 w8 QG_8.out.rd QS_8.out.rd (by omega) HG.out (by omega)).mono ?_
  rintro e w9 ⟨rfl, hb⟩
  clear g0 g1 s0 s1
  have z9 : w8.heap.size ≤ w9.heap.size := hb.size
  have B_9 := hideIt (below_trans B_8.out hb B_8.out.size)
  have VA_9 := hideIt (box_below VA_8.out hb (lt_box VA_8.out))
  have VS_9 := hideIt (box_below VS_8.out hb (lt_box VS_8.out))
  have VX_9 := hideIt (box_below VX_8.out hb (lt_box VX_8.out))
  have VG_9 := hideIt (box_below VG_8.out hb (lt_box VG_8.out))
  have QS_9 := hideIt (QS_8.out.below hb (by omega))
  have QX_9 := hideIt (QX_8.out.below hb (by omega))
  have QG_9 := hideIt (QG_8.out.below hb (by omega))
  clear B_8 VA_8 VS_8 VX_8 VG_8 QS_8 QX_8 QG_8 hb
  have RX_9 := hideIt QX_9.out.rd
  have SK : Hid (∀ w', Below w9.heap.size w9 w' → (w'.cell? ⟨bX, 0, none⟩ = some (.slice XaW ws.length XcW) ∧ w'.cell? ⟨bX, 1, none⟩ = some (.slice XaP ps.length XcP) ∧ w'.cell? ⟨bX, 2, none⟩ = some (.slice XaS es.length XcS) ∧ w'.cell? ⟨bX, 3, none⟩ = some (.slice XaQ qs.length XcQ)) ∧ (w'.cell? ⟨w.heap.size, 0, none⟩ = some (.slice aW ws.length cW) ∧ w'.cell? ⟨w.heap.size, 1, none⟩ = some (.slice aP ps.length cP) ∧ w'.cell? ⟨w.heap.size, 2, none⟩ = some (.slice aS es.length cS) ∧ w'.cell? ⟨w.heap.size, 3, none⟩ = some (.slice aQ qs.length cQ))) := fun w' hb => by
    obtain ⟨x0, x1, x2, x3, -⟩ := four_cells (box_below VX_9.out hb (lt_box VX_9.out))
    obtain ⟨a0, a1, a2, a3, -⟩ := four_cells (box_below VA_9.out hb (lt_box VA_9.out))
    exact ⟨⟨x0, x1, x2, x3⟩, a0, a1, a2, a3⟩
  go_upto_region 10 with fail
  go_cut [45] (fun s wx => s = .bool false ∧ Hid (Below w9.heap.size w9 wx))
  case first =>
    as_aux_lemma =>
      obtain ⟨⟨x0, x1, x2, x3⟩, a0, a1, a2, a3⟩ := SK.out _ (Below.refl _ _)
      go_region_held3 (fun w' => (w'.cell? ⟨bX, 0, none⟩ = some (.slice XaW ws.length XcW) ∧ w'.cell? ⟨bX, 1, none⟩ = some (.slice XaP ps.length XcP) ∧ w'.cell? ⟨bX, 2, none⟩ = some (.slice XaS es.length XcS) ∧ w'.cell? ⟨bX, 3, none⟩ = some (.slice XaQ qs.length XcQ)) ∧ (w'.cell? ⟨w.heap.size, 0, none⟩ = some (.slice aW ws.length cW) ∧ w'.cell? ⟨w.heap.size, 1, none⟩ = some (.slice aP ps.length cP) ∧ w'.cell? ⟨w.heap.size, 2, none⟩ = some (.slice aS es.length cS) ∧ w'.cell? ⟨w.heap.size, 3, none⟩ = some (.slice aQ qs.length cQ)))
        (exact SK.out _ (by repeat (first | with_reducible exact BE.out | with_reducible exact BF.out | with_reducible exact Below.refl _ _ | with_reducible refine Below.drew ?_)))
        (first
          | (go_at_call 6; refine (toDevices_any _ ws ps es qs _ (RDA.out _ (below_trans B_9.out (by repeat (first | with_reducible exact Below.refl _ _ | with_reducible refine Below.drew ?_)) B_9.out.size)) hws hps hes hqs).mono ?_; rintro e wt ⟨vt, rfl, hrt, hbt⟩; have BF : Hid (Below w9.heap.size w9 wt) := belY (by repeat (first | with_reducible exact Below.refl _ _ | with_reducible refine Below.drew ?_)) hbt; have RT := hideIt hrt.rd; obtain ⟨taW, tcW, taP, tcP, taS, tcS, taQ, tcQ, eqt, -, -⟩ := hrt.rd.form; subst eqt; clear hrt hbt)
          | (go_at_call 9; refine (eqDevices_same _ _ ws ps es qs _ (RX_9.out.below (belY BF.out (by repeat (first | with_reducible exact Below.refl _ _ | with_reducible refine Below.drew ?_)))) (RT.out.below (by repeat (first | with_reducible exact Below.refl _ _ | with_reducible refine Below.drew ?_))) (by omega) (by omega) (by omega) (by omega)).mono ?_; rintro e wu ⟨rfl, hbu⟩; have BE : Hid (Below w9.heap.size w9 wu) := belY BF.out (belY (by repeat (first | with_reducible exact Below.refl _ _ | with_reducible refine Below.drew ?_)) hbu); clear hbu))
      all_goals
        go_wp2_with fail
        go_meet
        exact ⟨rfl, (by unfold Hid; repeat (first | with_reducible exact BE.out | with_reducible refine Below.drew ?_))⟩
  case rest =>
  obtain ⟨rfl, hbH⟩ := hcut
  rename World => w10
  clear SK
  have hb := hbH.out
  clear hbH
  have z10 : w9.heap.size ≤ w10.heap.size := hb.size
  have B_10 := hideIt (below_trans B_9.out hb B_9.out.size)
  have VA_10 := hideIt (box_below VA_9.out hb (lt_box VA_9.out))
  have VS_10 := hideIt (box_below VS_9.out hb (lt_box VS_9.out))
  have VX_10 := hideIt (box_below VX_9.out hb (lt_box VX_9.out))
  have VG_10 := hideIt (box_below VG_9.out hb (lt_box VG_9.out))
  have RX_10 := hideIt (RX_9.out.below hb)
  have QS_10 := hideIt (QS_9.out.below hb (by omega))
  have QX_10 := hideIt (QX_9.out.below hb (by omega))
  have QG_10 := hideIt (QG_9.out.below hb (by omega))
  clear B_9 VA_9 VS_9 VX_9 VG_9 RX_9 QS_9 QX_9 QG_9 hb
  clear RX_10
  obtain ⟨x0, x1, x2, x3, -⟩ := four_cells VX_10.out
  go_wp2_with fail
  refine (markDevices_any _ ws ps es qs 1 _ _ w10 QX_10.out (by omega) (by omega) (by omega) (by omega) (by omega) (by decide) (by decide)).mono ?_
  rw [← ekx.out]
  rintro e w11 ⟨rfl, -, ho⟩
  clear x0 x1 x2 x3
  clear QX_10
  have z11 : w10.heap.size ≤ w11.heap.size := ho.size
  have B_11 := hideIt (B_10.out.trans (ho.below (B := W.heap.size) (by omega) B_10.out.size))
  have VA_11 := hideIt ((ho.block _ (lt_box VA_10.out) (by omega)).trans VA_10.out)
  have VS_11 := hideIt ((ho.block _ (lt_box VS_10.out) (by omega)).trans VS_10.out)
  have VX_11 := hideIt ((ho.block _ (lt_box VX_10.out) (by omega)).trans VX_10.out)
  have VG_11 := hideIt ((ho.block _ (lt_box VG_10.out) (by omega)).trans VG_10.out)
  have QS_11 := hideIt (QS_10.out.outside ho (by omega) (by omega))
  have QG_11 := hideIt (QG_10.out.outside ho (by omega) (by omega))
  clear B_10 VA_10 VS_10 VX_10 VG_10 QS_10 QG_10 ho
  clear VX_11
  obtain ⟨g0, g1, -, -⟩ := two_cells VG_11.out
  obtain ⟨s0, s1, -, -⟩ := two_cells VS_11.out
  go_wp2_with fail
  refine (eqModel_same _ _ T2 D2 w11 QG_11.out.rd QS_11.out.rd (by omega) HG.out (by omega)).mono ?_
  rintro e w12 ⟨rfl, hb⟩
  clear g0 g1 s0 s1
  have z12 : w11.heap.size ≤ w12.heap.size := hb.size
  have B_12 := hideIt (below_trans B_11.out hb B_11.out.size)
  have VA_12 := hideIt (box_below VA_11.out hb (lt_box VA_11.out))
  have VS_12 := hideIt (box_below VS_11.out hb (lt_box VS_11.out))
  have VG_12 := hideIt (box_below VG_11.out hb (lt_box VG_11.out))
  have QS_12 := hideIt (QS_11.out.below hb (by omega))
  have QG_12 := hideIt (QG_11.out.below hb (by omega))
  clear B_11 VA_11 VS_11 VG_11 QS_11 QG_11 hb
  obtain ⟨g0, g1, -, -⟩ := two_cells VG_12.out
  go_wp2_with fail
  refine (markModel_any _ T2 D2 1 _ _ w12 QG_12.out (by omega) (by omega) (by omega) (by omega) (by decide) (by decide)).mono ?_
  rw [← ekm.out]
  rintro e w13 ⟨rfl, hk, ho⟩
  clear g0 g1
  clear QG_12
  have z13 : w12.heap.size ≤ w13.heap.size := ho.size
  have B_13 := hideIt (B_12.out.trans (ho.below (B := W.heap.size) (by omega) B_12.out.size))
  have VA_13 := hideIt ((ho.block _ (lt_box VA_12.out) (by omega)).trans VA_12.out)
  have VS_13 := hideIt ((ho.block _ (lt_box VS_12.out) (by omega)).trans VS_12.out)
  have VG_13 := hideIt ((ho.block _ (lt_box VG_12.out) (by omega)).trans VG_12.out)
  have QS_13 := hideIt (QS_12.out.outside ho (by omega) (by omega))
  clear B_12 VA_12 VS_12 VG_12 QS_12 ho
  have QK_13 := hideIt hk
  clear hk
  obtain ⟨g0, g1, -, -⟩ := two_cells VG_13.out
  go_wp2_with fail
  refine (heldModel_any _ T2 D2.length 1 w13 QK_13.out.rd (by omega) (by omega) (by omega) (by decide) (by decide)).mono ?_
  rw [← ekm.out]
  rintro e w14 ⟨rfl, hb⟩
  clear g0 g1
  have z14 : w13.heap.size ≤ w14.heap.size := hb.size
  have B_14 := hideIt (below_trans B_13.out hb B_13.out.size)
  have VA_14 := hideIt (box_below VA_13.out hb (lt_box VA_13.out))
  have VS_14 := hideIt (box_below VS_13.out hb (lt_box VS_13.out))
  have VG_14 := hideIt (box_below VG_13.out hb (lt_box VG_13.out))
  have QS_14 := hideIt (QS_13.out.below hb (by omega))
  have QK_14 := hideIt (QK_13.out.below hb (by omega))
  clear B_13 VA_13 VS_13 VG_13 QS_13 QK_13 hb
  obtain ⟨a0, a1, a2, a3, -⟩ := four_cells VA_14.out
  go_wp2_with fail
  refine (toDevices_any _ ws ps es qs w14 (RDA.out w14 B_14.out) hws hps hes hqs).mono ?_
  rintro e w15 ⟨v15, rfl, hr, hb⟩
  clear a0 a1 a2 a3
  obtain ⟨TaW, TcW, TaP, TcP, TaS, TcS, TaQ, TcQ, eq, -, -⟩ := hr.rd.form
  subst eq
  have z15 : w14.heap.size ≤ w15.heap.size := hb.size
  have B_15 := hideIt (below_trans B_14.out hb B_14.out.size)
  have VA_15 := hideIt (box_below VA_14.out hb (lt_box VA_14.out))
  have VS_15 := hideIt (box_below VS_14.out hb (lt_box VS_14.out))
  have VG_15 := hideIt (box_below VG_14.out hb (lt_box VG_14.out))
  have QS_15 := hideIt (QS_14.out.below hb (by omega))
  have QK_15 := hideIt (QK_14.out.below hb (by omega))
  clear B_14 VA_14 VS_14 VG_14 QS_14 QK_14 hb
  have QT_15 : Hid (RowDev w15 w14.heap.size w15.heap.size _ ws ps es qs) := hr
  clear hr
  go_wp2_with fail
  refine (IC.out _ w15 (FB.out w15 B_15.out) QT_15.out.rd).mono ?_
  rintro e w16 ⟨v16, rfl, hr, hb⟩
  obtain ⟨HaW, HcW, HaP, HcP, eq⟩ := hr.rd.form
  subst eq
  have z16 : w15.heap.size ≤ w16.heap.size := hb.size
  have B_16 := hideIt (below_trans B_15.out hb B_15.out.size)
  have VA_16 := hideIt (box_below VA_15.out hb (lt_box VA_15.out))
  have VS_16 := hideIt (box_below VS_15.out hb (lt_box VS_15.out))
  have VG_16 := hideIt (box_below VG_15.out hb (lt_box VG_15.out))
  have QS_16 := hideIt (QS_15.out.below hb (by omega))
  have QK_16 := hideIt (QK_15.out.below hb (by omega))
  have QT_16 := hideIt (QT_15.out.below hb (by omega))
  clear B_15 VA_15 VS_15 VG_15 QS_15 QK_15 QT_15 hb
  have QH_16 : Hid (RowMd w16 w15.heap.size w16.heap.size _ T2 D2) := hr
  clear hr
  obtain ⟨w17, hw17⟩ : ∃ w17, w17 = w16.alloc (.cells #[.slice HaW T2.length HcW, .slice HaP D2.length HcP] 35) := ⟨_, rfl⟩
  have hb : Below w16.heap.size w16 w17 := by rw [hw17]; exact (Below.refl _ _).alloc (Nat.le_refl _) _
  obtain ⟨bH, hbH⟩ : ∃ bH : Nat, bH = w16.heap.size := ⟨_, rfl⟩
  have VH_17 : Hid (w17.heap[bH]? = some (.cells #[.slice HaW T2.length HcW, .slice HaP D2.length HcP] 35 (0, 0))) := by rw [hw17, hbH]; exact at_new rfl
  have pH : w16.heap.size ≤ bH ∧ bH ≤ w16.heap.size ∧ bH < w17.heap.size := ⟨Nat.le_of_eq hbH.symm, Nat.le_of_eq hbH, lt_box VH_17.out⟩
  have z17 : w16.heap.size ≤ w17.heap.size := hb.size
  have B_17 := hideIt (below_trans B_16.out hb B_16.out.size)
  have VA_17 := hideIt (box_below VA_16.out hb (lt_box VA_16.out))
  have VS_17 := hideIt (box_below VS_16.out hb (lt_box VS_16.out))
  have VG_17 := hideIt (box_below VG_16.out hb (lt_box VG_16.out))
  have QS_17 := hideIt (QS_16.out.below hb (by omega))
  have QK_17 := hideIt (QK_16.out.below hb (by omega))
  have QT_17 := hideIt (QT_16.out.below hb (by omega))
  have QH_17 := hideIt (QH_16.out.below hb (by omega))
  clear B_16 VA_16 VS_16 VG_16 QS_16 QK_16 QT_16 QH_16 hb
  go_upto_region 25 with fail
  rw [← hw17, ← hbH]
  clear hw17 hbH
  clear IC
  clear QT_17
  obtain ⟨h0, h1, -, -⟩ := two_cells VH_17.out
  obtain ⟨s0, s1, -, -⟩ := two_cells VS_17.out
  go_wp2_with fail
  refine (eqModel_same _ _ T2 D2 w17 QH_17.out.rd QS_17.out.rd (by omega) HG.out (by omega)).mono ?_
  rintro e w18 ⟨rfl, hb⟩
  clear h0 h1 s0 s1
  have z18 : w17.heap.size ≤ w18.heap.size := hb.size
  have B_18 := hideIt (below_trans B_17.out hb B_17.out.size)
  have VA_18 := hideIt (box_below VA_17.out hb (lt_box VA_17.out))
  have VS_18 := hideIt (box_below VS_17.out hb (lt_box VS_17.out))
  have VG_18 := hideIt (box_below VG_17.out hb (lt_box VG_17.out))
  have VH_18 := hideIt (box_below VH_17.out hb (lt_box VH_17.out))
  have QS_18 := hideIt (QS_17.out.below hb (by omega))
  have QK_18 := hideIt (QK_17.out.below hb (by omega))
  have QH_18 := hideIt (QH_17.out.below hb (by omega))
  clear B_17 VA_17 VS_17 VG_17 VH_17 QS_17 QK_17 QH_17 hb
  obtain ⟨g0, g1, -, -⟩ := two_cells VG_18.out
  go_wp2_with fail
  refine (heldModel_any _ T2 D2.length 1 w18 QK_18.out.rd (by omega) (by omega) (by omega) (by decide) (by decide)).mono ?_
  rw [← ekm.out]
  rintro e w19 ⟨rfl, hb⟩
  clear g0 g1
  have z19 : w18.heap.size ≤ w19.heap.size := hb.size
  have B_19 := hideIt (below_trans B_18.out hb B_18.out.size)
  have VA_19 := hideIt (box_below VA_18.out hb (lt_box VA_18.out))
  have VS_19 := hideIt (box_below VS_18.out hb (lt_box VS_18.out))
  have VG_19 := hideIt (box_below VG_18.out hb (lt_box VG_18.out))
  have VH_19 := hideIt (box_below VH_18.out hb (lt_box VH_18.out))
  have QS_19 := hideIt (QS_18.out.below hb (by omega))
  have QK_19 := hideIt (QK_18.out.below hb (by omega))
  have QH_19 := hideIt (QH_18.out.below hb (by omega))
  clear B_18 VA_18 VS_18 VG_18 VH_18 QS_18 QK_18 QH_18 hb
  go_wp2
  go_ret
  exact ⟨rfl, FB.out _ B_19.out⟩
end Go.Proofs.YtihmihkhkmadmaaGreatDoor
