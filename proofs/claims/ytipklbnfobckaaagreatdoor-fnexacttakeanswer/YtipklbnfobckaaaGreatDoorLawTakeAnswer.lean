/- The law of TakeAnswer: the walk. -/
import Derived.Test.YtipklbnfobckaaaGreatDoorYB
import Derived.Deep.DeepCutAuto
import Derived.Deep.RegionHeld3
namespace Go.Proofs.YtipklbnfobckaaaGreatDoor
open Go.RowKit

theorem takR_sm (ws : List Int) (ps : List St) (es : List Int) (qs : List Se) (hs : List Int) (td : List Mi) (cd vl : Int) (nm : List ByteArray) (fr : Bool) (hws : ws.length ≤ 1048576) (hps : ps.length ≤ 1048576) (hes : es.length ≤ 1048576) (hqs : qs.length ≤ 1048576) (hhs : hs.length ≤ 1048576) (htd : td.length ≤ 1048576) (hnm : nm.length ≤ 1048576) : SmA (takR ws ps es qs hs td cd vl nm fr) := by
  unfold takR
  split
  · exact tak_sm ws ps es qs hs td cd vl nm fr hws hps hes hqs hhs htd hnm
  · exact ⟨by simp [zz], by simp [zz], by simp [zz], by simp [zz], by simp [zz], by simp [zz], by simp [zz], by simp⟩
set_option maxRecDepth 100000 in
set_option maxHeartbeats 16000000 in
theorem takeAnswer_law (v : Value) (ws : List Int) (ps : List St) (es : List Int) (qs : List Se) (hs : List Int) (td : List Mi) (cd vl : Int) (nm : List ByteArray) (fr : Bool) (w : World) (h : RdF w v ws ps es qs hs td cd vl nm fr) (hB : ws.length ≤ maxLen ∧ ps.length ≤ maxLen ∧ es.length ≤ maxLen ∧ qs.length ≤ maxLen ∧ hs.length ≤ maxLen ∧ td.length ≤ maxLen ∧ nm.length ≤ maxLen) (hz : ∀ k (hk : k < nm.length), nm[k].size ≤ maxLen)  (hS : SB w) (hT : TS w) (hE : ED w) (hF : FD w) :
    Calls Tryz.prog 8 #[v] w fun e w' => e = .returned (.bool true) ∧ Below w.heap.size w w' := by
  obtain ⟨aW, cW, aP, cP, aS, cS, aQ, cQ, aH, cH, aT, cT, aN, cN, rfl, -, -, -, n1⟩ := id h
  obtain ⟨W, hW⟩ : ∃ W, W = (w.alloc (.cells #[.slice aW ws.length cW, .slice aP ps.length cP, .slice aS es.length cS, .slice aQ qs.length cQ, .slice aH hs.length cH, .slice aT td.length cT, .int .i64 cd, .int .i64 vl, .slice aN nm.length cN, .bool fr] 36)) := ⟨_, rfl⟩
  have BW : Hid (Below w.heap.size w W) := by rw [hW]; exact ((Below.refl _ _).alloc (Nat.le_refl _) _)
  have VA_0 : Hid (W.heap[w.heap.size]? = some (.cells #[.slice aW ws.length cW, .slice aP ps.length cP, .slice aS es.length cS, .slice aQ qs.length cQ, .slice aH hs.length cH, .slice aT td.length cT, .int .i64 cd, .int .i64 vl, .slice aN nm.length cN, .bool fr] 36 (0, 0))) := by rw [hW]; exact (at_new rfl)
  have ltA : w.heap.size < W.heap.size := lt_box VA_0.out
  have B_0 : Hid (Below W.heap.size W W) := Below.refl _ _
  have RDA : Hid (∀ w', Below W.heap.size W w' → RdF w' (.agg #[.slice aW ws.length cW, .slice aP ps.length cP, .slice aS es.length cS, .slice aQ qs.length cQ, .slice aH hs.length cH, .slice aT td.length cT, .int .i64 cd, .int .i64 vl, .slice aN nm.length cN, .bool fr]) ws ps es qs hs td cd vl nm fr) := fun w' hb => RdF.below h (below_trans BW.out hb BW.out.size)
  have FB : Hid (∀ w', Below W.heap.size W w' → Below w.heap.size w w') := fun w' hb => below_trans BW.out hb BW.out.size
  have SZ : Hid (∀ w1, Below W.heap.size W w1 → Calls Tryz.prog 11 #[.agg #[.slice aW ws.length cW, .slice aP ps.length cP, .slice aS es.length cS, .slice aQ qs.length cQ, .slice aH hs.length cH, .slice aT td.length cT, .int .i64 cd, .int .i64 vl, .slice aN nm.length cN, .bool fr], .int .i64 1048576] w1 fun e w' => ∃ r : Int, e = .returned (.int .i64 r) ∧ (0 ≤ r → (ws.length ≤ 1048576 ∧ ps.length ≤ 1048576 ∧ es.length ≤ 1048576 ∧ qs.length ≤ 1048576 ∧ hs.length ≤ 1048576 ∧ td.length ≤ 1048576 ∧ nm.length ≤ 1048576) ∧ r ≤ 1048576) ∧ -1 ≤ r ∧ Below w1.heap.size w1 w') := fun w1 hb => szFs_any aW aP aS aQ aH aT aN cW cP cS cQ cH cT cN ws ps es qs hs td cd vl nm fr w1 hB.1 hB.2.1 hB.2.2.1 hB.2.2.2.1 hB.2.2.2.2.1 hB.2.2.2.2.2.1 hB.2.2.2.2.2.2 (Rd.below n1 (below_trans BW.out hb BW.out.size)) hz
  clear hB hz n1
  go_enter Tryz.func8, Tryz.ntmps8
  go_upto_region 2 with fail
  rw [← hW]
  clear hW
  obtain ⟨a0, a1, a2, a3, a4, a5, a6, a7, a8, a9, -⟩ := ten_cells VA_0.out
  go_wp2_with fail
  refine (SZ.out W B_0.out).mono ?_
  rintro e w1 ⟨r, rfl, hr, hr1, hb⟩
  clear a0 a1 a2 a3 a4 a5 a6 a7 a8 a9
  have z1 : W.heap.size ≤ w1.heap.size := hb.size
  have B_1 := hideIt (below_trans B_0.out hb B_0.out.size)
  have VA_1 := hideIt (box_below VA_0.out hb (lt_box VA_0.out))
  clear B_0 VA_0 hb
  by_cases cr : r < 0
  · clear hS hT hE hF SZ RDA 
    go_wp2
    go_ret
    exact ⟨rfl, FB.out _ B_1.out⟩
  obtain ⟨⟨hws, hps, hes, hqs, hhs, htd, hnm⟩, hr2⟩ := hr (by omega)
  clear SZ hr hr1
  have SM := hideIt (takR_sm ws ps es qs hs td cd vl nm fr hws hps hes hqs hhs htd hnm)
  have SC := hideIt (fun v1 w1 (h1 : RdF w1 v1 ws ps es qs hs td cd vl nm fr) => specTakeAnswer_any v1 ws ps es qs hs td cd vl nm fr w1 h1 hws hps hes hqs hhs htd hnm)
  have IC := hideIt (fun v1 w1 (hb : Below w.heap.size w w1) (h1 : RdF w1 v1 ws ps es qs hs td cd vl nm fr) => implTakeAnswer_any v1 ws ps es qs hs td cd vl nm fr w1 h1 hws hps hes hqs hhs htd hnm (hS.below hb) (hT.below hb) (hE.below hb) (hF.below hb))
  generalize takR ws ps es qs hs td cd vl nm fr = R at *
  obtain ⟨⟨ws2, ps2, es2, qs2, hs2, td2, cd2, vl2, nm2, fr2⟩, cd3, vl3, nm3, rc⟩ := R
  simp only [AzOut, AzRow] at SM SC IC
  obtain ⟨m1, m2, m3, m4, m5, m6, m7, m8⟩ := SM.out
  simp only at m1 m2 m3 m4 m5 m6 m7 m8
  clear SM
  obtain ⟨kx, ekx⟩ : ∃ kx : Int, kx = kD 1 ws.length ps.length es.length qs.length + hs.length + 3 * td.length + nm.length := ⟨_, rfl⟩
  have kx0 : ¬ kx < 0 := by rw [ekx]; unfold kD; omega
  obtain ⟨km, ekm⟩ : ∃ km : Int, km = kD 1 ws2.length ps2.length es2.length qs2.length + hs2.length + 3 * td2.length + nm2.length := ⟨_, rfl⟩
  have km0 : ¬ km < 0 ∧ km ≤ 268435456 := by rw [ekm]; unfold kD; omega
  have km1 : ¬ km + (nm3.length : Int) < 0 := by omega
  obtain ⟨km2, km3⟩ := km0
  replace ekx := hideIt ekx
  replace ekm := hideIt ekm
  clear hS hT hE hF
  obtain ⟨a0, a1, a2, a3, a4, a5, a6, a7, a8, a9, -⟩ := ten_cells VA_1.out
  go_wp2_with fail
  refine (toFs_any _ ws ps es qs hs td cd vl nm fr w1 (RDA.out w1 B_1.out) hws hps hes hqs hhs htd hnm).mono ?_
  rintro e w2 ⟨v2, rfl, hr, hb⟩
  clear a0 a1 a2 a3 a4 a5 a6 a7 a8 a9
  have hq := hr.form
  obtain ⟨TaW, TcW, TaP, TcP, TaS, TcS, TaQ, TcQ, TaH, TcH, TaT, TcT, TaN, TcN, eq⟩ := hq
  subst eq
  have z2 : w1.heap.size ≤ w2.heap.size := hb.size
  have B_2 := hideIt (below_trans B_1.out hb B_1.out.size)
  have VA_2 := hideIt (box_below VA_1.out hb (lt_box VA_1.out))
  clear B_1 VA_1 hb
  have QT_2 : Hid (RowF w2 w1.heap.size w2.heap.size _ ws ps es qs hs td cd vl nm fr) := hr
  clear hr
  go_wp2_with fail
  refine (SC.out _ w2 QT_2.out.rd).mono ?_
  rintro e w3 ⟨v3, n3, rfl, hr, ⟨Sl2, Sh2, hn, So1, So2⟩, hb⟩
  obtain ⟨SaW, ScW, SaP, ScP, SaS, ScS, SaQ, ScQ, SaH, ScH, SaT, ScT, SaN, ScN, eq⟩ := hr.form
  subst eq
  obtain ⟨-, Se, Sg, rfl, -⟩ := hn.rd
  have z3 : w2.heap.size ≤ w3.heap.size := hb.size
  have B_3 := hideIt (below_trans B_2.out hb B_2.out.size)
  have VA_3 := hideIt (box_below VA_2.out hb (lt_box VA_2.out))
  have QT_3 := hideIt (QT_2.out.below hb (by omega))
  clear B_2 VA_2 QT_2 hb
  have QS_3 : Hid (RowF w3 w2.heap.size w3.heap.size _ ws2 ps2 es2 qs2 hs2 td2 cd2 vl2 nm2 fr2) := hr
  have QSN_3 := hideIt hn
  clear hr hn
  obtain ⟨w4, hw4⟩ : ∃ w4, w4 = (w3.alloc (.cells #[.slice SaW ws2.length ScW, .slice SaP ps2.length ScP, .slice SaS es2.length ScS, .slice SaQ qs2.length ScQ, .slice SaH hs2.length ScH, .slice SaT td2.length ScT, .int .i64 cd2, .int .i64 vl2, .slice SaN nm2.length ScN, .bool fr2] 50)).alloc (.cells #[.int .i64 cd3, .int .i64 vl3, .slice Se nm3.length Sg] 48) := ⟨_, rfl⟩
  have hb : Below w3.heap.size w3 w4 := by rw [hw4]; exact ((Below.refl _ _).alloc (Nat.le_refl _) _).alloc (by simp) _
  obtain ⟨bS, hbS⟩ : ∃ bS : Nat, bS = w3.heap.size := ⟨_, rfl⟩
  obtain ⟨bSA, hbSA⟩ : ∃ bSA : Nat, bSA = w3.heap.size + 1 := ⟨_, rfl⟩
  have VS_4 : Hid (w4.heap[bS]? = some (.cells #[.slice SaW ws2.length ScW, .slice SaP ps2.length ScP, .slice SaS es2.length ScS, .slice SaQ qs2.length ScQ, .slice SaH hs2.length ScH, .slice SaT td2.length ScT, .int .i64 cd2, .int .i64 vl2, .slice SaN nm2.length ScN, .bool fr2] 50 (0, 0))) := by rw [hw4, hbS]; exact at_old (at_new rfl)
  have VSA_4 : Hid (w4.heap[bSA]? = some (.cells #[.int .i64 cd3, .int .i64 vl3, .slice Se nm3.length Sg] 48 (0, 0))) := by rw [hw4, hbSA]; exact at_new (by simp)
  have pS : w3.heap.size ≤ bS ∧ bS ≤ w3.heap.size ∧ bS < w4.heap.size := ⟨Nat.le_of_eq hbS.symm, Nat.le_of_eq hbS, lt_box VS_4.out⟩
  have pSA : w3.heap.size + 1 ≤ bSA ∧ bSA ≤ w3.heap.size + 1 ∧ bSA < w4.heap.size := ⟨Nat.le_of_eq hbSA.symm, Nat.le_of_eq hbSA, lt_box VSA_4.out⟩
  have z4 : w3.heap.size ≤ w4.heap.size := hb.size
  have B_4 := hideIt (below_trans B_3.out hb B_3.out.size)
  have VA_4 := hideIt (box_below VA_3.out hb (lt_box VA_3.out))
  have QT_4 := hideIt (QT_3.out.below hb (by omega))
  have QS_4 := hideIt (QS_3.out.below hb (by omega))
  have QSN_4 := hideIt (QSN_3.out.below hb (by omega))
  clear B_3 VA_3 QT_3 QS_3 QSN_3 hb
  go_upto_region 6 with fail
  rw [← hw4, ← hbSA, ← hbS]
  clear hw4 hbS hbSA
  clear SC QT_4
  obtain ⟨a0, a1, a2, a3, a4, a5, a6, a7, a8, a9, -⟩ := ten_cells VA_4.out
  go_wp2_with fail
  refine (toFs_any _ ws ps es qs hs td cd vl nm fr w4 (RDA.out w4 B_4.out) hws hps hes hqs hhs htd hnm).mono ?_
  rintro e w5 ⟨v5, rfl, hr, hb⟩
  clear a0 a1 a2 a3 a4 a5 a6 a7 a8 a9
  have hq := hr.form
  obtain ⟨XaW, XcW, XaP, XcP, XaS, XcS, XaQ, XcQ, XaH, XcH, XaT, XcT, XaN, XcN, eq⟩ := hq
  subst eq
  have z5 : w4.heap.size ≤ w5.heap.size := hb.size
  have B_5 := hideIt (below_trans B_4.out hb B_4.out.size)
  have VA_5 := hideIt (box_below VA_4.out hb (lt_box VA_4.out))
  have VS_5 := hideIt (box_below VS_4.out hb (lt_box VS_4.out))
  have VSA_5 := hideIt (box_below VSA_4.out hb (lt_box VSA_4.out))
  have QS_5 := hideIt (QS_4.out.below hb (by omega))
  have QSN_5 := hideIt (QSN_4.out.below hb (by omega))
  clear B_4 VA_4 VS_4 VSA_4 QS_4 QSN_4 hb
  have QX_5 : Hid (RowF w5 w4.heap.size w5.heap.size _ ws ps es qs hs td cd vl nm fr) := hr
  clear hr
  obtain ⟨w6, hw6⟩ : ∃ w6, w6 = w5.alloc (.cells #[.slice XaW ws.length XcW, .slice XaP ps.length XcP, .slice XaS es.length XcS, .slice XaQ qs.length XcQ, .slice XaH hs.length XcH, .slice XaT td.length XcT, .int .i64 cd, .int .i64 vl, .slice XaN nm.length XcN, .bool fr] 50) := ⟨_, rfl⟩
  have hb : Below w5.heap.size w5 w6 := by rw [hw6]; exact (Below.refl _ _).alloc (Nat.le_refl _) _
  obtain ⟨bX, hbX⟩ : ∃ bX : Nat, bX = w5.heap.size := ⟨_, rfl⟩
  have VX_6 : Hid (w6.heap[bX]? = some (.cells #[.slice XaW ws.length XcW, .slice XaP ps.length XcP, .slice XaS es.length XcS, .slice XaQ qs.length XcQ, .slice XaH hs.length XcH, .slice XaT td.length XcT, .int .i64 cd, .int .i64 vl, .slice XaN nm.length XcN, .bool fr] 50 (0, 0))) := by rw [hw6, hbX]; exact at_new rfl
  have pX : w5.heap.size ≤ bX ∧ bX ≤ w5.heap.size ∧ bX < w6.heap.size := ⟨Nat.le_of_eq hbX.symm, Nat.le_of_eq hbX, lt_box VX_6.out⟩
  have z6 : w5.heap.size ≤ w6.heap.size := hb.size
  have B_6 := hideIt (below_trans B_5.out hb B_5.out.size)
  have VA_6 := hideIt (box_below VA_5.out hb (lt_box VA_5.out))
  have VS_6 := hideIt (box_below VS_5.out hb (lt_box VS_5.out))
  have VSA_6 := hideIt (box_below VSA_5.out hb (lt_box VSA_5.out))
  have QS_6 := hideIt (QS_5.out.below hb (by omega))
  have QSN_6 := hideIt (QSN_5.out.below hb (by omega))
  have QX_6 := hideIt (QX_5.out.below hb (by omega))
  clear B_5 VA_5 VS_5 VSA_5 QS_5 QSN_5 QX_5 hb
  go_upto_region 7 with fail
  rw [← hw6, ← hbX]
  clear hw6 hbX
  obtain ⟨x0, x1, x2, x3, x4, x5, x6, x7, x8, x9, -⟩ := ten_cells VX_6.out
  go_wp2_with fail
  refine (IC.out _ w6 (FB.out w6 B_6.out) QX_6.out.rd).mono ?_
  rintro e w7 ⟨v7, n7, Gl1, Gh1, Gl2, Gh2, rfl, hr, hn, ⟨Go1, Go2, Go3, Go4, Go5⟩, hb⟩
  clear x0 x1 x2 x3 x4 x5 x6 x7 x8 x9
  obtain ⟨GaW, GcW, GaP, GcP, GaS, GcS, GaQ, GcQ, GaH, GcH, GaT, GcT, GaN, GcN, eq⟩ := hr.form
  subst eq
  obtain ⟨-, Ge, Gg, rfl, -⟩ := hn.rd
  have z7 : w6.heap.size ≤ w7.heap.size := hb.size
  have B_7 := hideIt (below_trans B_6.out hb B_6.out.size)
  have VA_7 := hideIt (box_below VA_6.out hb (lt_box VA_6.out))
  have VS_7 := hideIt (box_below VS_6.out hb (lt_box VS_6.out))
  have VSA_7 := hideIt (box_below VSA_6.out hb (lt_box VSA_6.out))
  have VX_7 := hideIt (box_below VX_6.out hb (lt_box VX_6.out))
  have QS_7 := hideIt (QS_6.out.below hb (by omega))
  have QSN_7 := hideIt (QSN_6.out.below hb (by omega))
  have QX_7 := hideIt (QX_6.out.below hb (by omega))
  clear B_6 VA_6 VS_6 VSA_6 VX_6 QS_6 QSN_6 QX_6 hb
  have QG_7 := hideIt hr
  have QGN_7 := hideIt hn
  clear hr hn
  obtain ⟨w8, hw8⟩ : ∃ w8, w8 = (w7.alloc (.cells #[.slice GaW ws2.length GcW, .slice GaP ps2.length GcP, .slice GaS es2.length GcS, .slice GaQ qs2.length GcQ, .slice GaH hs2.length GcH, .slice GaT td2.length GcT, .int .i64 cd2, .int .i64 vl2, .slice GaN nm2.length GcN, .bool fr2] 50)).alloc (.cells #[.int .i64 cd3, .int .i64 vl3, .slice Ge nm3.length Gg] 48) := ⟨_, rfl⟩
  have hb : Below w7.heap.size w7 w8 := by rw [hw8]; exact ((Below.refl _ _).alloc (Nat.le_refl _) _).alloc (by simp) _
  obtain ⟨bG, hbG⟩ : ∃ bG : Nat, bG = w7.heap.size := ⟨_, rfl⟩
  obtain ⟨bGA, hbGA⟩ : ∃ bGA : Nat, bGA = w7.heap.size + 1 := ⟨_, rfl⟩
  have VG_8 : Hid (w8.heap[bG]? = some (.cells #[.slice GaW ws2.length GcW, .slice GaP ps2.length GcP, .slice GaS es2.length GcS, .slice GaQ qs2.length GcQ, .slice GaH hs2.length GcH, .slice GaT td2.length GcT, .int .i64 cd2, .int .i64 vl2, .slice GaN nm2.length GcN, .bool fr2] 50 (0, 0))) := by rw [hw8, hbG]; exact at_old (at_new rfl)
  have VGA_8 : Hid (w8.heap[bGA]? = some (.cells #[.int .i64 cd3, .int .i64 vl3, .slice Ge nm3.length Gg] 48 (0, 0))) := by rw [hw8, hbGA]; exact at_new (by simp)
  have pG : w7.heap.size ≤ bG ∧ bG ≤ w7.heap.size ∧ bG < w8.heap.size := ⟨Nat.le_of_eq hbG.symm, Nat.le_of_eq hbG, lt_box VG_8.out⟩
  have pGA : w7.heap.size + 1 ≤ bGA ∧ bGA ≤ w7.heap.size + 1 ∧ bGA < w8.heap.size := ⟨Nat.le_of_eq hbGA.symm, Nat.le_of_eq hbGA, lt_box VGA_8.out⟩
  have z8 : w7.heap.size ≤ w8.heap.size := hb.size
  have B_8 := hideIt (below_trans B_7.out hb B_7.out.size)
  have VA_8 := hideIt (box_below VA_7.out hb (lt_box VA_7.out))
  have VS_8 := hideIt (box_below VS_7.out hb (lt_box VS_7.out))
  have VSA_8 := hideIt (box_below VSA_7.out hb (lt_box VSA_7.out))
  have VX_8 := hideIt (box_below VX_7.out hb (lt_box VX_7.out))
  have QS_8 := hideIt (QS_7.out.below hb (by omega))
  have QSN_8 := hideIt (QSN_7.out.below hb (by omega))
  have QX_8 := hideIt (QX_7.out.below hb (by omega))
  have QG_8 := hideIt (QG_7.out.below hb (by omega))
  have QGN_8 := hideIt (QGN_7.out.below hb (by omega))
  clear B_7 VA_7 VS_7 VSA_7 VX_7 QS_7 QSN_7 QX_7 QG_7 QGN_7 hb
  go_upto_region 8 with fail
  rw [← hw8, ← hbGA, ← hbG]
  clear hw8 hbG hbGA
  obtain ⟨g0, g1, g2, g3, g4, g5, g6, g7, g8, g9, -⟩ := ten_cells VG_8.out
  obtain ⟨s0, s1, s2, s3, s4, s5, s6, s7, s8, s9, -⟩ := ten_cells VS_8.out
  go_wp2_with fail
  refine (eqFs_same _ _ ws2 ps2 es2 qs2 hs2 td2 cd2 vl2 nm2 fr2 w8 QG_8.out.rd QS_8.out.rd (by omega) (by omega) (by omega) (by omega) (by omega) (by omega) (by omega)).mono ?_
  rintro e w9 ⟨rfl, hb⟩
  clear g0 g1 g2 g3 g4 g5 g6 g7 g8 g9 s0 s1 s2 s3 s4 s5 s6 s7 s8 s9
  have z9 : w8.heap.size ≤ w9.heap.size := hb.size
  have B_9 := hideIt (below_trans B_8.out hb B_8.out.size)
  have VA_9 := hideIt (box_below VA_8.out hb (lt_box VA_8.out))
  have VS_9 := hideIt (box_below VS_8.out hb (lt_box VS_8.out))
  have VSA_9 := hideIt (box_below VSA_8.out hb (lt_box VSA_8.out))
  have VX_9 := hideIt (box_below VX_8.out hb (lt_box VX_8.out))
  have VG_9 := hideIt (box_below VG_8.out hb (lt_box VG_8.out))
  have VGA_9 := hideIt (box_below VGA_8.out hb (lt_box VGA_8.out))
  have QS_9 := hideIt (QS_8.out.below hb (by omega))
  have QSN_9 := hideIt (QSN_8.out.below hb (by omega))
  have QX_9 := hideIt (QX_8.out.below hb (by omega))
  have QG_9 := hideIt (QG_8.out.below hb (by omega))
  have QGN_9 := hideIt (QGN_8.out.below hb (by omega))
  clear B_8 VA_8 VS_8 VSA_8 VX_8 VG_8 VGA_8 QS_8 QSN_8 QX_8 QG_8 QGN_8 hb
  obtain ⟨gq0, gq1, gq2, -⟩ := tri3 VGA_9.out
  obtain ⟨sq0, sq1, sq2, -⟩ := tri3 VSA_9.out
  go_wp2_with fail
  refine (eqAnswer_same cd3 vl3 _ _ nm3 w9 QGN_9.out.rd QSN_9.out.rd (by omega)).mono ?_
  rintro e w10 ⟨rfl, hb⟩
  clear gq0 gq1 gq2 sq0 sq1 sq2
  have z10 : w9.heap.size ≤ w10.heap.size := hb.size
  have B_10 := hideIt (below_trans B_9.out hb B_9.out.size)
  have VA_10 := hideIt (box_below VA_9.out hb (lt_box VA_9.out))
  have VS_10 := hideIt (box_below VS_9.out hb (lt_box VS_9.out))
  have VSA_10 := hideIt (box_below VSA_9.out hb (lt_box VSA_9.out))
  have VX_10 := hideIt (box_below VX_9.out hb (lt_box VX_9.out))
  have VG_10 := hideIt (box_below VG_9.out hb (lt_box VG_9.out))
  have VGA_10 := hideIt (box_below VGA_9.out hb (lt_box VGA_9.out))
  have QS_10 := hideIt (QS_9.out.below hb (by omega))
  have QSN_10 := hideIt (QSN_9.out.below hb (by omega))
  have QX_10 := hideIt (QX_9.out.below hb (by omega))
  have QG_10 := hideIt (QG_9.out.below hb (by omega))
  have QGN_10 := hideIt (QGN_9.out.below hb (by omega))
  clear B_9 VA_9 VS_9 VSA_9 VX_9 VG_9 VGA_9 QS_9 QSN_9 QX_9 QG_9 QGN_9 hb
  have RX_10 := hideIt QX_10.out.rd
  have SK : Hid (∀ w', Below w10.heap.size w10 w' → (w'.cell? ⟨bX, 0, none⟩ = some (.slice XaW ws.length XcW) ∧ w'.cell? ⟨bX, 1, none⟩ = some (.slice XaP ps.length XcP) ∧ w'.cell? ⟨bX, 2, none⟩ = some (.slice XaS es.length XcS) ∧ w'.cell? ⟨bX, 3, none⟩ = some (.slice XaQ qs.length XcQ) ∧ w'.cell? ⟨bX, 4, none⟩ = some (.slice XaH hs.length XcH) ∧ w'.cell? ⟨bX, 5, none⟩ = some (.slice XaT td.length XcT) ∧ w'.cell? ⟨bX, 6, none⟩ = some (.int .i64 cd) ∧ w'.cell? ⟨bX, 7, none⟩ = some (.int .i64 vl) ∧ w'.cell? ⟨bX, 8, none⟩ = some (.slice XaN nm.length XcN) ∧ w'.cell? ⟨bX, 9, none⟩ = some (.bool fr)) ∧ (w'.cell? ⟨w.heap.size, 0, none⟩ = some (.slice aW ws.length cW) ∧ w'.cell? ⟨w.heap.size, 1, none⟩ = some (.slice aP ps.length cP) ∧ w'.cell? ⟨w.heap.size, 2, none⟩ = some (.slice aS es.length cS) ∧ w'.cell? ⟨w.heap.size, 3, none⟩ = some (.slice aQ qs.length cQ) ∧ w'.cell? ⟨w.heap.size, 4, none⟩ = some (.slice aH hs.length cH) ∧ w'.cell? ⟨w.heap.size, 5, none⟩ = some (.slice aT td.length cT) ∧ w'.cell? ⟨w.heap.size, 6, none⟩ = some (.int .i64 cd) ∧ w'.cell? ⟨w.heap.size, 7, none⟩ = some (.int .i64 vl) ∧ w'.cell? ⟨w.heap.size, 8, none⟩ = some (.slice aN nm.length cN) ∧ w'.cell? ⟨w.heap.size, 9, none⟩ = some (.bool fr))) := fun w' hb => by
    obtain ⟨x0, x1, x2, x3, x4, x5, x6, x7, x8, x9, -⟩ := ten_cells (box_below VX_10.out hb (lt_box VX_10.out))
    obtain ⟨a0, a1, a2, a3, a4, a5, a6, a7, a8, a9, -⟩ := ten_cells (box_below VA_10.out hb (lt_box VA_10.out))
    exact ⟨⟨x0, x1, x2, x3, x4, x5, x6, x7, x8, x9⟩, a0, a1, a2, a3, a4, a5, a6, a7, a8, a9⟩
  go_upto_region 10 with fail
  go_cut [56] (fun s wx => s = .bool false ∧ Hid (Below w10.heap.size w10 wx))
  case first =>
    as_aux_lemma =>
      obtain ⟨⟨x0, x1, x2, x3, x4, x5, x6, x7, x8, x9⟩, a0, a1, a2, a3, a4, a5, a6, a7, a8, a9⟩ := SK.out _ (Below.refl _ _)
      go_region_held3 (fun w' => (w'.cell? ⟨bX, 0, none⟩ = some (.slice XaW ws.length XcW) ∧ w'.cell? ⟨bX, 1, none⟩ = some (.slice XaP ps.length XcP) ∧ w'.cell? ⟨bX, 2, none⟩ = some (.slice XaS es.length XcS) ∧ w'.cell? ⟨bX, 3, none⟩ = some (.slice XaQ qs.length XcQ) ∧ w'.cell? ⟨bX, 4, none⟩ = some (.slice XaH hs.length XcH) ∧ w'.cell? ⟨bX, 5, none⟩ = some (.slice XaT td.length XcT) ∧ w'.cell? ⟨bX, 6, none⟩ = some (.int .i64 cd) ∧ w'.cell? ⟨bX, 7, none⟩ = some (.int .i64 vl) ∧ w'.cell? ⟨bX, 8, none⟩ = some (.slice XaN nm.length XcN) ∧ w'.cell? ⟨bX, 9, none⟩ = some (.bool fr)) ∧ (w'.cell? ⟨w.heap.size, 0, none⟩ = some (.slice aW ws.length cW) ∧ w'.cell? ⟨w.heap.size, 1, none⟩ = some (.slice aP ps.length cP) ∧ w'.cell? ⟨w.heap.size, 2, none⟩ = some (.slice aS es.length cS) ∧ w'.cell? ⟨w.heap.size, 3, none⟩ = some (.slice aQ qs.length cQ) ∧ w'.cell? ⟨w.heap.size, 4, none⟩ = some (.slice aH hs.length cH) ∧ w'.cell? ⟨w.heap.size, 5, none⟩ = some (.slice aT td.length cT) ∧ w'.cell? ⟨w.heap.size, 6, none⟩ = some (.int .i64 cd) ∧ w'.cell? ⟨w.heap.size, 7, none⟩ = some (.int .i64 vl) ∧ w'.cell? ⟨w.heap.size, 8, none⟩ = some (.slice aN nm.length cN) ∧ w'.cell? ⟨w.heap.size, 9, none⟩ = some (.bool fr)))
        (exact SK.out _ (by repeat (first | with_reducible exact BE.out | with_reducible exact BF.out | with_reducible exact Below.refl _ _ | with_reducible refine Below.drew ?_)))
        (first
          | (go_at_call 13; refine (toFs_any _ ws ps es qs hs td cd vl nm fr _ (RDA.out _ (below_trans B_10.out (by repeat (first | with_reducible exact Below.refl _ _ | with_reducible refine Below.drew ?_)) B_10.out.size)) hws hps hes hqs hhs htd hnm).mono ?_; rintro e wt ⟨vt, rfl, hrt, hbt⟩; have BF : Hid (Below w10.heap.size w10 wt) := belY (by repeat (first | with_reducible exact Below.refl _ _ | with_reducible refine Below.drew ?_)) hbt; have RT := hideIt hrt.rd; obtain ⟨taW, tcW, taP, tcP, taS, tcS, taQ, tcQ, taH, tcH, taT, tcT, taN, tcN, eqt⟩ := hrt.form; subst eqt; clear hrt hbt)
          | (go_at_call 15; refine (eqFs_same _ _ ws ps es qs hs td cd vl nm fr _ (RX_10.out.below (belY BF.out (by repeat (first | with_reducible exact Below.refl _ _ | with_reducible refine Below.drew ?_)))) (RT.out.below (by repeat (first | with_reducible exact Below.refl _ _ | with_reducible refine Below.drew ?_))) (by omega) (by omega) (by omega) (by omega) (by omega) (by omega) (by omega)).mono ?_; rintro e wu ⟨rfl, hbu⟩; have BE : Hid (Below w10.heap.size w10 wu) := belY BF.out (belY (by repeat (first | with_reducible exact Below.refl _ _ | with_reducible refine Below.drew ?_)) hbu); clear hbu))
      all_goals
        go_wp2_with fail
        go_meet
        exact ⟨rfl, (by unfold Hid; repeat (first | with_reducible exact BE.out | with_reducible refine Below.drew ?_))⟩
  case rest =>
  obtain ⟨rfl, hbH⟩ := hcut
  rename World => w11
  clear SK
  have hb := hbH.out
  clear hbH
  have z11 : w10.heap.size ≤ w11.heap.size := hb.size
  have B_11 := hideIt (below_trans B_10.out hb B_10.out.size)
  have VA_11 := hideIt (box_below VA_10.out hb (lt_box VA_10.out))
  have VS_11 := hideIt (box_below VS_10.out hb (lt_box VS_10.out))
  have VSA_11 := hideIt (box_below VSA_10.out hb (lt_box VSA_10.out))
  have VX_11 := hideIt (box_below VX_10.out hb (lt_box VX_10.out))
  have VG_11 := hideIt (box_below VG_10.out hb (lt_box VG_10.out))
  have VGA_11 := hideIt (box_below VGA_10.out hb (lt_box VGA_10.out))
  have RX_11 := hideIt (RX_10.out.below hb)
  have QS_11 := hideIt (QS_10.out.below hb (by omega))
  have QSN_11 := hideIt (QSN_10.out.below hb (by omega))
  have QX_11 := hideIt (QX_10.out.below hb (by omega))
  have QG_11 := hideIt (QG_10.out.below hb (by omega))
  have QGN_11 := hideIt (QGN_10.out.below hb (by omega))
  clear B_10 VA_10 VS_10 VSA_10 VX_10 VG_10 VGA_10 RX_10 QS_10 QSN_10 QX_10 QG_10 QGN_10 hb
  clear RX_11
  obtain ⟨x0, x1, x2, x3, x4, x5, x6, x7, x8, x9, -⟩ := ten_cells VX_11.out
  go_wp2_with fail
  refine (markFs_any _ ws ps es qs hs td cd vl nm fr 1 _ _ w11 QX_11.out (by omega) (by omega) (by omega) (by omega) (by omega) (by omega) (by omega) (by omega) (by decide) (by decide)).mono ?_
  rw [← ekx.out]
  rintro e w12 ⟨rfl, hk, ho⟩
  clear x0 x1 x2 x3 x4 x5 x6 x7 x8 x9
  have QX_11_ := QX_11
  clear QX_11_
  have z12 : w11.heap.size ≤ w12.heap.size := ho.size
  have B_12 := hideIt (B_11.out.trans (ho.below (B := W.heap.size) (by omega) B_11.out.size))
  have VA_12 := hideIt ((ho.block _ (lt_box VA_11.out) (by omega)).trans VA_11.out)
  have VS_12 := hideIt ((ho.block _ (lt_box VS_11.out) (by omega)).trans VS_11.out)
  have VSA_12 := hideIt ((ho.block _ (lt_box VSA_11.out) (by omega)).trans VSA_11.out)
  have VX_12 := hideIt ((ho.block _ (lt_box VX_11.out) (by omega)).trans VX_11.out)
  have VG_12 := hideIt ((ho.block _ (lt_box VG_11.out) (by omega)).trans VG_11.out)
  have VGA_12 := hideIt ((ho.block _ (lt_box VGA_11.out) (by omega)).trans VGA_11.out)
  have QS_12 := hideIt (QS_11.out.outside ho (by omega) (by omega))
  have QSN_12 := hideIt (QSN_11.out.outside ho (by omega) (by omega))
  have QG_12 := hideIt (QG_11.out.outside ho (by omega) (by omega))
  have QGN_12 := hideIt (QGN_11.out.outside ho (by omega) (by omega))
  clear B_11 VA_11 VS_11 VSA_11 VX_11 VG_11 VGA_11 QS_11 QSN_11 QG_11 QGN_11 ho
  clear hk
  clear VX_12
  obtain ⟨g0, g1, g2, g3, g4, g5, g6, g7, g8, g9, -⟩ := ten_cells VG_12.out
  obtain ⟨s0, s1, s2, s3, s4, s5, s6, s7, s8, s9, -⟩ := ten_cells VS_12.out
  go_wp2_with fail
  refine (eqFs_same _ _ ws2 ps2 es2 qs2 hs2 td2 cd2 vl2 nm2 fr2 w12 QG_12.out.rd QS_12.out.rd (by omega) (by omega) (by omega) (by omega) (by omega) (by omega) (by omega)).mono ?_
  rintro e w13 ⟨rfl, hb⟩
  clear g0 g1 g2 g3 g4 g5 g6 g7 g8 g9 s0 s1 s2 s3 s4 s5 s6 s7 s8 s9
  have z13 : w12.heap.size ≤ w13.heap.size := hb.size
  have B_13 := hideIt (below_trans B_12.out hb B_12.out.size)
  have VA_13 := hideIt (box_below VA_12.out hb (lt_box VA_12.out))
  have VS_13 := hideIt (box_below VS_12.out hb (lt_box VS_12.out))
  have VSA_13 := hideIt (box_below VSA_12.out hb (lt_box VSA_12.out))
  have VG_13 := hideIt (box_below VG_12.out hb (lt_box VG_12.out))
  have VGA_13 := hideIt (box_below VGA_12.out hb (lt_box VGA_12.out))
  have QS_13 := hideIt (QS_12.out.below hb (by omega))
  have QSN_13 := hideIt (QSN_12.out.below hb (by omega))
  have QG_13 := hideIt (QG_12.out.below hb (by omega))
  have QGN_13 := hideIt (QGN_12.out.below hb (by omega))
  clear B_12 VA_12 VS_12 VSA_12 VG_12 VGA_12 QS_12 QSN_12 QG_12 QGN_12 hb
  obtain ⟨gq0, gq1, gq2, -⟩ := tri3 VGA_13.out
  obtain ⟨sq0, sq1, sq2, -⟩ := tri3 VSA_13.out
  go_wp2_with fail
  refine (eqAnswer_same cd3 vl3 _ _ nm3 w13 QGN_13.out.rd QSN_13.out.rd (by omega)).mono ?_
  rintro e w14 ⟨rfl, hb⟩
  clear gq0 gq1 gq2 sq0 sq1 sq2
  have z14 : w13.heap.size ≤ w14.heap.size := hb.size
  have B_14 := hideIt (below_trans B_13.out hb B_13.out.size)
  have VA_14 := hideIt (box_below VA_13.out hb (lt_box VA_13.out))
  have VS_14 := hideIt (box_below VS_13.out hb (lt_box VS_13.out))
  have VSA_14 := hideIt (box_below VSA_13.out hb (lt_box VSA_13.out))
  have VG_14 := hideIt (box_below VG_13.out hb (lt_box VG_13.out))
  have VGA_14 := hideIt (box_below VGA_13.out hb (lt_box VGA_13.out))
  have QS_14 := hideIt (QS_13.out.below hb (by omega))
  have QSN_14 := hideIt (QSN_13.out.below hb (by omega))
  have QG_14 := hideIt (QG_13.out.below hb (by omega))
  have QGN_14 := hideIt (QGN_13.out.below hb (by omega))
  clear B_13 VA_13 VS_13 VSA_13 VG_13 VGA_13 QS_13 QSN_13 QG_13 QGN_13 hb
  obtain ⟨g0, g1, g2, g3, g4, g5, g6, g7, g8, g9, -⟩ := ten_cells VG_14.out
  go_wp2_with fail
  refine (markFs_row _ ws2 ps2 es2 qs2 hs2 td2 cd2 vl2 nm2 fr2 1 _ _ w14 QG_14.out (by omega) (by omega) (by omega) (by omega) (by omega) (by omega) (by omega) (by omega) (by decide) (by decide)).mono ?_
  rw [← ekm.out]
  rintro e w15 ⟨rfl, hk, ho⟩
  clear g0 g1 g2 g3 g4 g5 g6 g7 g8 g9
  clear QG_14
  have z15 : w14.heap.size ≤ w15.heap.size := ho.size
  have B_15 := hideIt (B_14.out.trans (ho.below (B := W.heap.size) (by omega) B_14.out.size))
  have VA_15 := hideIt ((ho.block _ (lt_box VA_14.out) (by omega)).trans VA_14.out)
  have VS_15 := hideIt ((ho.block _ (lt_box VS_14.out) (by omega)).trans VS_14.out)
  have VSA_15 := hideIt ((ho.block _ (lt_box VSA_14.out) (by omega)).trans VSA_14.out)
  have VG_15 := hideIt ((ho.block _ (lt_box VG_14.out) (by omega)).trans VG_14.out)
  have VGA_15 := hideIt ((ho.block _ (lt_box VGA_14.out) (by omega)).trans VGA_14.out)
  have QS_15 := hideIt (QS_14.out.outside ho (by omega) (by omega))
  have QSN_15 := hideIt (QSN_14.out.outside ho (by omega) (by omega))
  have QGN_15 := hideIt (QGN_14.out.outside ho (by omega) (by omega))
  clear B_14 VA_14 VS_14 VSA_14 VG_14 VGA_14 QS_14 QSN_14 QGN_14 ho
  have QK_15 := hideIt hk
  clear hk
  obtain ⟨gq0, gq1, gq2, -⟩ := tri3 VGA_15.out
  go_wp2_with fail
  refine (markAnswer_any cd3 vl3 _ nm3 km _ _ w15 QGN_15.out (by omega) (by omega) (by omega) (by omega)).mono ?_
  rintro e w16 ⟨rfl, hr, wq, hbq, hzq, hgq⟩
  clear gq0 gq1 gq2
  have ho : Outside Gl2 Gh2 w15 w16 := (Outside.of_below hbq).trans (Row.grown_outside (QGN_15.out.below hbq (by omega)) hgq)
  clear hbq hzq hgq QGN_15
  have z16 : w15.heap.size ≤ w16.heap.size := ho.size
  have B_16 := hideIt (B_15.out.trans (ho.below (B := W.heap.size) (by omega) B_15.out.size))
  have VA_16 := hideIt ((ho.block _ (lt_box VA_15.out) (by omega)).trans VA_15.out)
  have VS_16 := hideIt ((ho.block _ (lt_box VS_15.out) (by omega)).trans VS_15.out)
  have VSA_16 := hideIt ((ho.block _ (lt_box VSA_15.out) (by omega)).trans VSA_15.out)
  have VG_16 := hideIt ((ho.block _ (lt_box VG_15.out) (by omega)).trans VG_15.out)
  have VGA_16 := hideIt ((ho.block _ (lt_box VGA_15.out) (by omega)).trans VGA_15.out)
  have QS_16 := hideIt (QS_15.out.outside ho (by omega) (by omega))
  have QSN_16 := hideIt (QSN_15.out.outside ho (by omega) (by omega))
  have QK_16 := hideIt (QK_15.out.outside ho (by omega) (by omega))
  clear B_15 VA_15 VS_15 VSA_15 VG_15 VGA_15 QS_15 QSN_15 QK_15 ho
  have QM_16 := hideIt hr
  clear hr
  obtain ⟨g0, g1, g2, g3, g4, g5, g6, g7, g8, g9, -⟩ := ten_cells VG_16.out
  go_wp2_with fail
  refine (heldFs_any _ 1 ws2.length ps2.length es2.length qs2.length hs2.length td2.length cd2 vl2 nm2.length fr2 w16 QK_16.out.mk (by omega) (by omega) (by omega) (by omega) (by omega) (by omega) (by omega) (by decide) (by decide)).mono ?_
  rw [← ekm.out]
  rintro e w17 ⟨rfl, hb⟩
  clear g0 g1 g2 g3 g4 g5 g6 g7 g8 g9
  have z17 : w16.heap.size ≤ w17.heap.size := hb.size
  have B_17 := hideIt (below_trans B_16.out hb B_16.out.size)
  have VA_17 := hideIt (box_below VA_16.out hb (lt_box VA_16.out))
  have VS_17 := hideIt (box_below VS_16.out hb (lt_box VS_16.out))
  have VSA_17 := hideIt (box_below VSA_16.out hb (lt_box VSA_16.out))
  have VG_17 := hideIt (box_below VG_16.out hb (lt_box VG_16.out))
  have VGA_17 := hideIt (box_below VGA_16.out hb (lt_box VGA_16.out))
  have QS_17 := hideIt (QS_16.out.below hb (by omega))
  have QSN_17 := hideIt (QSN_16.out.below hb (by omega))
  have QK_17 := hideIt (QK_16.out.below hb (by omega))
  have QM_17 := hideIt (QM_16.out.below hb (by omega))
  clear B_16 VA_16 VS_16 VSA_16 VG_16 VGA_16 QS_16 QSN_16 QK_16 QM_16 hb
  obtain ⟨gq0, gq1, gq2, -⟩ := tri3 VGA_17.out
  go_wp2_with fail
  refine (heldAnswer_any cd3 vl3 _ nm3.length km w17 (rdt_marks QM_17.out) (by omega) (by omega) (by omega)).mono ?_
  rintro e w18 ⟨rfl, hb⟩
  clear gq0 gq1 gq2
  have z18 : w17.heap.size ≤ w18.heap.size := hb.size
  have B_18 := hideIt (below_trans B_17.out hb B_17.out.size)
  have VA_18 := hideIt (box_below VA_17.out hb (lt_box VA_17.out))
  have VS_18 := hideIt (box_below VS_17.out hb (lt_box VS_17.out))
  have VSA_18 := hideIt (box_below VSA_17.out hb (lt_box VSA_17.out))
  have VG_18 := hideIt (box_below VG_17.out hb (lt_box VG_17.out))
  have VGA_18 := hideIt (box_below VGA_17.out hb (lt_box VGA_17.out))
  have QS_18 := hideIt (QS_17.out.below hb (by omega))
  have QSN_18 := hideIt (QSN_17.out.below hb (by omega))
  have QK_18 := hideIt (QK_17.out.below hb (by omega))
  have QM_18 := hideIt (QM_17.out.below hb (by omega))
  clear B_17 VA_17 VS_17 VSA_17 VG_17 VGA_17 QS_17 QSN_17 QK_17 QM_17 hb
  obtain ⟨a0, a1, a2, a3, a4, a5, a6, a7, a8, a9, -⟩ := ten_cells VA_18.out
  go_wp2_with fail
  refine (toFs_any _ ws ps es qs hs td cd vl nm fr w18 (RDA.out w18 B_18.out) hws hps hes hqs hhs htd hnm).mono ?_
  rintro e w19 ⟨v19, rfl, hr, hb⟩
  clear a0 a1 a2 a3 a4 a5 a6 a7 a8 a9
  have hq := hr.form
  obtain ⟨TaW, TcW, TaP, TcP, TaS, TcS, TaQ, TcQ, TaH, TcH, TaT, TcT, TaN, TcN, eq⟩ := hq
  subst eq
  have z19 : w18.heap.size ≤ w19.heap.size := hb.size
  have B_19 := hideIt (below_trans B_18.out hb B_18.out.size)
  have VA_19 := hideIt (box_below VA_18.out hb (lt_box VA_18.out))
  have VS_19 := hideIt (box_below VS_18.out hb (lt_box VS_18.out))
  have VSA_19 := hideIt (box_below VSA_18.out hb (lt_box VSA_18.out))
  have VG_19 := hideIt (box_below VG_18.out hb (lt_box VG_18.out))
  have VGA_19 := hideIt (box_below VGA_18.out hb (lt_box VGA_18.out))
  have QS_19 := hideIt (QS_18.out.below hb (by omega))
  have QSN_19 := hideIt (QSN_18.out.below hb (by omega))
  have QK_19 := hideIt (QK_18.out.below hb (by omega))
  have QM_19 := hideIt (QM_18.out.below hb (by omega))
  clear B_18 VA_18 VS_18 VSA_18 VG_18 VGA_18 QS_18 QSN_18 QK_18 QM_18 hb
  have QT_19 : Hid (RowF w19 w18.heap.size w19.heap.size _ ws ps es qs hs td cd vl nm fr) := hr
  clear hr
  go_wp2_with fail
  refine (IC.out _ w19 (FB.out w19 B_19.out) QT_19.out.rd).mono ?_
  rintro e w20 ⟨v20, n20, Hl1, Hh1, Hl2, Hh2, rfl, hr, hn, ⟨Ho1, Ho2, Ho3, Ho4, Ho5⟩, hb⟩
  obtain ⟨HaW, HcW, HaP, HcP, HaS, HcS, HaQ, HcQ, HaH, HcH, HaT, HcT, HaN, HcN, eq⟩ := hr.form
  subst eq
  obtain ⟨-, He, Hg, rfl, -⟩ := hn.rd
  have z20 : w19.heap.size ≤ w20.heap.size := hb.size
  have B_20 := hideIt (below_trans B_19.out hb B_19.out.size)
  have VA_20 := hideIt (box_below VA_19.out hb (lt_box VA_19.out))
  have VS_20 := hideIt (box_below VS_19.out hb (lt_box VS_19.out))
  have VSA_20 := hideIt (box_below VSA_19.out hb (lt_box VSA_19.out))
  have VG_20 := hideIt (box_below VG_19.out hb (lt_box VG_19.out))
  have VGA_20 := hideIt (box_below VGA_19.out hb (lt_box VGA_19.out))
  have QS_20 := hideIt (QS_19.out.below hb (by omega))
  have QSN_20 := hideIt (QSN_19.out.below hb (by omega))
  have QK_20 := hideIt (QK_19.out.below hb (by omega))
  have QM_20 := hideIt (QM_19.out.below hb (by omega))
  have QT_20 := hideIt (QT_19.out.below hb (by omega))
  clear B_19 VA_19 VS_19 VSA_19 VG_19 VGA_19 QS_19 QSN_19 QK_19 QM_19 QT_19 hb
  have QH_20 := hideIt hr
  have QHN_20 := hideIt hn
  clear hr hn
  obtain ⟨w21, hw21⟩ : ∃ w21, w21 = (w20.alloc (.cells #[.slice HaW ws2.length HcW, .slice HaP ps2.length HcP, .slice HaS es2.length HcS, .slice HaQ qs2.length HcQ, .slice HaH hs2.length HcH, .slice HaT td2.length HcT, .int .i64 cd2, .int .i64 vl2, .slice HaN nm2.length HcN, .bool fr2] 50)).alloc (.cells #[.int .i64 cd3, .int .i64 vl3, .slice He nm3.length Hg] 48) := ⟨_, rfl⟩
  have hb : Below w20.heap.size w20 w21 := by rw [hw21]; exact ((Below.refl _ _).alloc (Nat.le_refl _) _).alloc (by simp) _
  obtain ⟨bH, hbH⟩ : ∃ bH : Nat, bH = w20.heap.size := ⟨_, rfl⟩
  obtain ⟨bHA, hbHA⟩ : ∃ bHA : Nat, bHA = w20.heap.size + 1 := ⟨_, rfl⟩
  have VH_21 : Hid (w21.heap[bH]? = some (.cells #[.slice HaW ws2.length HcW, .slice HaP ps2.length HcP, .slice HaS es2.length HcS, .slice HaQ qs2.length HcQ, .slice HaH hs2.length HcH, .slice HaT td2.length HcT, .int .i64 cd2, .int .i64 vl2, .slice HaN nm2.length HcN, .bool fr2] 50 (0, 0))) := by rw [hw21, hbH]; exact at_old (at_new rfl)
  have VHA_21 : Hid (w21.heap[bHA]? = some (.cells #[.int .i64 cd3, .int .i64 vl3, .slice He nm3.length Hg] 48 (0, 0))) := by rw [hw21, hbHA]; exact at_new (by simp)
  have pH : w20.heap.size ≤ bH ∧ bH ≤ w20.heap.size ∧ bH < w21.heap.size := ⟨Nat.le_of_eq hbH.symm, Nat.le_of_eq hbH, lt_box VH_21.out⟩
  have pHA : w20.heap.size + 1 ≤ bHA ∧ bHA ≤ w20.heap.size + 1 ∧ bHA < w21.heap.size := ⟨Nat.le_of_eq hbHA.symm, Nat.le_of_eq hbHA, lt_box VHA_21.out⟩
  have z21 : w20.heap.size ≤ w21.heap.size := hb.size
  have B_21 := hideIt (below_trans B_20.out hb B_20.out.size)
  have VA_21 := hideIt (box_below VA_20.out hb (lt_box VA_20.out))
  have VS_21 := hideIt (box_below VS_20.out hb (lt_box VS_20.out))
  have VSA_21 := hideIt (box_below VSA_20.out hb (lt_box VSA_20.out))
  have VG_21 := hideIt (box_below VG_20.out hb (lt_box VG_20.out))
  have VGA_21 := hideIt (box_below VGA_20.out hb (lt_box VGA_20.out))
  have QS_21 := hideIt (QS_20.out.below hb (by omega))
  have QSN_21 := hideIt (QSN_20.out.below hb (by omega))
  have QK_21 := hideIt (QK_20.out.below hb (by omega))
  have QM_21 := hideIt (QM_20.out.below hb (by omega))
  have QT_21 := hideIt (QT_20.out.below hb (by omega))
  have QH_21 := hideIt (QH_20.out.below hb (by omega))
  have QHN_21 := hideIt (QHN_20.out.below hb (by omega))
  clear B_20 VA_20 VS_20 VSA_20 VG_20 VGA_20 QS_20 QSN_20 QK_20 QM_20 QT_20 QH_20 QHN_20 hb
  go_upto_region 29 with fail
  rw [← hw21, ← hbHA, ← hbH]
  clear hw21 hbH hbHA
  clear IC QT_21
  obtain ⟨h0, h1, h2, h3, h4, h5, h6, h7, h8, h9, -⟩ := ten_cells VH_21.out
  obtain ⟨s0, s1, s2, s3, s4, s5, s6, s7, s8, s9, -⟩ := ten_cells VS_21.out
  go_wp2_with fail
  refine (eqFs_same _ _ ws2 ps2 es2 qs2 hs2 td2 cd2 vl2 nm2 fr2 w21 QH_21.out.rd QS_21.out.rd (by omega) (by omega) (by omega) (by omega) (by omega) (by omega) (by omega)).mono ?_
  rintro e w22 ⟨rfl, hb⟩
  clear h0 h1 h2 h3 h4 h5 h6 h7 h8 h9 s0 s1 s2 s3 s4 s5 s6 s7 s8 s9
  have z22 : w21.heap.size ≤ w22.heap.size := hb.size
  have B_22 := hideIt (below_trans B_21.out hb B_21.out.size)
  have VA_22 := hideIt (box_below VA_21.out hb (lt_box VA_21.out))
  have VS_22 := hideIt (box_below VS_21.out hb (lt_box VS_21.out))
  have VSA_22 := hideIt (box_below VSA_21.out hb (lt_box VSA_21.out))
  have VG_22 := hideIt (box_below VG_21.out hb (lt_box VG_21.out))
  have VGA_22 := hideIt (box_below VGA_21.out hb (lt_box VGA_21.out))
  have VH_22 := hideIt (box_below VH_21.out hb (lt_box VH_21.out))
  have VHA_22 := hideIt (box_below VHA_21.out hb (lt_box VHA_21.out))
  have QS_22 := hideIt (QS_21.out.below hb (by omega))
  have QSN_22 := hideIt (QSN_21.out.below hb (by omega))
  have QK_22 := hideIt (QK_21.out.below hb (by omega))
  have QM_22 := hideIt (QM_21.out.below hb (by omega))
  have QH_22 := hideIt (QH_21.out.below hb (by omega))
  have QHN_22 := hideIt (QHN_21.out.below hb (by omega))
  clear B_21 VA_21 VS_21 VSA_21 VG_21 VGA_21 VH_21 VHA_21 QS_21 QSN_21 QK_21 QM_21 QH_21 QHN_21 hb
  obtain ⟨hq0, hq1, hq2, -⟩ := tri3 VHA_22.out
  obtain ⟨sq0, sq1, sq2, -⟩ := tri3 VSA_22.out
  go_wp2_with fail
  refine (eqAnswer_same cd3 vl3 _ _ nm3 w22 QHN_22.out.rd QSN_22.out.rd (by omega)).mono ?_
  rintro e w23 ⟨rfl, hb⟩
  clear hq0 hq1 hq2 sq0 sq1 sq2
  have z23 : w22.heap.size ≤ w23.heap.size := hb.size
  have B_23 := hideIt (below_trans B_22.out hb B_22.out.size)
  have VA_23 := hideIt (box_below VA_22.out hb (lt_box VA_22.out))
  have VS_23 := hideIt (box_below VS_22.out hb (lt_box VS_22.out))
  have VSA_23 := hideIt (box_below VSA_22.out hb (lt_box VSA_22.out))
  have VG_23 := hideIt (box_below VG_22.out hb (lt_box VG_22.out))
  have VGA_23 := hideIt (box_below VGA_22.out hb (lt_box VGA_22.out))
  have VH_23 := hideIt (box_below VH_22.out hb (lt_box VH_22.out))
  have VHA_23 := hideIt (box_below VHA_22.out hb (lt_box VHA_22.out))
  have QS_23 := hideIt (QS_22.out.below hb (by omega))
  have QSN_23 := hideIt (QSN_22.out.below hb (by omega))
  have QK_23 := hideIt (QK_22.out.below hb (by omega))
  have QM_23 := hideIt (QM_22.out.below hb (by omega))
  have QH_23 := hideIt (QH_22.out.below hb (by omega))
  have QHN_23 := hideIt (QHN_22.out.below hb (by omega))
  clear B_22 VA_22 VS_22 VSA_22 VG_22 VGA_22 VH_22 VHA_22 QS_22 QSN_22 QK_22 QM_22 QH_22 QHN_22 hb
  obtain ⟨g0, g1, g2, g3, g4, g5, g6, g7, g8, g9, -⟩ := ten_cells VG_23.out
  go_wp2_with fail
  refine (heldFs_any _ 1 ws2.length ps2.length es2.length qs2.length hs2.length td2.length cd2 vl2 nm2.length fr2 w23 QK_23.out.mk (by omega) (by omega) (by omega) (by omega) (by omega) (by omega) (by omega) (by decide) (by decide)).mono ?_
  rw [← ekm.out]
  rintro e w24 ⟨rfl, hb⟩
  clear g0 g1 g2 g3 g4 g5 g6 g7 g8 g9
  have z24 : w23.heap.size ≤ w24.heap.size := hb.size
  have B_24 := hideIt (below_trans B_23.out hb B_23.out.size)
  have VA_24 := hideIt (box_below VA_23.out hb (lt_box VA_23.out))
  have VS_24 := hideIt (box_below VS_23.out hb (lt_box VS_23.out))
  have VSA_24 := hideIt (box_below VSA_23.out hb (lt_box VSA_23.out))
  have VG_24 := hideIt (box_below VG_23.out hb (lt_box VG_23.out))
  have VGA_24 := hideIt (box_below VGA_23.out hb (lt_box VGA_23.out))
  have VH_24 := hideIt (box_below VH_23.out hb (lt_box VH_23.out))
  have VHA_24 := hideIt (box_below VHA_23.out hb (lt_box VHA_23.out))
  have QS_24 := hideIt (QS_23.out.below hb (by omega))
  have QSN_24 := hideIt (QSN_23.out.below hb (by omega))
  have QK_24 := hideIt (QK_23.out.below hb (by omega))
  have QM_24 := hideIt (QM_23.out.below hb (by omega))
  have QH_24 := hideIt (QH_23.out.below hb (by omega))
  have QHN_24 := hideIt (QHN_23.out.below hb (by omega))
  clear B_23 VA_23 VS_23 VSA_23 VG_23 VGA_23 VH_23 VHA_23 QS_23 QSN_23 QK_23 QM_23 QH_23 QHN_23 hb
  obtain ⟨gq0, gq1, gq2, -⟩ := tri3 VGA_24.out
  go_wp2_with fail
  refine (heldAnswer_any cd3 vl3 _ nm3.length km w24 (rdt_marks QM_24.out) (by omega) (by omega) (by omega)).mono ?_
  rintro e w25 ⟨rfl, hb⟩
  clear gq0 gq1 gq2
  have z25 : w24.heap.size ≤ w25.heap.size := hb.size
  have B_25 := hideIt (below_trans B_24.out hb B_24.out.size)
  have VA_25 := hideIt (box_below VA_24.out hb (lt_box VA_24.out))
  have VS_25 := hideIt (box_below VS_24.out hb (lt_box VS_24.out))
  have VSA_25 := hideIt (box_below VSA_24.out hb (lt_box VSA_24.out))
  have VG_25 := hideIt (box_below VG_24.out hb (lt_box VG_24.out))
  have VGA_25 := hideIt (box_below VGA_24.out hb (lt_box VGA_24.out))
  have VH_25 := hideIt (box_below VH_24.out hb (lt_box VH_24.out))
  have VHA_25 := hideIt (box_below VHA_24.out hb (lt_box VHA_24.out))
  have QS_25 := hideIt (QS_24.out.below hb (by omega))
  have QSN_25 := hideIt (QSN_24.out.below hb (by omega))
  have QK_25 := hideIt (QK_24.out.below hb (by omega))
  have QM_25 := hideIt (QM_24.out.below hb (by omega))
  have QH_25 := hideIt (QH_24.out.below hb (by omega))
  have QHN_25 := hideIt (QHN_24.out.below hb (by omega))
  clear B_24 VA_24 VS_24 VSA_24 VG_24 VGA_24 VH_24 VHA_24 QS_24 QSN_24 QK_24 QM_24 QH_24 QHN_24 hb
  go_wp2
  go_ret
  exact ⟨rfl, FB.out _ B_25.out⟩
end Go.Proofs.YtipklbnfobckaaaGreatDoor
