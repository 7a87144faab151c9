/- StepFs, FinishFs, DecayFs: by the model. -/
import Derived.Test.YtipklbnfobckaaaGreatDoorZBK
import Derived.Test.YtipklbnfobckaaaGreatDoorZBS
namespace Go.Proofs.YtipklbnfobckaaaGreatDoor
open Go.RowKit

theorem fs_heat {w : World} {aW aP aS aQ aH aT aN : Option Addr} {cW cP cS cQ cH cT cN : Nat} {ws : List Int} {ps : List St} {es : List Int} {qs : List Se} {hs : List Int} {td : List Mi} {cd vl : Int} {nm : List ByteArray} {fr : Bool} (h : RdF w (.agg #[.slice aW ws.length cW, .slice aP ps.length cP, .slice aS es.length cS, .slice aQ qs.length cQ, .slice aH hs.length cH, .slice aT td.length cT, .int .i64 cd, .int .i64 vl, .slice aN nm.length cN, .bool fr]) ws ps es qs hs td cd vl nm fr) : RdI w (.slice aH hs.length cH) hs := by
  obtain ⟨bW, dW, bP, dP, bS, dS, bQ, dQ, bH, dH, bT, dT, bN, dN, e, -, r, -, -⟩ := h
  cases e
  exact r
theorem fs_heated {w : World} {aW aP aS aQ aH aT aN : Option Addr} {cW cP cS cQ cH cT cN : Nat} {ws : List Int} {ps : List St} {es : List Int} {qs : List Se} {hs : List Int} {td : List Mi} {cd vl : Int} {nm : List ByteArray} {fr : Bool} {hs2 : List Int} {a2 : Option Addr} {c2 : Nat} (h : RdF w (.agg #[.slice aW ws.length cW, .slice aP ps.length cP, .slice aS es.length cS, .slice aQ qs.length cQ, .slice aH hs.length cH, .slice aT td.length cT, .int .i64 cd, .int .i64 vl, .slice aN nm.length cN, .bool fr]) ws ps es qs hs td cd vl nm fr) (r : RdI w (.slice a2 hs2.length c2) hs2) : RdF w (.agg #[.slice aW ws.length cW, .slice aP ps.length cP, .slice aS es.length cS, .slice aQ qs.length cQ, .slice a2 hs2.length c2, .slice aT td.length cT, .int .i64 cd, .int .i64 vl, .slice aN nm.length cN, .bool fr]) ws ps es qs hs2 td cd vl nm fr := by
  obtain ⟨bW, dW, bP, dP, bS, dS, bQ, dQ, bH, dH, bT, dT, bN, dN, e, d, -, t, n⟩ := h
  cases e
  exact ⟨_, _, _, _, _, _, _, _, _, _, _, _, _, _, rfl, d, r, t, n⟩
set_option maxRecDepth 100000 in
set_option maxHeartbeats 16000000 in
theorem l10Step_nil (v : Value) (ws : List Int) (ps : List St) (es : List Int) (qs : List Se) (hs : List Int) (td : List Mi) (cd vl : Int) (nm : List ByteArray) (fr : Bool) (w : World) (htd : td = []) (h : RdF w v ws ps es qs hs td cd vl nm fr) :
    Calls Tryz.prog 77 #[v] w fun e w' => ∃ v', e = .returned (.tuple #[v', .int .i64 16]) ∧ RdF w' v' ws ps es qs hs td cd vl nm fr ∧ Below w.heap.size w w' := by
  have HR := hideIt h
  obtain ⟨aW, cW, aP, cP, aS, cS, aQ, cQ, aH, cH, aT, cT, aN, cN, rfl, -⟩ := id h
  subst htd
  clear h
  obtain ⟨V, hV⟩ : ∃ V, V = ((w.alloc (.cells #[.slice aW ws.length cW, .slice aP ps.length cP, .slice aS es.length cS, .slice aQ qs.length cQ, .slice aH hs.length cH, .slice aT 0 cT, .int .i64 cd, .int .i64 vl, .slice aN nm.length cN, .bool fr] 50)).alloc (.cells #[.slice none 0 0, .slice none 0 0, .slice none 0 0, .slice none 0 0, .slice none 0 0, .slice none 0 0, .int .i64 0, .int .i64 0, .slice none 0 0, .bool false] 50)) := ⟨_, rfl⟩
  have zV : w.heap.size + 2 ≤ V.heap.size := by rw [hV]; simp <;> omega
  have B_V : Hid (Below w.heap.size w V) := by rw [hV]; exact (((Below.refl _ _).alloc (by simp <;> omega) _).alloc (by simp <;> omega) _)
  have X0_V : Hid (V.heap[w.heap.size]? = some (.cells #[.slice aW ws.length cW, .slice aP ps.length cP, .slice aS es.length cS, .slice aQ qs.length cQ, .slice aH hs.length cH, .slice aT 0 cT, .int .i64 cd, .int .i64 vl, .slice aN nm.length cN, .bool fr] 50 (0, 0))) := by rw [hV]; exact (at_old (at_new rfl))
  have X1_V : Hid (V.heap[w.heap.size + 1]? = some (.cells #[.slice none 0 0, .slice none 0 0, .slice none 0 0, .slice none 0 0, .slice none 0 0, .slice none 0 0, .int .i64 0, .int .i64 0, .slice none 0 0, .bool false] 50 (0, 0))) := by rw [hV]; exact (at_new (by simp))
  go_enter Tryz.func77, Tryz.ntmps77
  go_upto_region 1 with fail
  rw [← hV]
  clear hV
  obtain ⟨c0_0, c0_1, c0_2, c0_3, c0_4, c0_5, c0_6, c0_7, c0_8, c0_9, -⟩ := ten_cells X0_V.out
  obtain ⟨d0, d1, d2, d3, d4, d5, d6, d7, d8, d9, g0, g1, g2, g3, g4, g5, g6, g7, g8, g9⟩ := ten_cells X1_V.out
  obtain ⟨w1, hw1⟩ : ∃ w1, w1 = ((((((((((V.setCell ⟨w.heap.size + 1, 0, none⟩ (.slice aW ws.length cW)).setCell ⟨w.heap.size + 1, 1, none⟩ (.slice aP ps.length cP)).setCell ⟨w.heap.size + 1, 2, none⟩ (.slice aS es.length cS)).setCell ⟨w.heap.size + 1, 3, none⟩ (.slice aQ qs.length cQ)).setCell ⟨w.heap.size + 1, 4, none⟩ (.slice aH hs.length cH)).setCell ⟨w.heap.size + 1, 5, none⟩ (.slice aT 0 cT)).setCell ⟨w.heap.size + 1, 6, none⟩ (.int .i64 cd)).setCell ⟨w.heap.size + 1, 7, none⟩ (.int .i64 vl)).setCell ⟨w.heap.size + 1, 8, none⟩ (.slice aN nm.length cN)).setCell ⟨w.heap.size + 1, 9, none⟩ (.bool fr)) := ⟨_, rfl⟩
  have Ow1 : Outside (w.heap.size + 1) (w.heap.size + 1 + 1) V w1 := by
    rw [hw1]
    repeat (refine Outside.setCell ?_ (by simp only; omega) (by simp only; omega) _)
    exact Outside.refl _ _ _
  have zw1 : V.heap.size ≤ w1.heap.size ∧ w1.heap.size ≤ V.heap.size := by rw [hw1]; simp [World.setCell]
  have B_w1 := hideIt (B_V.out.trans (Ow1.below (B := w.heap.size) (by omega) B_V.out.size))
  have X0_w1 := hideIt ((Ow1.block (w.heap.size) (lt_box X0_V.out) (by omega)).trans X0_V.out)
  have X1_w1 : Hid (w1.heap[w.heap.size + 1]? = some (.cells #[.slice aW ws.length cW, .slice aP ps.length cP, .slice aS es.length cS, .slice aQ qs.length cQ, .slice aH hs.length cH, .slice aT 0 cT, .int .i64 cd, .int .i64 vl, .slice aN nm.length cN, .bool fr] 50 (0, 0))) := by rw [hw1]; exact (ten_set9 (ten_set8 (ten_set7 (ten_set6 (ten_set5 (ten_set4 (ten_set3 (ten_set2 (ten_set1 (ten_set0 X1_V.out _) _) _) _) _) _) _) _) _) _)
  clear Ow1
  go_wp2
  refine bodyPost_ret (v := .tuple #[.agg #[.slice aW ws.length cW, .slice aP ps.length cP, .slice aS es.length cS, .slice aQ qs.length cQ, .slice aH hs.length cH, .slice aT 0 cT, .int .i64 cd, .int .i64 vl, .slice aN nm.length cN, .bool fr], .int .i64 16]) (by simp [results, Tryz.results77, go_sem, d0, d1, d2, d3, d4, d5, d6, d7, d8, d9]) rfl ?_
  rw [← hw1]
  exact ⟨_, rfl, HR.out.below B_w1.out, B_w1.out⟩
set_option maxRecDepth 100000 in
set_option maxHeartbeats 16000000 in
theorem specStepFs_any (v : Value) (ws : List Int) (ps : List St) (es : List Int) (qs : List Se) (hs : List Int) (td : List Mi) (cd vl : Int) (nm : List ByteArray) (fr : Bool) (w : World) (h : RdF w v ws ps es qs hs td cd vl nm fr) (hws : ws.length ≤ 1048576) (hps : ps.length ≤ 1048576) (hes : es.length ≤ 1048576) (hqs : qs.length ≤ 1048576) (hhs : hs.length ≤ 1048576) (htd : td.length ≤ 1048576) (hnm : nm.length ≤ 1048576) :
    Calls Tryz.prog 24 #[v] w fun e w' => FzOut w w' e (stpR ws ps es qs hs td cd vl nm fr) := by
  have LF := hideIt (fun w1 (hb : Below w.heap.size w w1) => specFsOK_any v ws ps es qs hs td cd vl nm fr w1 (h.below hb) hws hps hes hqs hhs htd hnm)
  have HR := hideIt h
  obtain ⟨aW, cW, aP, cP, aS, cS, aQ, cQ, aH, cH, aT, cT, aN, cN, rfl, -⟩ := id h
  clear h
  by_cases y : fsB ws ps es qs hs td cd vl nm fr = true
  · simp only [y] at LF
    obtain ⟨f, c, eR, hl, IN⟩ : ∃ (f : Fz) (c : Int), stpR ws ps es qs hs td cd vl nm fr = (f, c) ∧ (f.ws.length ≤ 1048576 ∧ f.ps.length ≤ 1048576 ∧ f.es.length ≤ 1048576 ∧ f.qs.length ≤ 1048576 ∧ f.hs.length ≤ 1048576 ∧ f.td.length ≤ 1048576 ∧ f.nm.length ≤ 1048576) ∧ Hid (∀ w1, Below w.heap.size w w1 → Calls Tryz.prog 77 #[.agg #[.slice aW ws.length cW, .slice aP ps.length cP, .slice aS es.length cS, .slice aQ qs.length cQ, .slice aH hs.length cH, .slice aT td.length cT, .int .i64 cd, .int .i64 vl, .slice aN nm.length cN, .bool fr]] w1 fun e w' => ∃ v', e = .returned (.tuple #[v', .int .i64 c]) ∧ RdF w' v' f.ws f.ps f.es f.qs f.hs f.td f.cd f.vl f.nm f.fr ∧ Below w1.heap.size w1 w') := by
      have Y := fs_yes y
      have ln := Y.len
      have tl := Y.tl
      unfold stpR
      rw [if_pos y]
      cases htd2 : td with
      | nil =>
        refine ⟨_, _, rfl, ?_, fun w1 hb => ?_⟩
        · simp only [List.length_nil]; omega
        · have := l10Step_nil _ ws ps es qs hs td cd vl nm fr w1 htd2 (HR.out.below hb)
          rw [htd2] at this
          exact this
      | cons m t =>
        have hm : m ∈ td := by rw [htd2]; exact List.mem_cons_self
        have ok := do_len m Y.pm Y.bl
        rw [htd2] at tl
        simp only [List.length_cons] at tl
        refine ⟨_, _, rfl, ?_, fun w1 hb => ?_⟩
        · simp only; omega
        · have := l10Step_gen _ m t ws ps es qs hs td cd vl nm fr w1 htd2 (HR.out.below hb) Y.pm Y.bl (Y.tm m hm) (Y.room hm)
          rw [htd2] at this
          exact this
    rw [eR]
    obtain ⟨ws2, ps2, es2, qs2, hs2, td2, cd2, vl2, nm2, fr2⟩ := f
    have OW := hideIt (fun v1 w1 (hr : RdF w1 v1 ws2 ps2 es2 qs2 hs2 td2 cd2 vl2 nm2 fr2) => l10Own_gen v1 ws2 ps2 es2 qs2 hs2 td2 cd2 vl2 nm2 fr2 w1 hr hl.1 hl.2.1 hl.2.2.1 hl.2.2.2.1 hl.2.2.2.2.1 hl.2.2.2.2.2.1 hl.2.2.2.2.2.2)
    simp only at IN OW ⊢
    clear eR hl y HR
    obtain ⟨V, hV⟩ : ∃ V, V = ((w.alloc (.cells #[.slice aW ws.length cW, .slice aP ps.length cP, .slice aS es.length cS, .slice aQ qs.length cQ, .slice aH hs.length cH, .slice aT td.length cT, .int .i64 cd, .int .i64 vl, .slice aN nm.length cN, .bool fr] 50)).alloc (.cells #[.slice none 0 0, .slice none 0 0, .slice none 0 0, .slice none 0 0, .slice none 0 0, .slice none 0 0, .int .i64 0, .int .i64 0, .slice none 0 0, .bool false] 50)) := ⟨_, rfl⟩
    have zV : w.heap.size + 2 ≤ V.heap.size := by rw [hV]; simp <;> omega
    have B_V : Hid (Below w.heap.size w V) := by rw [hV]; exact (((Below.refl _ _).alloc (by simp <;> omega) _).alloc (by simp <;> omega) _)
    have X0_V : Hid (V.heap[w.heap.size]? = some (.cells #[.slice aW ws.length cW, .slice aP ps.length cP, .slice aS es.length cS, .slice aQ qs.length cQ, .slice aH hs.length cH, .slice aT td.length cT, .int .i64 cd, .int .i64 vl, .slice aN nm.length cN, .bool fr] 50 (0, 0))) := by rw [hV]; exact (at_old (at_new rfl))
    have X1_V : Hid (V.heap[w.heap.size + 1]? = some (.cells #[.slice none 0 0, .slice none 0 0, .slice none 0 0, .slice none 0 0, .slice none 0 0, .slice none 0 0, .int .i64 0, .int .i64 0, .slice none 0 0, .bool false] 50 (0, 0))) := by rw [hV]; exact (at_new (by simp))
    go_enter Tryz.func24, Tryz.ntmps24
    go_upto_region 1 with fail
    rw [← hV]
    clear hV
    obtain ⟨c0_0, c0_1, c0_2, c0_3, c0_4, c0_5, c0_6, c0_7, c0_8, c0_9, -⟩ := ten_cells X0_V.out
    go_wp2_with fail
    refine (LF.out V B_V.out).mono ?_
    rintro e w1 ⟨rfl, hb⟩
    clear c0_0 c0_1 c0_2 c0_3 c0_4 c0_5 c0_6 c0_7 c0_8 c0_9
    have zw1 : V.heap.size ≤ w1.heap.size := hb.size
    have B_w1 := hideIt (below_trans B_V.out hb B_V.out.size)
    have X0_w1 := hideIt (box_below X0_V.out hb (lt_box X0_V.out))
    have X1_w1 := hideIt (box_below X1_V.out hb (lt_box X1_V.out))
    clear B_V hb X0_V X1_V
    clear LF
    obtain ⟨c0_0, c0_1, c0_2, c0_3, c0_4, c0_5, c0_6, c0_7, c0_8, c0_9, -⟩ := ten_cells X0_w1.out
    go_wp2_with fail
    refine (IN.out w1 B_w1.out).mono ?_
    rintro e w2 ⟨v', rfl, hr, hb⟩
    obtain ⟨iW, jW, iP, jP, iS, jS, iQ, jQ, iH, jH, iT, jT, iN, jN, rfl, -⟩ := id hr
    clear c0_0 c0_1 c0_2 c0_3 c0_4 c0_5 c0_6 c0_7 c0_8 c0_9
    have zw2 : w1.heap.size ≤ w2.heap.size := hb.size
    have B_w2 := hideIt (below_trans B_w1.out hb B_w1.out.size)
    have X0_w2 := hideIt (box_below X0_w1.out hb (lt_box X0_w1.out))
    have X1_w2 := hideIt (box_below X1_w1.out hb (lt_box X1_w1.out))
    clear B_w1 hb X0_w1 X1_w1
    have RF_w2 := hideIt hr
    clear hr IN
    obtain ⟨w3, hw3⟩ : ∃ w3, w3 = w2.alloc (.cells #[.slice iW ws2.length jW, .slice iP ps2.length jP, .slice iS es2.length jS, .slice iQ qs2.length jQ, .slice iH hs2.length jH, .slice iT td2.length jT, .int .i64 cd2, .int .i64 vl2, .slice iN nm2.length jN, .bool fr2] 50) := ⟨_, rfl⟩
    have hb : Below w2.heap.size w2 w3 := by rw [hw3]; exact (Below.refl _ _).alloc (Nat.le_refl _) _
    obtain ⟨bX, hbX⟩ : ∃ bX : Nat, bX = w2.heap.size := ⟨_, rfl⟩
    have VX : Hid (w3.heap[bX]? = some (.cells #[.slice iW ws2.length jW, .slice iP ps2.length jP, .slice iS es2.length jS, .slice iQ qs2.length jQ, .slice iH hs2.length jH, .slice iT td2.length jT, .int .i64 cd2, .int .i64 vl2, .slice iN nm2.length jN, .bool fr2] 50 (0, 0))) := by rw [hw3, hbX]; exact at_new rfl
    have zw3 : w2.heap.size ≤ w3.heap.size := hb.size
    have B_w3 := hideIt (below_trans B_w2.out hb B_w2.out.size)
    have X0_w3 := hideIt (box_below X0_w2.out hb (lt_box X0_w2.out))
    have X1_w3 := hideIt (box_below X1_w2.out hb (lt_box X1_w2.out))
    have RF_w3 := hideIt (RF_w2.out.below hb)
    clear B_w2 hb X0_w2 X1_w2 RF_w2
    go_upto_region 4 with fail
    rw [← hw3, ← hbX]
    clear hw3 hbX
    obtain ⟨x0, x1, x2, x3, x4, x5, x6, x7, x8, x9, -⟩ := ten_cells VX.out
    go_wp2_with fail
    refine (OW.out _ w3 RF_w3.out).mono ?_
    rintro e w4 ⟨vO, rfl, hr, hb⟩
    obtain ⟨oW, pW, oP, pP, oS, pS, oQ, pQ, oH, pH, oT, pT, oN, pN, eo⟩ := hr.form
    subst eo
    clear x0 x1 x2 x3 x4 x5 x6 x7 x8 x9
    have zw4 : w3.heap.size ≤ w4.heap.size := hb.size
    have B_w4 := hideIt (below_trans B_w3.out hb B_w3.out.size)
    have X0_w4 := hideIt (box_below X0_w3.out hb (lt_box X0_w3.out))
    have X1_w4 := hideIt (box_below X1_w3.out hb (lt_box X1_w3.out))
    have RF_w4 := hideIt (RF_w3.out.below hb)
    clear B_w3 hb X0_w3 X1_w3 RF_w3
    have QF_w4 : Hid (RowF w4 w3.heap.size w4.heap.size _ ws2 ps2 es2 qs2 hs2 td2 cd2 vl2 nm2 fr2) := hr
    clear hr RF_w4 OW
    obtain ⟨d0, d1, d2, d3, d4, d5, d6, d7, d8, d9, g0, g1, g2, g3, g4, g5, g6, g7, g8, g9⟩ := ten_cells X1_w4.out
    obtain ⟨w5, hw5⟩ : ∃ w5, w5 = ((((((((((w4.setCell ⟨w.heap.size + 1, 0, none⟩ (.slice oW ws2.length pW)).setCell ⟨w.heap.size + 1, 1, none⟩ (.slice oP ps2.length pP)).setCell ⟨w.heap.size + 1, 2, none⟩ (.slice oS es2.length pS)).setCell ⟨w.heap.size + 1, 3, none⟩ (.slice oQ qs2.length pQ)).setCell ⟨w.heap.size + 1, 4, none⟩ (.slice oH hs2.length pH)).setCell ⟨w.heap.size + 1, 5, none⟩ (.slice oT td2.length pT)).setCell ⟨w.heap.size + 1, 6, none⟩ (.int .i64 cd2)).setCell ⟨w.heap.size + 1, 7, none⟩ (.int .i64 vl2)).setCell ⟨w.heap.size + 1, 8, none⟩ (.slice oN nm2.length pN)).setCell ⟨w.heap.size + 1, 9, none⟩ (.bool fr2)) := ⟨_, rfl⟩
    have Ow5 : Outside (w.heap.size + 1) (w.heap.size + 1 + 1) w4 w5 := by
      rw [hw5]
      repeat (refine Outside.setCell ?_ (by simp only; omega) (by simp only; omega) _)
      exact Outside.refl _ _ _
    have zw5 : w4.heap.size ≤ w5.heap.size ∧ w5.heap.size ≤ w4.heap.size := by rw [hw5]; simp [World.setCell]
    have B_w5 := hideIt (B_w4.out.trans (Ow5.below (B := w.heap.size) (by omega) B_w4.out.size))
    have X0_w5 := hideIt ((Ow5.block (w.heap.size) (lt_box X0_w4.out) (by omega)).trans X0_w4.out)
    have X1_w5 : Hid (w5.heap[w.heap.size + 1]? = some (.cells #[.slice oW ws2.length pW, .slice oP ps2.length pP, .slice oS es2.length pS, .slice oQ qs2.length pQ, .slice oH hs2.length pH, .slice oT td2.length pT, .int .i64 cd2, .int .i64 vl2, .slice oN nm2.length pN, .bool fr2] 50 (0, 0))) := by rw [hw5]; exact (ten_set9 (ten_set8 (ten_set7 (ten_set6 (ten_set5 (ten_set4 (ten_set3 (ten_set2 (ten_set1 (ten_set0 X1_w4.out _) _) _) _) _) _) _) _) _) _)
    have QF_w5 := hideIt (QF_w4.out.outside Ow5 (by omega) (by omega))
    clear Ow5
    go_wp2
    refine bodyPost_ret (v := .tuple #[.agg #[.slice oW ws2.length pW, .slice oP ps2.length pP, .slice oS es2.length pS, .slice oQ qs2.length pQ, .slice oH hs2.length pH, .slice oT td2.length pT, .int .i64 cd2, .int .i64 vl2, .slice oN nm2.length pN, .bool fr2], .int .i64 c]) (by simp [results, Tryz.results24, go_sem, d0, d1, d2, d3, d4, d5, d6, d7, d8, d9]) rfl ?_
    rw [← hw5]
    exact ⟨_, rfl, QF_w5.out.wide (by omega) (by omega), B_w5.out⟩
  · have y' : fsB ws ps es qs hs td cd vl nm fr = false := by simpa using y
    simp only [y'] at LF
    clear y' HR
    obtain ⟨V, hV⟩ : ∃ V, V = ((w.alloc (.cells #[.slice aW ws.length cW, .slice aP ps.length cP, .slice aS es.length cS, .slice aQ qs.length cQ, .slice aH hs.length cH, .slice aT td.length cT, .int .i64 cd, .int .i64 vl, .slice aN nm.length cN, .bool fr] 50)).alloc (.cells #[.slice none 0 0, .slice none 0 0, .slice none 0 0, .slice none 0 0, .slice none 0 0, .slice none 0 0, .int .i64 0, .int .i64 0, .slice none 0 0, .bool false] 50)) := ⟨_, rfl⟩
    have zV : w.heap.size + 2 ≤ V.heap.size := by rw [hV]; simp <;> omega
    have B_V : Hid (Below w.heap.size w V) := by rw [hV]; exact (((Below.refl _ _).alloc (by simp <;> omega) _).alloc (by simp <;> omega) _)
    have X0_V : Hid (V.heap[w.heap.size]? = some (.cells #[.slice aW ws.length cW, .slice aP ps.length cP, .slice aS es.length cS, .slice aQ qs.length cQ, .slice aH hs.length cH, .slice aT td.length cT, .int .i64 cd, .int .i64 vl, .slice aN nm.length cN, .bool fr] 50 (0, 0))) := by rw [hV]; exact (at_old (at_new rfl))
    have X1_V : Hid (V.heap[w.heap.size + 1]? = some (.cells #[.slice none 0 0, .slice none 0 0, .slice none 0 0, .slice none 0 0, .slice none 0 0, .slice none 0 0, .int .i64 0, .int .i64 0, .slice none 0 0, .bool false] 50 (0, 0))) := by rw [hV]; exact (at_new (by simp))
    go_enter Tryz.func24, Tryz.ntmps24
    go_upto_region 1 with fail
    rw [← hV]
    clear hV
    obtain ⟨c0_0, c0_1, c0_2, c0_3, c0_4, c0_5, c0_6, c0_7, c0_8, c0_9, -⟩ := ten_cells X0_V.out
    go_wp2_with fail
    refine (LF.out V B_V.out).mono ?_
    rintro e w1 ⟨rfl, hb⟩
    clear c0_0 c0_1 c0_2 c0_3 c0_4 c0_5 c0_6 c0_7 c0_8 c0_9
    have zw1 : V.heap.size ≤ w1.heap.size := hb.size
    have B_w1 := hideIt (below_trans B_V.out hb B_V.out.size)
    have X0_w1 := hideIt (box_below X0_V.out hb (lt_box X0_V.out))
    have X1_w1 := hideIt (box_below X1_V.out hb (lt_box X1_V.out))
    clear B_V hb X0_V X1_V
    clear LF
    obtain ⟨d0, d1, d2, d3, d4, d5, d6, d7, d8, d9, g0, g1, g2, g3, g4, g5, g6, g7, g8, g9⟩ := ten_cells X1_w1.out
    obtain ⟨w2, hw2⟩ : ∃ w2, w2 = ((((((((((w1.setCell ⟨w.heap.size + 1, 0, none⟩ (.slice none 0 0)).setCell ⟨w.heap.size + 1, 1, none⟩ (.slice none 0 0)).setCell ⟨w.heap.size + 1, 2, none⟩ (.slice none 0 0)).setCell ⟨w.heap.size + 1, 3, none⟩ (.slice none 0 0)).setCell ⟨w.heap.size + 1, 4, none⟩ (.slice none 0 0)).setCell ⟨w.heap.size + 1, 5, none⟩ (.slice none 0 0)).setCell ⟨w.heap.size + 1, 6, none⟩ (.int .i64 0)).setCell ⟨w.heap.size + 1, 7, none⟩ (.int .i64 0)).setCell ⟨w.heap.size + 1, 8, none⟩ (.slice none 0 0)).setCell ⟨w.heap.size + 1, 9, none⟩ (.bool false)) := ⟨_, rfl⟩
    have Ow2 : Outside (w.heap.size + 1) (w.heap.size + 1 + 1) w1 w2 := by
      rw [hw2]
      repeat (refine Outside.setCell ?_ (by simp only; omega) (by simp only; omega) _)
      exact Outside.refl _ _ _
    have zw2 : w1.heap.size ≤ w2.heap.size ∧ w2.heap.size ≤ w1.heap.size := by rw [hw2]; simp [World.setCell]
    have B_w2 := hideIt (B_w1.out.trans (Ow2.below (B := w.heap.size) (by omega) B_w1.out.size))
    have X0_w2 := hideIt ((Ow2.block (w.heap.size) (lt_box X0_w1.out) (by omega)).trans X0_w1.out)
    have X1_w2 : Hid (w2.heap[w.heap.size + 1]? = some (.cells #[.slice none 0 0, .slice none 0 0, .slice none 0 0, .slice none 0 0, .slice none 0 0, .slice none 0 0, .int .i64 0, .int .i64 0, .slice none 0 0, .bool false] 50 (0, 0))) := by rw [hw2]; exact (ten_set9 (ten_set8 (ten_set7 (ten_set6 (ten_set5 (ten_set4 (ten_set3 (ten_set2 (ten_set1 (ten_set0 X1_w1.out _) _) _) _) _) _) _) _) _) _)
    clear Ow2
    go_wp2
    refine bodyPost_ret (v := .tuple #[.agg #[.slice none 0 0, .slice none 0 0, .slice none 0 0, .slice none 0 0, .slice none 0 0, .slice none 0 0, .int .i64 0, .int .i64 0, .slice none 0 0, .bool false], .int .i64 1]) (by simp [results, Tryz.results24, go_sem, d0, d1, d2, d3, d4, d5, d6, d7, d8, d9]) rfl ?_
    rw [← hw2]
    rw [show stpR ws ps es qs hs td cd vl nm fr = (zz, 1) from if_neg y]
    exact ⟨_, rfl, (RowF.zero _ _).wide (Nat.le_refl _) (by omega), B_w2.out⟩
set_option maxRecDepth 100000 in
set_option maxHeartbeats 16000000 in
theorem specFinishFs_any (v : Value) (ws : List Int) (ps : List St) (es : List Int) (qs : List Se) (hs : List Int) (td : List Mi) (cd vl : Int) (nm : List ByteArray) (fr : Bool) (w : World) (h : RdF w v ws ps es qs hs td cd vl nm fr) (hws : ws.length ≤ 1048576) (hps : ps.length ≤ 1048576) (hes : es.length ≤ 1048576) (hqs : qs.length ≤ 1048576) (hhs : hs.length ≤ 1048576) (htd : td.length ≤ 1048576) (hnm : nm.length ≤ 1048576) :
    Calls Tryz.prog 26 #[v] w fun e w' => FzOut w w' e (finR ws ps es qs hs td cd vl nm fr) := by
  have LF := hideIt (fun w1 (hb : Below w.heap.size w w1) => specFsOK_any v ws ps es qs hs td cd vl nm fr w1 (h.below hb) hws hps hes hqs hhs htd hnm)
  have HR := hideIt h
  obtain ⟨aW, cW, aP, cP, aS, cS, aQ, cQ, aH, cH, aT, cT, aN, cN, rfl, -⟩ := id h
  clear h
  by_cases y : fsB ws ps es qs hs td cd vl nm fr = true
  · simp only [y] at LF
    obtain ⟨f, c, eR, hl, IN⟩ : ∃ (f : Fz) (c : Int), (finR ws ps es qs hs td cd vl nm fr = (f, c) ∧ c = 0) ∧ (f.ws.length ≤ 1048576 ∧ f.ps.length ≤ 1048576 ∧ f.es.length ≤ 1048576 ∧ f.qs.length ≤ 1048576 ∧ f.hs.length ≤ 1048576 ∧ f.td.length ≤ 1048576 ∧ f.nm.length ≤ 1048576) ∧ Hid (∀ w1, Below w.heap.size w w1 → Calls Tryz.prog 80 #[.agg #[.slice aW ws.length cW, .slice aP ps.length cP, .slice aS es.length cS, .slice aQ qs.length cQ, .slice aH hs.length cH, .slice aT td.length cT, .int .i64 cd, .int .i64 vl, .slice aN nm.length cN, .bool fr]] w1 fun e w' => ∃ v', e = .returned v' ∧ RdF w' v' f.ws f.ps f.es f.qs f.hs f.td f.cd f.vl f.nm f.fr ∧ Below w1.heap.size w1 w') := by
      have Y := fs_yes y
      have ln := Y.len
      have p1 := pmB_len Y.done.1
      have p2 := blkB_len Y.done.2
      unfold finR
      rw [if_pos y]
      refine ⟨_, _, ⟨rfl, rfl⟩, ?_, fun w1 hb => ?_⟩
      · simp only [List.length_nil]; omega
      · exact l10Finish_gen _ ws ps es qs hs td cd vl nm fr w1 (HR.out.below hb) Y
    obtain ⟨eR, rfl⟩ := eR
    rw [eR]
    obtain ⟨ws2, ps2, es2, qs2, hs2, td2, cd2, vl2, nm2, fr2⟩ := f
    have OW := hideIt (fun v1 w1 (hr : RdF w1 v1 ws2 ps2 es2 qs2 hs2 td2 cd2 vl2 nm2 fr2) => l10Own_gen v1 ws2 ps2 es2 qs2 hs2 td2 cd2 vl2 nm2 fr2 w1 hr hl.1 hl.2.1 hl.2.2.1 hl.2.2.2.1 hl.2.2.2.2.1 hl.2.2.2.2.2.1 hl.2.2.2.2.2.2)
    simp only at IN OW ⊢
    clear eR hl y HR
    obtain ⟨V, hV⟩ : ∃ V, V = ((w.alloc (.cells #[.slice aW ws.length cW, .slice aP ps.length cP, .slice aS es.length cS, .slice aQ qs.length cQ, .slice aH hs.length cH, .slice aT td.length cT, .int .i64 cd, .int .i64 vl, .slice aN nm.length cN, .bool fr] 50)).alloc (.cells #[.slice none 0 0, .slice none 0 0, .slice none 0 0, .slice none 0 0, .slice none 0 0, .slice none 0 0, .int .i64 0, .int .i64 0, .slice none 0 0, .bool false] 50)) := ⟨_, rfl⟩
    have zV : w.heap.size + 2 ≤ V.heap.size := by rw [hV]; simp <;> omega
    have B_V : Hid (Below w.heap.size w V) := by rw [hV]; exact (((Below.refl _ _).alloc (by simp <;> omega) _).alloc (by simp <;> omega) _)
    have X0_V : Hid (V.heap[w.heap.size]? = some (.cells #[.slice aW ws.length cW, .slice aP ps.length cP, .slice aS es.length cS, .slice aQ qs.length cQ, .slice aH hs.length cH, .slice aT td.length cT, .int .i64 cd, .int .i64 vl, .slice aN nm.length cN, .bool fr] 50 (0, 0))) := by rw [hV]; exact (at_old (at_new rfl))
    have X1_V : Hid (V.heap[w.heap.size + 1]? = some (.cells #[.slice none 0 0, .slice none 0 0, .slice none 0 0, .slice none 0 0, .slice none 0 0, .slice none 0 0, .int .i64 0, .int .i64 0, .slice none 0 0, .bool false] 50 (0, 0))) := by rw [hV]; exact (at_new (by simp))
    go_enter Tryz.func26, Tryz.ntmps26
    go_upto_region 1 with fail
    rw [← hV]
    clear hV
    obtain ⟨c0_0, c0_1, c0_2, c0_3, c0_4, c0_5, c0_6, c0_7, c0_8, c0_9, -⟩ := ten_cells X0_V.out
    go_wp2_with fail
    refine (LF.out V B_V.out).mono ?_
    rintro e w1 ⟨rfl, hb⟩
    clear c0_0 c0_1 c0_2 c0_3 c0_4 c0_5 c0_6 c0_7 c0_8 c0_9
    have zw1 : V.heap.size ≤ w1.heap.size := hb.size
    have B_w1 := hideIt (below_trans B_V.out hb B_V.out.size)
    have X0_w1 := hideIt (box_below X0_V.out hb (lt_box X0_V.out))
    have X1_w1 := hideIt (box_below X1_V.out hb (lt_box X1_V.out))
    clear B_V hb X0_V X1_V
    clear LF
    obtain ⟨c0_0, c0_1, c0_2, c0_3, c0_4, c0_5, c0_6, c0_7, c0_8, c0_9, -⟩ := ten_cells X0_w1.out
    go_wp2_with fail
    refine (IN.out w1 B_w1.out).mono ?_
    rintro e w2 ⟨v', rfl, hr, hb⟩
    obtain ⟨iW, jW, iP, jP, iS, jS, iQ, jQ, iH, jH, iT, jT, iN, jN, rfl, -⟩ := id hr
    clear c0_0 c0_1 c0_2 c0_3 c0_4 c0_5 c0_6 c0_7 c0_8 c0_9
    have zw2 : w1.heap.size ≤ w2.heap.size := hb.size
    have B_w2 := hideIt (below_trans B_w1.out hb B_w1.out.size)
    have X0_w2 := hideIt (box_below X0_w1.out hb (lt_box X0_w1.out))
    have X1_w2 := hideIt (box_below X1_w1.out hb (lt_box X1_w1.out))
    clear B_w1 hb X0_w1 X1_w1
    have RF_w2 := hideIt hr
    clear hr IN
    go_wp2_with fail
    refine (OW.out _ w2 RF_w2.out).mono ?_
    rintro e w3 ⟨vO, rfl, hr, hb⟩
    obtain ⟨oW, pW, oP, pP, oS, pS, oQ, pQ, oH, pH, oT, pT, oN, pN, eo⟩ := hr.form
    subst eo
    have zw3 : w2.heap.size ≤ w3.heap.size := hb.size
    have B_w3 := hideIt (below_trans B_w2.out hb B_w2.out.size)
    have X0_w3 := hideIt (box_below X0_w2.out hb (lt_box X0_w2.out))
    have X1_w3 := hideIt (box_below X1_w2.out hb (lt_box X1_w2.out))
    have RF_w3 := hideIt (RF_w2.out.below hb)
    clear B_w2 hb X0_w2 X1_w2 RF_w2
    have QF_w3 : Hid (RowF w3 w2.heap.size w3.heap.size _ ws2 ps2 es2 qs2 hs2 td2 cd2 vl2 nm2 fr2) := hr
    clear hr RF_w3 OW
    obtain ⟨d0, d1, d2, d3, d4, d5, d6, d7, d8, d9, g0, g1, g2, g3, g4, g5, g6, g7, g8, g9⟩ := ten_cells X1_w3.out
    obtain ⟨w4, hw4⟩ : ∃ w4, w4 = ((((((((((w3.setCell ⟨w.heap.size + 1, 0, none⟩ (.slice oW ws2.length pW)).setCell ⟨w.heap.size + 1, 1, none⟩ (.slice oP ps2.length pP)).setCell ⟨w.heap.size + 1, 2, none⟩ (.slice oS es2.length pS)).setCell ⟨w.heap.size + 1, 3, none⟩ (.slice oQ qs2.length pQ)).setCell ⟨w.heap.size + 1, 4, none⟩ (.slice oH hs2.length pH)).setCell ⟨w.heap.size + 1, 5, none⟩ (.slice oT td2.length pT)).setCell ⟨w.heap.size + 1, 6, none⟩ (.int .i64 cd2)).setCell ⟨w.heap.size + 1, 7, none⟩ (.int .i64 vl2)).setCell ⟨w.heap.size + 1, 8, none⟩ (.slice oN nm2.length pN)).setCell ⟨w.heap.size + 1, 9, none⟩ (.bool fr2)) := ⟨_, rfl⟩
    have Ow4 : Outside (w.heap.size + 1) (w.heap.size + 1 + 1) w3 w4 := by
      rw [hw4]
      repeat (refine Outside.setCell ?_ (by simp only; omega) (by simp only; omega) _)
      exact Outside.refl _ _ _
    have zw4 : w3.heap.size ≤ w4.heap.size ∧ w4.heap.size ≤ w3.heap.size := by rw [hw4]; simp [World.setCell]
    have B_w4 := hideIt (B_w3.out.trans (Ow4.below (B := w.heap.size) (by omega) B_w3.out.size))
    have X0_w4 := hideIt ((Ow4.block (w.heap.size) (lt_box X0_w3.out) (by omega)).trans X0_w3.out)
    have X1_w4 : Hid (w4.heap[w.heap.size + 1]? = some (.cells #[.slice oW ws2.length pW, .slice oP ps2.length pP, .slice oS es2.length pS, .slice oQ qs2.length pQ, .slice oH hs2.length pH, .slice oT td2.length pT, .int .i64 cd2, .int .i64 vl2, .slice oN nm2.length pN, .bool fr2] 50 (0, 0))) := by rw [hw4]; exact (ten_set9 (ten_set8 (ten_set7 (ten_set6 (ten_set5 (ten_set4 (ten_set3 (ten_set2 (ten_set1 (ten_set0 X1_w3.out _) _) _) _) _) _) _) _) _) _)
    have QF_w4 := hideIt (QF_w3.out.outside Ow4 (by omega) (by omega))
    clear Ow4
    go_wp2
    refine bodyPost_ret (v := .tuple #[.agg #[.slice oW ws2.length pW, .slice oP ps2.length pP, .slice oS es2.length pS, .slice oQ qs2.length pQ, .slice oH hs2.length pH, .slice oT td2.length pT, .int .i64 cd2, .int .i64 vl2, .slice oN nm2.length pN, .bool fr2], .int .i64 0]) (by simp [results, Tryz.results26, go_sem, d0, d1, d2, d3, d4, d5, d6, d7, d8, d9]) rfl ?_
    rw [← hw4]
    exact ⟨_, rfl, QF_w4.out.wide (by omega) (by omega), B_w4.out⟩
  · have y' : fsB ws ps es qs hs td cd vl nm fr = false := by simpa using y
    simp only [y'] at LF
    clear y' HR
    obtain ⟨V, hV⟩ : ∃ V, V = ((w.alloc (.cells #[.slice aW ws.length cW, .slice aP ps.length cP, .slice aS es.length cS, .slice aQ qs.length cQ, .slice aH hs.length cH, .slice aT td.length cT, .int .i64 cd, .int .i64 vl, .slice aN nm.length cN, .bool fr] 50)).alloc (.cells #[.slice none 0 0, .slice none 0 0, .slice none 0 0, .slice none 0 0, .slice none 0 0, .slice none 0 0, .int .i64 0, .int .i64 0, .slice none 0 0, .bool false] 50)) := ⟨_, rfl⟩
    have zV : w.heap.size + 2 ≤ V.heap.size := by rw [hV]; simp <;> omega
    have B_V : Hid (Below w.heap.size w V) := by rw [hV]; exact (((Below.refl _ _).alloc (by simp <;> omega) _).alloc (by simp <;> omega) _)
    have X0_V : Hid (V.heap[w.heap.size]? = some (.cells #[.slice aW ws.length cW, .slice aP ps.length cP, .slice aS es.length cS, .slice aQ qs.length cQ, .slice aH hs.length cH, .slice aT td.length cT, .int .i64 cd, .int .i64 vl, .slice aN nm.length cN, .bool fr] 50 (0, 0))) := by rw [hV]; exact (at_old (at_new rfl))
    have X1_V : Hid (V.heap[w.heap.size + 1]? = some (.cells #[.slice none 0 0, .slice none 0 0, .slice none 0 0, .slice none 0 0, .slice none 0 0, .slice none 0 0, .int .i64 0, .int .i64 0, .slice none 0 0, .bool false] 50 (0, 0))) := by rw [hV]; exact (at_new (by simp))
    go_enter Tryz.func26, Tryz.ntmps26
    go_upto_region 1 with fail
    rw [← hV]
    clear hV
    obtain ⟨c0_0, c0_1, c0_2, c0_3, c0_4, c0_5, c0_6, c0_7, c0_8, c0_9, -⟩ := ten_cells X0_V.out
    go_wp2_with fail
    refine (LF.out V B_V.out).mono ?_
    rintro e w1 ⟨rfl, hb⟩
    clear c0_0 c0_1 c0_2 c0_3 c0_4 c0_5 c0_6 c0_7 c0_8 c0_9
    have zw1 : V.heap.size ≤ w1.heap.size := hb.size
    have B_w1 := hideIt (below_trans B_V.out hb B_V.out.size)
    have X0_w1 := hideIt (box_below X0_V.out hb (lt_box X0_V.out))
    have X1_w1 := hideIt (box_below X1_V.out hb (lt_box X1_V.out))
    clear B_V hb X0_V X1_V
    clear LF
    obtain ⟨d0, d1, d2, d3, d4, d5, d6, d7, d8, d9, g0, g1, g2, g3, g4, g5, g6, g7, g8, g9⟩ := ten_cells X1_w1.out
    obtain ⟨w2, hw2⟩ : ∃ w2, w2 = ((((((((((w1.setCell ⟨w.heap.size + 1, 0, none⟩ (.slice none 0 0)).setCell ⟨w.heap.size + 1, 1, none⟩ (.slice none 0 0)).setCell ⟨w.heap.size + 1, 2, none⟩ (.slice none 0 0)).setCell ⟨w.heap.size + 1, 3, none⟩ (.slice none 0 0)).setCell ⟨w.heap.size + 1, 4, none⟩ (.slice none 0 0)).setCell ⟨w.heap.size + 1, 5, none⟩ (.slice none 0 0)).setCell ⟨w.heap.size + 1, 6, none⟩ (.int .i64 0)).setCell ⟨w.heap.size + 1, 7, none⟩ (.int .i64 0)).setCell ⟨w.heap.size + 1, 8, none⟩ (.slice none 0 0)).setCell ⟨w.heap.size + 1, 9, none⟩ (.bool false)) := ⟨_, rfl⟩
    have Ow2 : Outside (w.heap.size + 1) (w.heap.size + 1 + 1) w1 w2 := by
      rw [hw2]
      repeat (refine Outside.setCell ?_ (by simp only; omega) (by simp only; omega) _)
      exact Outside.refl _ _ _
    have zw2 : w1.heap.size ≤ w2.heap.size ∧ w2.heap.size ≤ w1.heap.size := by rw [hw2]; simp [World.setCell]
    have B_w2 := hideIt (B_w1.out.trans (Ow2.below (B := w.heap.size) (by omega) B_w1.out.size))
    have X0_w2 := hideIt ((Ow2.block (w.heap.size) (lt_box X0_w1.out) (by omega)).trans X0_w1.out)
    have X1_w2 : Hid (w2.heap[w.heap.size + 1]? = some (.cells #[.slice none 0 0, .slice none 0 0, .slice none 0 0, .slice none 0 0, .slice none 0 0, .slice none 0 0, .int .i64 0, .int .i64 0, .slice none 0 0, .bool false] 50 (0, 0))) := by rw [hw2]; exact (ten_set9 (ten_set8 (ten_set7 (ten_set6 (ten_set5 (ten_set4 (ten_set3 (ten_set2 (ten_set1 (ten_set0 X1_w1.out _) _) _) _) _) _) _) _) _) _)
    clear Ow2
    go_wp2
    refine bodyPost_ret (v := .tuple #[.agg #[.slice none 0 0, .slice none 0 0, .slice none 0 0, .slice none 0 0, .slice none 0 0, .slice none 0 0, .int .i64 0, .int .i64 0, .slice none 0 0, .bool false], .int .i64 1]) (by simp [results, Tryz.results26, go_sem, d0, d1, d2, d3, d4, d5, d6, d7, d8, d9]) rfl ?_
    rw [← hw2]
    rw [show finR ws ps es qs hs td cd vl nm fr = (zz, 1) from if_neg y]
    exact ⟨_, rfl, (RowF.zero _ _).wide (Nat.le_refl _) (by omega), B_w2.out⟩
set_option maxRecDepth 100000 in
set_option maxHeartbeats 16000000 in
theorem specDecayFs_any (v : Value) (ws : List Int) (ps : List St) (es : List Int) (qs : List Se) (hs : List Int) (td : List Mi) (cd vl : Int) (nm : List ByteArray) (fr : Bool) (w : World) (h : RdF w v ws ps es qs hs td cd vl nm fr) (hws : ws.length ≤ 1048576) (hps : ps.length ≤ 1048576) (hes : es.length ≤ 1048576) (hqs : qs.length ≤ 1048576) (hhs : hs.length ≤ 1048576) (htd : td.length ≤ 1048576) (hnm : nm.length ≤ 1048576) :
    Calls Tryz.prog 35 #[v] w fun e w' => FzOut w w' e (dcyR ws ps es qs hs td cd vl nm fr) := by
  have LF := hideIt (fun w1 (hb : Below w.heap.size w w1) => specFsOK_any v ws ps es qs hs td cd vl nm fr w1 (h.below hb) hws hps hes hqs hhs htd hnm)
  have HR := hideIt h
  obtain ⟨aW, cW, aP, cP, aS, cS, aQ, cQ, aH, cH, aT, cT, aN, cN, rfl, -⟩ := id h
  clear h
  by_cases y : fsB ws ps es qs hs td cd vl nm fr = true
  · simp only [y] at LF
    have Y := fs_yes y
    have ln := Y.len
    have tl := Y.tl
    obtain ⟨hs2, ehs⟩ : ∃ hs2, hs2 = decH hs 128 := ⟨_, rfl⟩
    have LC : Hid (∀ w1, Below w.heap.size w w1 → Calls Tryz.prog 87 #[.slice aH hs.length cH] w1 fun e w' => ∃ v', e = .returned v' ∧ Row w' 3 1 w1.heap.size w'.heap.size v' hs2.length (ints hs2) ∧ Below w1.heap.size w1 w') := fun w1 hb => by
      rw [ehs]
      exact l09Decay_any _ hs w1 (Rd.below (fs_heat HR.out) hb) (heat_parts Y.he).1 (heat_parts Y.he).2
    have hl2 : hs2.length ≤ 1048576 := by rw [ehs]; have := decH_len hs 128; omega
    have OW := hideIt (fun v1 w1 (hr : RdF w1 v1 ws ps es qs hs2 td cd vl nm fr) => l10Own_gen v1 ws ps es qs hs2 td cd vl nm fr w1 hr hws hps hes hqs hl2 htd hnm)
    have eR : dcyR ws ps es qs hs td cd vl nm fr = (⟨ws, ps, es, qs, hs2, td, cd, vl, nm, fr⟩, 0) := by unfold dcyR; rw [if_pos y, ehs]
    rw [eR]
    clear eR ehs y Y ln tl
    obtain ⟨V, hV⟩ : ∃ V, V = ((w.alloc (.cells #[.slice aW ws.length cW, .slice aP ps.length cP, .slice aS es.length cS, .slice aQ qs.length cQ, .slice aH hs.length cH, .slice aT td.length cT, .int .i64 cd, .int .i64 vl, .slice aN nm.length cN, .bool fr] 50)).alloc (.cells #[.slice none 0 0, .slice none 0 0, .slice none 0 0, .slice none 0 0, .slice none 0 0, .slice none 0 0, .int .i64 0, .int .i64 0, .slice none 0 0, .bool false] 50)) := ⟨_, rfl⟩
    have zV : w.heap.size + 2 ≤ V.heap.size := by rw [hV]; simp <;> omega
    have B_V : Hid (Below w.heap.size w V) := by rw [hV]; exact (((Below.refl _ _).alloc (by simp <;> omega) _).alloc (by simp <;> omega) _)
    have X0_V : Hid (V.heap[w.heap.size]? = some (.cells #[.slice aW ws.length cW, .slice aP ps.length cP, .slice aS es.length cS, .slice aQ qs.length cQ, .slice aH hs.length cH, .slice aT td.length cT, .int .i64 cd, .int .i64 vl, .slice aN nm.length cN, .bool fr] 50 (0, 0))) := by rw [hV]; exact (at_old (at_new rfl))
    have X1_V : Hid (V.heap[w.heap.size + 1]? = some (.cells #[.slice none 0 0, .slice none 0 0, .slice none 0 0, .slice none 0 0, .slice none 0 0, .slice none 0 0, .int .i64 0, .int .i64 0, .slice none 0 0, .bool false] 50 (0, 0))) := by rw [hV]; exact (at_new (by simp))
    go_enter Tryz.func35, Tryz.ntmps35
    go_upto_region 1 with fail
    rw [← hV]
    clear hV
    obtain ⟨c0_0, c0_1, c0_2, c0_3, c0_4, c0_5, c0_6, c0_7, c0_8, c0_9, -⟩ := ten_cells X0_V.out
    go_wp2_with fail
    refine (LF.out V B_V.out).mono ?_
    rintro e w1 ⟨rfl, hb⟩
    clear c0_0 c0_1 c0_2 c0_3 c0_4 c0_5 c0_6 c0_7 c0_8 c0_9
    have zw1 : V.heap.size ≤ w1.heap.size := hb.size
    have B_w1 := hideIt (below_trans B_V.out hb B_V.out.size)
    have X0_w1 := hideIt (box_below X0_V.out hb (lt_box X0_V.out))
    have X1_w1 := hideIt (box_below X1_V.out hb (lt_box X1_V.out))
    clear B_V hb X0_V X1_V
    clear LF
    obtain ⟨-, -, -, -, c0_4, -, -, -, -, -, -⟩ := ten_cells X0_w1.out
    go_wp2_with fail
    refine (LC.out w1 B_w1.out).mono ?_
    rintro e w2 ⟨v', rfl, hr, hb⟩
    obtain ⟨-, iH, jH, rfl, -⟩ := hr.rd
    clear c0_4
    have zw2 : w1.heap.size ≤ w2.heap.size := hb.size
    have B_w2 := hideIt (below_trans B_w1.out hb B_w1.out.size)
    have X0_w2 := hideIt (box_below X0_w1.out hb (lt_box X0_w1.out))
    have X1_w2 := hideIt (box_below X1_w1.out hb (lt_box X1_w1.out))
    clear B_w1 hb X0_w1 X1_w1
    have RI_w2 := hideIt (Row.wide hr (lo' := w.heap.size + 2) (hi' := w2.heap.size) (by omega) (Nat.le_refl _))
    clear hr LC
    obtain ⟨w3, hw3⟩ : ∃ w3, w3 = (w2.setCell ⟨w.heap.size, 4, none⟩ (.slice iH hs2.length jH)) := ⟨_, rfl⟩
    have Ow3 : Outside (w.heap.size) (w.heap.size + 1) w2 w3 := by
      rw [hw3]
      repeat (refine Outside.setCell ?_ (by simp only; omega) (by simp only; omega) _)
      exact Outside.refl _ _ _
    have zw3 : w2.heap.size ≤ w3.heap.size ∧ w3.heap.size ≤ w2.heap.size := by rw [hw3]; simp [World.setCell]
    have B_w3 := hideIt (B_w2.out.trans (Ow3.below (B := w.heap.size) (by omega) B_w2.out.size))
    have X1_w3 := hideIt ((Ow3.block (w.heap.size + 1) (lt_box X1_w2.out) (by omega)).trans X1_w2.out)
    have X0_w3 : Hid (w3.heap[w.heap.size]? = some (.cells #[.slice aW ws.length cW, .slice aP ps.length cP, .slice aS es.length cS, .slice aQ qs.length cQ, .slice iH hs2.length jH, .slice aT td.length cT, .int .i64 cd, .int .i64 vl, .slice aN nm.length cN, .bool fr] 50 (0, 0))) := by rw [hw3]; exact (ten_set4 X0_w2.out _)
    have RI_w3 := hideIt (RI_w2.out.outside Ow3 (by omega) (by omega))
    clear Ow3
    obtain ⟨d0, d1, d2, d3, d4, d5, d6, d7, d8, d9, g0, g1, g2, g3, g4, g5, g6, g7, g8, g9⟩ := ten_cells X0_w2.out
    go_upto_region 4 with fail
    rw [← hw3]
    clear hw3
    clear d0 d1 d2 d3 d4 d5 d6 d7 d8 d9 g0 g1 g2 g3 g4 g5 g6 g7 g8 g9 B_w2 X0_w2 X1_w2 RI_w2
    have RF_w3 : Hid (RdF w3 (.agg #[.slice aW ws.length cW, .slice aP ps.length cP, .slice aS es.length cS, .slice aQ qs.length cQ, .slice iH hs2.length jH, .slice aT td.length cT, .int .i64 cd, .int .i64 vl, .slice aN nm.length cN, .bool fr]) ws ps es qs hs2 td cd vl nm fr) := fs_heated (HR.out.below B_w3.out) RI_w3.out.rd
    clear HR RI_w3
    obtain ⟨c0_0, c0_1, c0_2, c0_3, c0_4, c0_5, c0_6, c0_7, c0_8, c0_9, -⟩ := ten_cells X0_w3.out
    go_wp2_with fail
    refine (OW.out _ w3 RF_w3.out).mono ?_
    rintro e w4 ⟨vO, rfl, hr, hb⟩
    obtain ⟨oW, pW, oP, pP, oS, pS, oQ, pQ, oH, pH, oT, pT, oN, pN, eo⟩ := hr.form
    subst eo
    clear c0_0 c0_1 c0_2 c0_3 c0_4 c0_5 c0_6 c0_7 c0_8 c0_9
    have zw4 : w3.heap.size ≤ w4.heap.size := hb.size
    have B_w4 := hideIt (below_trans B_w3.out hb B_w3.out.size)
    have X0_w4 := hideIt (box_below X0_w3.out hb (lt_box X0_w3.out))
    have X1_w4 := hideIt (box_below X1_w3.out hb (lt_box X1_w3.out))
    have RF_w4 := hideIt (RF_w3.out.below hb)
    clear B_w3 hb X0_w3 X1_w3 RF_w3
    have QF_w4 : Hid (RowF w4 w3.heap.size w4.heap.size _ ws ps es qs hs2 td cd vl nm fr) := hr
    clear hr RF_w4 OW
    obtain ⟨d0, d1, d2, d3, d4, d5, d6, d7, d8, d9, g0, g1, g2, g3, g4, g5, g6, g7, g8, g9⟩ := ten_cells X1_w4.out
    obtain ⟨w5, hw5⟩ : ∃ w5, w5 = ((((((((((w4.setCell ⟨w.heap.size + 1, 0, none⟩ (.slice oW ws.length pW)).setCell ⟨w.heap.size + 1, 1, none⟩ (.slice oP ps.length pP)).setCell ⟨w.heap.size + 1, 2, none⟩ (.slice oS es.length pS)).setCell ⟨w.heap.size + 1, 3, none⟩ (.slice oQ qs.length pQ)).setCell ⟨w.heap.size + 1, 4, none⟩ (.slice oH hs2.length pH)).setCell ⟨w.heap.size + 1, 5, none⟩ (.slice oT td.length pT)).setCell ⟨w.heap.size + 1, 6, none⟩ (.int .i64 cd)).setCell ⟨w.heap.size + 1, 7, none⟩ (.int .i64 vl)).setCell ⟨w.heap.size + 1, 8, none⟩ (.slice oN nm.length pN)).setCell ⟨w.heap.size + 1, 9, none⟩ (.bool fr)) := ⟨_, rfl⟩
    have Ow5 : Outside (w.heap.size + 1) (w.heap.size + 1 + 1) w4 w5 := by
      rw [hw5]
      repeat (refine Outside.setCell ?_ (by simp only; omega) (by simp only; omega) _)
      exact Outside.refl _ _ _
    have zw5 : w4.heap.size ≤ w5.heap.size ∧ w5.heap.size ≤ w4.heap.size := by rw [hw5]; simp [World.setCell]
    have B_w5 := hideIt (B_w4.out.trans (Ow5.below (B := w.heap.size) (by omega) B_w4.out.size))
    have X0_w5 := hideIt ((Ow5.block (w.heap.size) (lt_box X0_w4.out) (by omega)).trans X0_w4.out)
    have X1_w5 : Hid (w5.heap[w.heap.size + 1]? = some (.cells #[.slice oW ws.length pW, .slice oP ps.length pP, .slice oS es.length pS, .slice oQ qs.length pQ, .slice oH hs2.length pH, .slice oT td.length pT, .int .i64 cd, .int .i64 vl, .slice oN nm.length pN, .bool fr] 50 (0, 0))) := by rw [hw5]; exact (ten_set9 (ten_set8 (ten_set7 (ten_set6 (ten_set5 (ten_set4 (ten_set3 (ten_set2 (ten_set1 (ten_set0 X1_w4.out _) _) _) _) _) _) _) _) _) _)
    have QF_w5 := hideIt (QF_w4.out.outside Ow5 (by omega) (by omega))
    clear Ow5
    go_wp2
    refine bodyPost_ret (v := .tuple #[.agg #[.slice oW ws.length pW, .slice oP ps.length pP, .slice oS es.length pS, .slice oQ qs.length pQ, .slice oH hs2.length pH, .slice oT td.length pT, .int .i64 cd, .int .i64 vl, .slice oN nm.length pN, .bool fr], .int .i64 0]) (by simp [results, Tryz.results35, go_sem, d0, d1, d2, d3, d4, d5, d6, d7, d8, d9]) rfl ?_
    rw [← hw5]
    exact ⟨_, rfl, QF_w5.out.wide (by omega) (by omega), B_w5.out⟩
  · have y' : fsB ws ps es qs hs td cd vl nm fr = false := by simpa using y
    simp only [y'] at LF
    clear y' HR
    obtain ⟨V, hV⟩ : ∃ V, V = ((w.alloc (.cells #[.slice aW ws.length cW, .slice aP ps.length cP, .slice aS es.length cS, .slice aQ qs.length cQ, .slice aH hs.length cH, .slice aT td.length cT, .int .i64 cd, .int .i64 vl, .slice aN nm.length cN, .bool fr] 50)).alloc (.cells #[.slice none 0 0, .slice none 0 0, .slice none 0 0, .slice none 0 0, .slice none 0 0, .slice none 0 0, .int .i64 0, .int .i64 0, .slice none 0 0, .bool false] 50)) := ⟨_, rfl⟩
    have zV : w.heap.size + 2 ≤ V.heap.size := by rw [hV]; simp <;> omega
    have B_V : Hid (Below w.heap.size w V) := by rw [hV]; exact (((Below.refl _ _).alloc (by simp <;> omega) _).alloc (by simp <;> omega) _)
    have X0_V : Hid (V.heap[w.heap.size]? = some (.cells #[.slice aW ws.length cW, .slice aP ps.length cP, .slice aS es.length cS, .slice aQ qs.length cQ, .slice aH hs.length cH, .slice aT td.length cT, .int .i64 cd, .int .i64 vl, .slice aN nm.length cN, .bool fr] 50 (0, 0))) := by rw [hV]; exact (at_old (at_new rfl))
    have X1_V : Hid (V.heap[w.heap.size + 1]? = some (.cells #[.slice none 0 0, .slice none 0 0, .slice none 0 0, .slice none 0 0, .slice none 0 0, .slice none 0 0, .int .i64 0, .int .i64 0, .slice none 0 0, .bool false] 50 (0, 0))) := by rw [hV]; exact (at_new (by simp))
    go_enter Tryz.func35, Tryz.ntmps35
    go_upto_region 1 with fail
    rw [← hV]
    clear hV
    obtain ⟨c0_0, c0_1, c0_2, c0_3, c0_4, c0_5, c0_6, c0_7, c0_8, c0_9, -⟩ := ten_cells X0_V.out
    go_wp2_with fail
    refine (LF.out V B_V.out).mono ?_
    rintro e w1 ⟨rfl, hb⟩
    clear c0_0 c0_1 c0_2 c0_3 c0_4 c0_5 c0_6 c0_7 c0_8 c0_9
    have zw1 : V.heap.size ≤ w1.heap.size := hb.size
    have B_w1 := hideIt (below_trans B_V.out hb B_V.out.size)
    have X0_w1 := hideIt (box_below X0_V.out hb (lt_box X0_V.out))
    have X1_w1 := hideIt (box_below X1_V.out hb (lt_box X1_V.out))
    clear B_V hb X0_V X1_V
    clear LF
    obtain ⟨d0, d1, d2, d3, d4, d5, d6, d7, d8, d9, g0, g1, g2, g3, g4, g5, g6, g7, g8, g9⟩ := ten_cells X1_w1.out
    obtain ⟨w2, hw2⟩ : ∃ w2, w2 = ((((((((((w1.setCell ⟨w.heap.size + 1, 0, none⟩ (.slice none 0 0)).setCell ⟨w.heap.size + 1, 1, none⟩ (.slice none 0 0)).setCell ⟨w.heap.size + 1, 2, none⟩ (.slice none 0 0)).setCell ⟨w.heap.size + 1, 3, none⟩ (.slice none 0 0)).setCell ⟨w.heap.size + 1, 4, none⟩ (.slice none 0 0)).setCell ⟨w.heap.size + 1, 5, none⟩ (.slice none 0 0)).setCell ⟨w.heap.size + 1, 6, none⟩ (.int .i64 0)).setCell ⟨w.heap.size + 1, 7, none⟩ (.int .i64 0)).setCell ⟨w.heap.size + 1, 8, none⟩ (.slice none 0 0)).setCell ⟨w.heap.size + 1, 9, none⟩ (.bool false)) := ⟨_, rfl⟩
    have Ow2 : Outside (w.heap.size + 1) (w.heap.size + 1 + 1) w1 w2 := by
      rw [hw2]
      repeat (refine Outside.setCell ?_ (by simp only; omega) (by simp only; omega) _)
      exact Outside.refl _ _ _
    have zw2 : w1.heap.size ≤ w2.heap.size ∧ w2.heap.size ≤ w1.heap.size := by rw [hw2]; simp [World.setCell]
    have B_w2 := hideIt (B_w1.out.trans (Ow2.below (B := w.heap.size) (by omega) B_w1.out.size))
    have X0_w2 := hideIt ((Ow2.block (w.heap.size) (lt_box X0_w1.out) (by omega)).trans X0_w1.out)
    have X1_w2 : Hid (w2.heap[w.heap.size + 1]? = some (.cells #[.slice none 0 0, .slice none 0 0, .slice none 0 0, .slice none 0 0, .slice none 0 0, .slice none 0 0, .int .i64 0, .int .i64 0, .slice none 0 0, .bool false] 50 (0, 0))) := by rw [hw2]; exact (ten_set9 (ten_set8 (ten_set7 (ten_set6 (ten_set5 (ten_set4 (ten_set3 (ten_set2 (ten_set1 (ten_set0 X1_w1.out _) _) _) _) _) _) _) _) _) _)
    clear Ow2
    go_wp2
    refine bodyPost_ret (v := .tuple #[.agg #[.slice none 0 0, .slice none 0 0, .slice none 0 0, .slice none 0 0, .slice none 0 0, .slice none 0 0, .int .i64 0, .int .i64 0, .slice none 0 0, .bool false], .int .i64 1]) (by simp [results, Tryz.results35, go_sem, d0, d1, d2, d3, d4, d5, d6, d7, d8, d9]) rfl ?_
    rw [← hw2]
    rw [show dcyR ws ps es qs hs td cd vl nm fr = (zz, 1) from if_neg y]
    exact ⟨_, rfl, (RowF.zero _ _).wide (Nat.le_refl _) (by omega), B_w2.out⟩
end Go.Proofs.YtipklbnfobckaaaGreatDoor
