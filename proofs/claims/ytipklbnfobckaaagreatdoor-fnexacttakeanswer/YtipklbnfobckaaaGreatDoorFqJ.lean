/- A draft of a file system: by the program. -/
import Derived.Test.YtipklbnfobckaaaGreatDoorZBK
import Derived.Test.YtipklbnfobckaaaGreatDoorJiB
import Derived.Deep.RegionHeld3
namespace Go.Proofs.YtipklbnfobckaaaGreatDoor
open Go.RowKit

set_option maxRecDepth 100000 in
set_option maxHeartbeats 16000000 in
theorem copyAnswer_any (c v : Int) (aN : Option Addr) (nm : List ByteArray) (cN : Nat) (w : World) (h : RdT w (.slice aN nm.length cN) nm) (hnm : nm.length ≤ 1048576) :
    Calls Tryz.prog 121 #[.agg #[.int .i64 c, .int .i64 v, .slice aN nm.length cN]] w fun e w' => ∃ vN, e = .returned (.agg #[.int .i64 c, .int .i64 v, vN]) ∧ Row w' 9 1 w.heap.size w'.heap.size vN nm.length (strs nm) ∧ Below w.heap.size w w' := by
  have RN := hideIt h
  clear h
  obtain ⟨V, hV⟩ : ∃ V, V = ((w.alloc (.cells #[.int .i64 c, .int .i64 v, .slice aN nm.length cN] 48)).alloc (.cells #[.int .i64 0, .int .i64 0, .slice none 0 0] 48)) := ⟨_, rfl⟩
  have zV : w.heap.size + 2 ≤ V.heap.size := by rw [hV]; simp <;> omega
  have B_V : Hid (Below w.heap.size w V) := by rw [hV]; exact (((Below.refl _ _).alloc (by simp <;> omega) _).alloc (by simp <;> omega) _)
  have X0_V : Hid (V.heap[w.heap.size]? = some (.cells #[.int .i64 c, .int .i64 v, .slice aN nm.length cN] 48 (0, 0))) := by rw [hV]; exact (at_old (at_new rfl))
  have X1_V : Hid (V.heap[w.heap.size + 1]? = some (.cells #[.int .i64 0, .int .i64 0, .slice none 0 0] 48 (0, 0))) := by rw [hV]; exact (at_new (by simp))
  go_enter Tryz.func121, Tryz.ntmps121
  go_upto_region 1 with fail
  rw [← hV]
  clear hV
  obtain ⟨c0_0, c0_1, c0_2, -⟩ := tri3 X0_V.out
  have SR : Hid (Rd V 1 (.slice aN nm.length cN) nm.length (strs nm)) := Rd.below RN.out B_V.out
  go_wp2_with (at_builtin; refine wpList_append_rd _ rfl (.const (.slice none 0 0)) (.tmp 4) 32 rfl V.heap.size 9 (.string ⟨#[]⟩) 1 16 Tryz.underlying32 info9 rfl (by decide) (.slice none 0 0) 0 [] rfl (World.ownsRow_nil _ _ _ _) _ nm.length (strs nm) rfl SR.out (strs_one nm) (by first | omega | (simp [maxLen]; omega)) (by first | omega | (simp; omega)) (Nat.le_refl _) ?_)
  intro vv w1 hown0 hgr
  have hown : w1.ownsRow V.heap.size 9 1 vv nm.length (strs nm) := by simpa using hown0
  have hr := own_block hown
  obtain ⟨-, iN, jN, hvv, -⟩ := hr.rd
  subst hvv
  have hb : Below V.heap.size V w1 := (Below.refl _ _).grown hgr (Nat.le_refl _) (fun k hk => by cases hk)
  clear hown hown0 hgr SR RN
  clear c0_0 c0_1 c0_2
  have zw1 : V.heap.size ≤ w1.heap.size := hb.size
  have B_w1 := hideIt (below_trans B_V.out hb B_V.out.size)
  have X0_w1 := hideIt (box_below X0_V.out hb (lt_box X0_V.out))
  have X1_w1 := hideIt (box_below X1_V.out hb (lt_box X1_V.out))
  clear B_V hb X0_V X1_V
  have RS_w1 := hideIt (Row.wide hr (lo' := w.heap.size + 2) (hi' := w1.heap.size) (by omega) (Nat.le_refl _))
  clear hr
  obtain ⟨w2, hw2⟩ : ∃ w2, w2 = (w1.setCell ⟨w.heap.size, 2, none⟩ (.slice iN nm.length jN)) := ⟨_, rfl⟩
  have Ow2 : Outside (w.heap.size) (w.heap.size + 1) w1 w2 := by
    rw [hw2]
    repeat (refine Outside.setCell ?_ (by simp only; omega) (by simp only; omega) _)
    exact Outside.refl _ _ _
  have zw2 : w1.heap.size ≤ w2.heap.size ∧ w2.heap.size ≤ w1.heap.size := by rw [hw2]; simp [World.setCell]
  have B_w2 := hideIt (B_w1.out.trans (Ow2.below (B := w.heap.size) (by omega) B_w1.out.size))
  have X1_w2 := hideIt ((Ow2.block (w.heap.size + 1) (lt_box X1_w1.out) (by omega)).trans X1_w1.out)
  have X0_w2 : Hid (w2.heap[w.heap.size]? = some (.cells #[.int .i64 c, .int .i64 v, .slice iN nm.length jN] 48 (0, 0))) := by rw [hw2]; exact (tr3_set2 X0_w1.out _)
  have RS_w2 := hideIt (RS_w1.out.outside Ow2 (by omega) (by omega))
  clear Ow2
  obtain ⟨d0, d1, d2, g0, g1, g2⟩ := tri3 X0_w1.out
  go_upto_region 2 with fail
  rw [← hw2]
  clear hw2
  clear d0 d1 d2 g0 g1 g2 B_w1 X0_w1 X1_w1 RS_w1
  obtain ⟨c0_0, c0_1, c0_2, -⟩ := tri3 X0_w2.out
  obtain ⟨d0, d1, d2, g0, g1, g2⟩ := tri3 X1_w2.out
  obtain ⟨w3, hw3⟩ : ∃ w3, w3 = (((w2.setCell ⟨w.heap.size + 1, 0, none⟩ (.int .i64 c)).setCell ⟨w.heap.size + 1, 1, none⟩ (.int .i64 v)).setCell ⟨w.heap.size + 1, 2, none⟩ (.slice iN nm.length jN)) := ⟨_, rfl⟩
  have Ow3 : Outside (w.heap.size + 1) (w.heap.size + 1 + 1) w2 w3 := by
    rw [hw3]
    repeat (refine Outside.setCell ?_ (by simp only; omega) (by simp only; omega) _)
    exact Outside.refl _ _ _
  have zw3 : w2.heap.size ≤ w3.heap.size ∧ w3.heap.size ≤ w2.heap.size := by rw [hw3]; simp [World.setCell]
  have B_w3 := hideIt (B_w2.out.trans (Ow3.below (B := w.heap.size) (by omega) B_w2.out.size))
  have X0_w3 := hideIt ((Ow3.block (w.heap.size) (lt_box X0_w2.out) (by omega)).trans X0_w2.out)
  have X1_w3 : Hid (w3.heap[w.heap.size + 1]? = some (.cells #[.int .i64 c, .int .i64 v, .slice iN nm.length jN] 48 (0, 0))) := by rw [hw3]; exact (tr3_set2 (tr3_set1 (tr3_set0 X1_w2.out _) _) _)
  have RS_w3 := hideIt (RS_w2.out.outside Ow3 (by omega) (by omega))
  clear Ow3
  go_wp2
  refine bodyPost_ret (v := .agg #[.int .i64 c, .int .i64 v, .slice iN nm.length jN]) (by simp [results, Tryz.results121, go_sem, d0, d1, d2]) rfl ?_
  rw [← hw3]
  exact ⟨_, rfl, RS_w3.out.wide (by omega) (by omega), B_w3.out⟩
set_option maxRecDepth 100000 in
set_option maxHeartbeats 16000000 in
theorem draftOf_any (v : Value) (ws : List Int) (ps : List St) (es : List Int) (qs : List Se) (hs : List Int) (td : List Mi) (cd vl : Int) (nm : List ByteArray) (fr : Bool) (w : World) (h : RdF w v ws ps es qs hs td cd vl nm fr) (hws : ws.length ≤ 1048576) (hps : ps.length ≤ 1048576) (hes : es.length ≤ 1048576) (hqs : qs.length ≤ 1048576) (hhs : hs.length ≤ 1048576) (htd : td.length ≤ 1048576) (hnm : nm.length ≤ 1048576) :
    Calls Tryz.prog 62 #[v] w fun e w' => ∃ v', e = .returned v' ∧ RowF w' w.heap.size w'.heap.size v' ws ps es qs hs td cd vl nm fr ∧ Below w.heap.size w w' := by
  obtain ⟨aW, cW, aP, cP, aS, cS, aQ, cQ, aH, cH, aT, cT, aN, cN, rfl, d1, h1, t1, n1⟩ := h
  have LD := hideIt (fun w1 (hb : Below w.heap.size w w1) => copyDevices_any _ ws ps es qs w1 (d1.below hb) hws hps hes hqs)
  have LA := hideIt (fun w1 (hb : Below w.heap.size w w1) => copyAnswer_any cd vl aN nm cN w1 (Rd.below n1 hb) hnm)
  have RH : Hid (Rd w 1 (.slice aH hs.length cH) hs.length (ints hs)) := h1
  have RT : Hid (Rd w 3 (.slice aT td.length cT) td.length (mis td)) := t1
  clear d1 h1 t1 n1
  obtain ⟨V, hV⟩ : ∃ V, V = ((w.alloc (.cells #[.slice aW ws.length cW, .slice aP ps.length cP, .slice aS es.length cS, .slice aQ qs.length cQ, .slice aH hs.length cH, .slice aT td.length cT, .int .i64 cd, .int .i64 vl, .slice aN nm.length cN, .bool fr] 50)).alloc (.cells #[.slice none 0 0, .slice none 0 0, .slice none 0 0, .slice none 0 0, .slice none 0 0, .slice none 0 0, .int .i64 0, .int .i64 0, .slice none 0 0, .bool false] 98)) := ⟨_, rfl⟩
  have zV : w.heap.size + 2 ≤ V.heap.size := by rw [hV]; simp <;> omega
  have B_V : Hid (Below w.heap.size w V) := by rw [hV]; exact (((Below.refl _ _).alloc (by simp <;> omega) _).alloc (by simp <;> omega) _)
  have X0_V : Hid (V.heap[w.heap.size]? = some (.cells #[.slice aW ws.length cW, .slice aP ps.length cP, .slice aS es.length cS, .slice aQ qs.length cQ, .slice aH hs.length cH, .slice aT td.length cT, .int .i64 cd, .int .i64 vl, .slice aN nm.length cN, .bool fr] 50 (0, 0))) := by rw [hV]; exact (at_old (at_new rfl))
  have X1_V : Hid (V.heap[w.heap.size + 1]? = some (.cells #[.slice none 0 0, .slice none 0 0, .slice none 0 0, .slice none 0 0, .slice none 0 0, .slice none 0 0, .int .i64 0, .int .i64 0, .slice none 0 0, .bool false] 98 (0, 0))) := by rw [hV]; exact (at_new (by simp))
  go_enter Tryz.func62, Tryz.ntmps62
  go_upto_region 1 with fail
  rw [← hV]
  clear hV
  obtain ⟨c0_0, c0_1, c0_2, c0_3, c0_4, c0_5, c0_6, c0_7, c0_8, c0_9, -⟩ := ten_cells X0_V.out
  have LEV : w.heap.size + 1 ≤ V.heap.size := by omega
  have SK : Hid (∀ w', Below (w.heap.size + 1) V w' → w'.cell? ⟨w.heap.size, 0, none⟩ = some (.slice aW ws.length cW) ∧ w'.cell? ⟨w.heap.size, 1, none⟩ = some (.slice aP ps.length cP) ∧ w'.cell? ⟨w.heap.size, 2, none⟩ = some (.slice aS es.length cS) ∧ w'.cell? ⟨w.heap.size, 3, none⟩ = some (.slice aQ qs.length cQ) ∧ w'.cell? ⟨w.heap.size, 4, none⟩ = some (.slice aH hs.length cH) ∧ w'.cell? ⟨w.heap.size, 5, none⟩ = some (.slice aT td.length cT) ∧ w'.cell? ⟨w.heap.size, 6, none⟩ = some (.int .i64 cd) ∧ w'.cell? ⟨w.heap.size, 7, none⟩ = some (.int .i64 vl) ∧ w'.cell? ⟨w.heap.size, 8, none⟩ = some (.slice aN nm.length cN) ∧ w'.cell? ⟨w.heap.size, 9, none⟩ = some (.bool fr)) := fun w' hb => by
    obtain ⟨a0, a1, a2, a3, a4, a5, a6, a7, a8, a9, -⟩ := ten_cells (box_below X0_V.out hb (Nat.lt_succ_self _))
    exact ⟨a0, a1, a2, a3, a4, a5, a6, a7, a8, a9⟩
  go_region_held3 (fun w' => w'.cell? ⟨w.heap.size, 0, none⟩ = some (.slice aW ws.length cW) ∧ w'.cell? ⟨w.heap.size, 1, none⟩ = some (.slice aP ps.length cP) ∧ w'.cell? ⟨w.heap.size, 2, none⟩ = some (.slice aS es.length cS) ∧ w'.cell? ⟨w.heap.size, 3, none⟩ = some (.slice aQ qs.length cQ) ∧ w'.cell? ⟨w.heap.size, 4, none⟩ = some (.slice aH hs.length cH) ∧ w'.cell? ⟨w.heap.size, 5, none⟩ = some (.slice aT td.length cT) ∧ w'.cell? ⟨w.heap.size, 6, none⟩ = some (.int .i64 cd) ∧ w'.cell? ⟨w.heap.size, 7, none⟩ = some (.int .i64 vl) ∧ w'.cell? ⟨w.heap.size, 8, none⟩ = some (.slice aN nm.length cN) ∧ w'.cell? ⟨w.heap.size, 9, none⟩ = some (.bool fr))
    (exact SK.out _ (by repeat (first | with_reducible exact BD.out.mono LEV | with_reducible exact BC.out.mono LEV | with_reducible exact BB.out.mono LEV | with_reducible exact BA.out.mono LEV | with_reducible exact Below.refl _ _ | with_reducible refine Below.drew ?_ | with_reducible refine Below.setCell ?_ (by exact Nat.le_refl _) _)))
    (first
      | (go_at_call 120; refine (LD.out _ (below_trans B_V.out (by repeat (first | with_reducible exact Below.refl _ _ | with_reducible refine Below.drew ?_)) B_V.out.size)).mono ?_; rintro e wa ⟨va, rfl, hra, hba⟩; have BA : Hid (Below V.heap.size V wa) := belY (by repeat (first | with_reducible exact Below.refl _ _ | with_reducible refine Below.drew ?_)) hba; obtain ⟨iW, jW, iP, jP, iS, jS, iQ, jQ, rfl, -, -⟩ := hra.rd.form; have RA : Hid (RowDev wa V.heap.size wa.heap.size _ ws ps es qs) := hra; clear hra hba)
      | (refine step_append_rd rfl (.const (.slice none 0 0)) (.tmp 7) 22 rfl wa.heap.size 3 (.int .i64 0) 1 8 Tryz.underlying22 info3 rfl (by decide) (.slice none 0 0) 0 [] (by rfl) (World.ownsRow_nil _ _ _ _) (.slice aH hs.length cH) hs.length (ints hs) (by rfl) (by exact Rd.below RH.out (below_trans B_V.out (belY BA.out (by repeat (first | with_reducible exact Below.refl _ _ | with_reducible refine Below.drew ?_))) B_V.out.size)) (ints_one hs) (by first | omega | (simp [maxLen]; omega)) (by first | omega | (simp; omega)) (by exact Nat.le_refl _) ?_; intro vv wb hown0 hgr; have hown : wb.ownsRow wa.heap.size 3 1 vv hs.length (ints hs) := (by simpa using hown0); have hr := own_block hown; obtain ⟨-, iH, jH, hvv, -⟩ := hr.rd; subst hvv; have hbq : Below wa.heap.size wa wb := belY (by repeat (first | with_reducible exact Below.refl _ _ | with_reducible refine Below.drew ?_)) ((Below.refl _ _).grown hgr (Nat.le_refl _) (fun k hk => by cases hk)); have BB : Hid (Below V.heap.size V wb) := belY BA.out hbq; have BB1 := hideIt hbq; have RB : Hid (Row wb 3 1 wa.heap.size wb.heap.size _ hs.length (ints hs)) := hr; have RA1 := hideIt (RA.out.below hbq (Nat.le_refl _)); clear hown hown0 hgr hr hbq)
      | (refine step_append_rd rfl (.const (.slice none 0 0)) (.tmp 10) 47 rfl wb.heap.size 79 (.agg #[.int .i64 0, .int .i64 0, .int .i64 0]) 3 24 Tryz.underlying47 infoMic rfl (by decide) (.slice none 0 0) 0 [] (by rfl) (World.ownsRow_nil _ _ _ _) (.slice aT td.length cT) td.length (mis td) (by rfl) (by exact Rd.below RT.out (below_trans B_V.out (belY BB.out (by repeat (first | with_reducible exact Below.refl _ _ | with_reducible refine Below.drew ?_))) B_V.out.size)) (mis_one td) (by first | omega | (simp [maxLen]; omega)) (by first | omega | (simp; omega)) (by exact Nat.le_refl _) ?_; intro vv wc hown0 hgr; have hown : wc.ownsRow wb.heap.size 79 3 vv td.length (mis td) := (by simpa using hown0); have hr := own_block hown; obtain ⟨-, iT, jT, hvv, -⟩ := hr.rd; subst hvv; have hbq : Below wb.heap.size wb wc := belY (by repeat (first | with_reducible exact Below.refl _ _ | with_reducible refine Below.drew ?_)) ((Below.refl _ _).grown hgr (Nat.le_refl _) (fun k hk => by cases hk)); have BC : Hid (Below V.heap.size V wc) := belY BB.out hbq; have BC1 := hideIt hbq; have RC : Hid (Row wc 79 3 wb.heap.size wc.heap.size _ td.length (mis td)) := hr; have RA2 := hideIt (RA1.out.below hbq BB1.out.size); have RB2 := hideIt (RB.out.below hbq (Nat.le_refl _)); clear hown hown0 hgr hr hbq)
      | (go_at_call 121; refine (LA.out _ (below_trans B_V.out (belY BC.out (by repeat (first | with_reducible exact Below.refl _ _ | with_reducible refine Below.drew ?_))) B_V.out.size)).mono ?_; rintro e wd ⟨vN, rfl, hrd, hbd⟩; have hbq : Below wc.heap.size wc wd := belY (by repeat (first | with_reducible exact Below.refl _ _ | with_reducible refine Below.drew ?_)) hbd; have BD : Hid (Below V.heap.size V wd) := belY BC.out hbq; have BE1 := hideIt hbq; obtain ⟨-, iN, jN, rfl, -⟩ := hrd.rd; have RD : Hid (Row wd 9 1 wc.heap.size wd.heap.size _ nm.length (strs nm)) := hrd; have RA3 := hideIt (RA2.out.below hbq (Nat.le_trans BB1.out.size BC1.out.size)); have RB3 := hideIt (RB2.out.below hbq BC1.out.size); have RC3 := hideIt (RC.out.below hbq (Nat.le_refl _)); have X1d := hideIt (box_below X1_V.out BD.out (lt_box X1_V.out)); obtain ⟨y0, y1, y2, y3, y4, y5, y6, y7, y8, y9, k0, k1, k2, k3, k4, k5, k6, k7, k8, k9⟩ := ten_cells X1d.out; clear hrd hbd hbq))
  all_goals
    have zwa : V.heap.size ≤ wa.heap.size := BA.out.size
    have zwb : wa.heap.size ≤ wb.heap.size := BB1.out.size
    have zwc : wb.heap.size ≤ wc.heap.size := BC1.out.size
    have zwd : V.heap.size ≤ wd.heap.size := BD.out.size
    have zwe : wc.heap.size ≤ wd.heap.size := BE1.out.size
    have B_wd := hideIt (below_trans B_V.out BD.out B_V.out.size)
    have X0_wd := hideIt (box_below X0_V.out BD.out (lt_box X0_V.out))
    have X1_wd := X1d
    have QD_wd := RA3
    have QH_wd := RB3
    have QT_wd := hideIt (RowW.of_row RC3.out)
    have QN_wd := RD
    clear c0_0 c0_1 c0_2 c0_3 c0_4 c0_5 c0_6 c0_7 c0_8 c0_9 SK LD LA RH RT BA BB BC BD BB1 BC1 BE1 RA RA1 RA2 RA3 RB RB2 RB3 RC RC3 RD X0_V X1_V B_V X1d
    obtain ⟨w1, hw1⟩ : ∃ w1, w1 = ((((((((((wd.setCell ⟨w.heap.size + 1, 0, none⟩ (.slice iW ws.length jW)).setCell ⟨w.heap.size + 1, 1, none⟩ (.slice iP ps.length jP)).setCell ⟨w.heap.size + 1, 2, none⟩ (.slice iS es.length jS)).setCell ⟨w.heap.size + 1, 3, none⟩ (.slice iQ qs.length jQ)).setCell ⟨w.heap.size + 1, 4, none⟩ (.slice iH hs.length jH)).setCell ⟨w.heap.size + 1, 5, none⟩ (.slice iT td.length jT)).setCell ⟨w.heap.size + 1, 6, none⟩ (.int .i64 cd)).setCell ⟨w.heap.size + 1, 7, none⟩ (.int .i64 vl)).setCell ⟨w.heap.size + 1, 8, none⟩ (.slice iN nm.length jN)).setCell ⟨w.heap.size + 1, 9, none⟩ (.bool fr)) := ⟨_, rfl⟩
    have Ow1 : Outside (w.heap.size + 1) (w.heap.size + 1 + 1) wd w1 := by
      rw [hw1]
      repeat (refine Outside.setCell ?_ (by simp only; omega) (by simp only; omega) _)
      exact Outside.refl _ _ _
    have zw1 : wd.heap.size ≤ w1.heap.size ∧ w1.heap.size ≤ wd.heap.size := by rw [hw1]; simp [World.setCell]
    have B_w1 := hideIt (B_wd.out.trans (Ow1.below (B := w.heap.size) (by omega) B_wd.out.size))
    have X0_w1 := hideIt ((Ow1.block (w.heap.size) (lt_box X0_wd.out) (by omega)).trans X0_wd.out)
    have X1_w1 : Hid (w1.heap[w.heap.size + 1]? = some (.cells #[.slice iW ws.length jW, .slice iP ps.length jP, .slice iS es.length jS, .slice iQ qs.length jQ, .slice iH hs.length jH, .slice iT td.length jT, .int .i64 cd, .int .i64 vl, .slice iN nm.length jN, .bool fr] 98 (0, 0))) := by rw [hw1]; exact (ten_set9 (ten_set8 (ten_set7 (ten_set6 (ten_set5 (ten_set4 (ten_set3 (ten_set2 (ten_set1 (ten_set0 X1_wd.out _) _) _) _) _) _) _) _) _) _)
    have QD_w1 := hideIt (QD_wd.out.outside Ow1 (by omega) (by omega))
    have QH_w1 := hideIt (QH_wd.out.outside Ow1 (by omega) (by omega))
    have QT_w1 := hideIt (QT_wd.out.outside Ow1 (by omega))
    have QN_w1 := hideIt (QN_wd.out.outside Ow1 (by omega) (by omega))
    clear Ow1
    go_wp2
    refine bodyPost_ret (v := .agg #[.slice iW ws.length jW, .slice iP ps.length jP, .slice iS es.length jS, .slice iQ qs.length jQ, .slice iH hs.length jH, .slice iT td.length jT, .int .i64 cd, .int .i64 vl, .slice iN nm.length jN, .bool fr]) (by simp [results, Tryz.results62, go_sem, y0, y1, y2, y3, y4, y5, y6, y7, y8, y9]) rfl ?_
    rw [← hw1]
    exact ⟨_, rfl, ⟨_, _, _, _, _, _, _, _, _, _, _, _, _, _, _, rfl, QD_w1.out, QH_w1.out, QT_w1.out, QN_w1.out, ⟨by omega, by omega, by omega, by omega, by omega, by omega, by omega, by omega, by omega, by omega, by omega, by omega, by omega, by omega⟩⟩, B_w1.out⟩
end Go.Proofs.YtipklbnfobckaaaGreatDoor
