/- StepFs, FinishFs, DecayFs: by the program. -/
import Derived.Test.YtipklbnfobckaaaGreatDoorZBO
import Derived.Test.YtipklbnfobckaaaGreatDoorZBS
import Derived.Test.YtipklbnfobckaaaGreatDoorFqI
import Derived.Test.YtipklbnfobckaaaGreatDoorTrF
namespace Go.Proofs.YtipklbnfobckaaaGreatDoor
open Go.RowKit

theorem mis_drop : ∀ (td : List Mi) (k j : Nat), (mis td)[k * 3 + j]? = (mis (td.drop k))[j]?
  | td, 0, j => by simp
  | [], k + 1, j => by simp [mis]
  | m :: t, k + 1, j => by
    rw [List.drop_succ_cons, ← mis_drop t k j, show (k + 1) * 3 + j = k * 3 + j + 3 by omega]
    simp [mis, Mi.cells]
theorem tailK {w : World} {b o cap : Nat} {td : List Mi} (k : Nat) (hk : k ≤ td.length) (h : RdM w (.slice (some ⟨b, o, none⟩) td.length cap) td) : RdM w (.slice (if cap = k then some ⟨b, o, none⟩ else some ⟨b, o + k * 3, none⟩) (td.length - k) (cap - k)) (td.drop k) := by
  obtain ⟨-, ao, cp, e, ⟨hc1, -⟩, hc⟩ := h
  cases e
  refine ⟨mis_len _, _, _, by rw [List.length_drop], ⟨by rw [List.length_drop]; omega, fun e => by split at e <;> cases e⟩, fun hp => ?_⟩
  rw [List.length_drop] at hp
  obtain ⟨b', o', e', hb, hcl⟩ := hc (by omega)
  cases e'
  refine ⟨b, o + k * 3, by rw [if_neg (by omega)], hb, fun j hj => ?_⟩
  rw [List.length_drop] at hj
  have := hcl (k * 3 + j) (by omega)
  rw [Nat.add_assoc, this]
  exact mis_drop td k j
theorem RowW.tail {w : World} {b o cap lo hi : Nat} {td : List Mi} (k : Nat) (hk : k ≤ td.length) (h : RowW w lo hi (.slice (some ⟨b, o, none⟩) td.length cap) td) : RowW w lo hi (.slice (if cap = k then some ⟨b, o, none⟩ else some ⟨b, o + k * 3, none⟩) (td.length - k) (cap - k)) (td.drop k) :=
  ⟨tailK k hk h.1, fun b' e => by
    have e' : b = b' := by split at e <;> simpa [Value.ownBlock] using e
    subst e'
    obtain ⟨p, q, r, s, -⟩ := h.2 b rfl
    refine ⟨p, q, r, s, ?_⟩
    split
    · exact ⟨_, _, _, rfl⟩
    · exact ⟨_, _, _, rfl⟩⟩
theorem misB2 {l : List Mi} (h : ∀ m ∈ l, miB m = true) : misB' l = true := decide_eq_true (fun _ hk => h _ (List.getElem_mem hk))
theorem ms_one {ws : List Int} {ps : List St} {es : List Int} {qs : List Se} {hs : List Int} {td : List Mi} {cd vl : Int} {nm : List ByteArray} {fr : Bool} (y : FsYes ws ps es qs hs td cd vl nm fr) {m : Mi} (hm : m ∈ td) : ms [m] ws ps es qs = ⟨0, doW m ws ps, doP m ps, doE m es qs, doQ m qs⟩ := by
  rw [ms_ok (by simp) (by rw [y.pm, y.bl, misB2 (by intro x hx; simp at hx; subst hx; exact y.tm _ hm)]; rfl)]
  exact mr_next (l := [m]) (i := 0) (by simp) rfl (y.room hm)
theorem ms_fin {ws : List Int} {ps : List St} {es : List Int} {qs : List Se} {hs : List Int} {td : List Mi} {cd vl : Int} {nm : List ByteArray} {fr : Bool} (y : FsYes ws ps es qs hs td cd vl nm fr) : ms td ws ps es qs = mr td ws ps es qs := by
  have tl := y.tl
  exact ms_ok (by omega) (by rw [y.pm, y.bl, misB2 y.tm]; rfl)
set_option maxRecDepth 100000 in
set_option maxHeartbeats 16000000 in
theorem implStepFs_any (v : Value) (ws : List Int) (ps : List St) (es : List Int) (qs : List Se) (hs : List Int) (td : List Mi) (cd vl : Int) (nm : List ByteArray) (fr : Bool) (w : World) (h : RdF w v ws ps es qs hs td cd vl nm fr) (hws : ws.length ≤ 1048576) (hps : ps.length ≤ 1048576) (hes : es.length ≤ 1048576) (hqs : qs.length ≤ 1048576) (hhs : hs.length ≤ 1048576) (htd : td.length ≤ 1048576) (hnm : nm.length ≤ 1048576) (hS : SB w) (hT : TS w) (hE : ED w) (hF : FD w) :
    Calls Tryz.prog 25 #[v] w fun e w' => FzOut w w' e (stpR ws ps es qs hs td cd vl nm fr) := by
  have LF := hideIt (fun w1 (hb : Below w.heap.size w w1) => implFsOK_any v ws ps es qs hs td cd vl nm fr w1 (h.below hb) hws hps hes hqs hhs htd hnm (hS.below hb) (hT.below hb) (hE.below hb) (hF.below hb))
  have LDR := hideIt (fun w1 (hb : Below w.heap.size w w1) => draftOf_any v ws ps es qs hs td cd vl nm fr w1 (h.below hb) hws hps hes hqs hhs htd hnm)
  have HR := hideIt h
  obtain ⟨aW, cW, aP, cP, aS, cS, aQ, cQ, aH, cH, aT, cT, aN, cN, rfl, -⟩ := id h
  clear h
  by_cases y : fsB ws ps es qs hs td cd vl nm fr = true
  · simp only [y] at LF
    have Y := fs_yes y
    have tl := Y.tl
    clear hT hE hF
    obtain ⟨V, hV⟩ : ∃ V, V = ((w.alloc (.cells #[.slice aW ws.length cW, .slice aP ps.length cP, .slice aS es.length cS, .slice aQ qs.length cQ, .slice aH hs.length cH, .slice aT td.length cT, .int .i64 cd, .int .i64 vl, .slice aN nm.length cN, .bool fr] 50)).alloc (.cells #[.slice none 0 0, .slice none 0 0, .slice none 0 0, .slice none 0 0, .slice none 0 0, .slice none 0 0, .int .i64 0, .int .i64 0, .slice none 0 0, .bool false] 50)) := ⟨_, rfl⟩
    have zV : w.heap.size + 2 ≤ V.heap.size := by rw [hV]; simp <;> omega
    have B_V : Hid (Below w.heap.size w V) := by rw [hV]; exact (((Below.refl _ _).alloc (by simp <;> omega) _).alloc (by simp <;> omega) _)
    have X0_V : Hid (V.heap[w.heap.size]? = some (.cells #[.slice aW ws.length cW, .slice aP ps.length cP, .slice aS es.length cS, .slice aQ qs.length cQ, .slice aH hs.length cH, .slice aT td.length cT, .int .i64 cd, .int .i64 vl, .slice aN nm.length cN, .bool fr] 50 (0, 0))) := by rw [hV]; exact (at_old (at_new rfl))
    have X1_V : Hid (V.heap[w.heap.size + 1]? = some (.cells #[.slice none 0 0, .slice none 0 0, .slice none 0 0, .slice none 0 0, .slice none 0 0, .slice none 0 0, .int .i64 0, .int .i64 0, .slice none 0 0, .bool false] 50 (0, 0))) := by rw [hV]; exact (at_new (by simp))
    go_enter Tryz.func25, Tryz.ntmps25
    go_upto_region 1 with fail
    rw [← hV]
    clear hV
    obtain ⟨c0_0, c0_1, c0_2, c0_3, c0_4, c0_5, c0_6, c0_7, c0_8, c0_9, -⟩ := ten_cells X0_V.out
    go_wp2_with fail
    refine (LF.out V B_V.out).mono ?_
    rintro e w1 ⟨rfl, hb⟩
    clear c0_0 c0_1 c0_2 c0_3 c0_4 c0_5 c0_6 c0_7 c0_8 c0_9
    have zw1 : V.heap.size ≤ w1.heap.size := hb.size
    have B_w1 := hideIt (below_trans B_V.out hb B_V.out.size)
    have X0_w1 := hideIt (box_below X0_V.out hb (lt_box X0_V.out))
    have X1_w1 := hideIt (box_below X1_V.out hb (lt_box X1_V.out))
    clear B_V hb X0_V X1_V
    clear LF
    obtain ⟨c0_0, c0_1, c0_2, c0_3, c0_4, c0_5, c0_6, c0_7, c0_8, c0_9, -⟩ := ten_cells X0_w1.out
    go_wp2_with fail
    refine (LDR.out w1 B_w1.out).mono ?_
    rintro e w2 ⟨v', rfl, hr, hb⟩
    obtain ⟨vW, vP, vS, vQ, vH, vT, vN, ld, ud, lh, uh, lt, ut, ln, un, rfl, qD, qH, qT, qN, qf⟩ := hr
    obtain ⟨iW, jW, iP, jP, iS, jS, iQ, jQ, ei, -, -⟩ := qD.rd.form
    cases ei
    obtain ⟨-, iH, jH, rfl, -⟩ := qH.rd
    obtain ⟨-, iT, jT, rfl, -⟩ := id qT.1
    obtain ⟨-, iN, jN, rfl, -⟩ := qN.rd
    obtain ⟨q1, q2, q3, q4, q5, q6, q7, q8, q9, q10, q11, q12, q13, q14⟩ := qf
    clear LDR
    clear c0_0 c0_1 c0_2 c0_3 c0_4 c0_5 c0_6 c0_7 c0_8 c0_9
    have zw2 : w1.heap.size ≤ w2.heap.size := hb.size
    have B_w2 := hideIt (below_trans B_w1.out hb B_w1.out.size)
    have X0_w2 := hideIt (box_below X0_w1.out hb (lt_box X0_w1.out))
    have X1_w2 := hideIt (box_below X1_w1.out hb (lt_box X1_w1.out))
    clear B_w1 hb X0_w1 X1_w1
    have QD_w2 := hideIt qD
    have QH_w2 := hideIt qH
    have QT_w2 := hideIt qT
    have QN_w2 := hideIt qN
    clear qD qH qT qN
    obtain ⟨w3, hw3⟩ : ∃ w3, w3 = w2.alloc (.cells #[.slice iW ws.length jW, .slice iP ps.length jP, .slice iS es.length jS, .slice iQ qs.length jQ, .slice iH hs.length jH, .slice iT td.length jT, .int .i64 cd, .int .i64 vl, .slice iN nm.length jN, .bool fr] 98) := ⟨_, rfl⟩
    have hb : Below w2.heap.size w2 w3 := by rw [hw3]; exact (Below.refl _ _).alloc (Nat.le_refl _) _
    obtain ⟨bX, hbX⟩ : ∃ bX : Nat, bX = w2.heap.size := ⟨_, rfl⟩
    have VX_w3 : Hid (w3.heap[bX]? = some (.cells #[.slice iW ws.length jW, .slice iP ps.length jP, .slice iS es.length jS, .slice iQ qs.length jQ, .slice iH hs.length jH, .slice iT td.length jT, .int .i64 cd, .int .i64 vl, .slice iN nm.length jN, .bool fr] 98 (0, 0))) := by rw [hw3, hbX]; exact at_new rfl
    have bx1 : w2.heap.size ≤ bX ∧ bX ≤ w2.heap.size := ⟨Nat.le_of_eq hbX.symm, Nat.le_of_eq hbX⟩
    have zw3 : w2.heap.size ≤ w3.heap.size := hb.size
    have B_w3 := hideIt (below_trans B_w2.out hb B_w2.out.size)
    have X0_w3 := hideIt (box_below X0_w2.out hb (lt_box X0_w2.out))
    have X1_w3 := hideIt (box_below X1_w2.out hb (lt_box X1_w2.out))
    have QD_w3 := hideIt (QD_w2.out.below hb (by omega))
    have QH_w3 := hideIt (QH_w2.out.below hb (by omega))
    have QT_w3 := hideIt (QT_w2.out.below hb (by omega))
    have QN_w3 := hideIt (QN_w2.out.below hb (by omega))
    clear B_w2 hb X0_w2 X1_w2 QD_w2 QH_w2 QT_w2 QN_w2
    have bx2 : bX < w3.heap.size := lt_box VX_w3.out
    go_upto_region 4 with fail
    rw [← hw3, ← hbX]
    clear hw3 hbX
    go_wp2_with fail
    refine (hasTodo_any bX w3 VX_w3.out).mono ?_
    rintro e w' ⟨rfl, hw'⟩
    subst w'
    by_cases pos : 0 < td.length
    · rw [decide_eq_true pos]
      obtain ⟨m, t, etd⟩ : ∃ m t, td = m :: t := by
        cases td with
        | nil => simp at pos
        | cons m t => exact ⟨m, t, rfl⟩
      have hm : m ∈ td := by rw [etd]; exact List.mem_cons_self
      have eR : Hid (stpR ws ps es qs hs td cd vl nm fr = (⟨doW m ws ps, doP m ps, doE m es qs, doQ m qs, hs, t, cd, vl, nm, fr⟩, 0)) := by unfold Hid; unfold stpR; rw [if_pos y, etd]
      have M1 := hideIt (ms_one Y hm)
      obtain ⟨-, ao, cp, e0, hcap, hc⟩ := id QT_w3.out.1
      cases e0
      obtain ⟨bT, oT, rfl, hbT, hcl⟩ := hc pos
      have g0 : w3.cell? ⟨bT, oT, none⟩ = some (.int .i64 m.kind) := (hcl 0 (by omega)).trans (by rw [etd]; simp [mis, Mi.cells])
      have g1 : w3.cell? ⟨bT, oT + 1, none⟩ = some (.int .i64 m.at_) := (hcl 1 (by omega)).trans (by rw [etd]; simp [mis, Mi.cells])
      have g2 : w3.cell? ⟨bT, oT + 2, none⟩ = some (.int .i64 m.val) := (hcl 2 (by omega)).trans (by rw [etd]; simp [mis, Mi.cells])
      have pos2 : (0 : Int) < (td.length : Int) := by omega
      obtain ⟨mk, ma, mv⟩ := m
      simp only at g0 g1 g2
      have x5 := tenT VX_w3.out
      obtain ⟨w4, hw4⟩ : ∃ w4, w4 = w3.alloc (.cells #[.int .i64 mk, .int .i64 ma, .int .i64 mv] 79) := ⟨_, rfl⟩
      have hb : Below w3.heap.size w3 w4 := by rw [hw4]; exact (Below.refl _ _).alloc (Nat.le_refl _) _
      have RL : Hid (RdM w4 (.slice (some ⟨w3.heap.size, 0, none⟩) ([⟨mk, ma, mv⟩] : List Mi).length 1) [⟨mk, ma, mv⟩]) := by rw [hw4]; show Rd _ 3 _ 1 (mis [⟨mk, ma, mv⟩]); rw [show mis [⟨mk, ma, mv⟩] = Mi.cells ⟨mk, ma, mv⟩ by simp [mis]]; exact rd_mic w3 mk ma mv
      have VX_w4 := hideIt (box_below VX_w3.out hb bx2)
      clear hc hcl
      have zw4 : w3.heap.size ≤ w4.heap.size := hb.size
      have B_w4 := hideIt (below_trans B_w3.out hb B_w3.out.size)
      have X0_w4 := hideIt (box_below X0_w3.out hb (lt_box X0_w3.out))
      have X1_w4 := hideIt (box_below X1_w3.out hb (lt_box X1_w3.out))
      have QD_w4 := hideIt (QD_w3.out.below hb (by omega))
      have QH_w4 := hideIt (QH_w3.out.below hb (by omega))
      have QT_w4 := hideIt (QT_w3.out.below hb (by omega))
      have QN_w4 := hideIt (QN_w3.out.below hb (by omega))
      clear B_w3 hb X0_w3 X1_w3 QD_w3 QH_w3 QT_w3 QN_w3
      have HS := hideIt (hS.below B_w4.out)
      go_wp2_with fail
      rw [← hw4]
      clear hw4 g0 g1 g2 x5 VX_w3
      refine (do_any (w := w4) bX bT oT [⟨mk, ma, mv⟩] _ 1 rfl VX_w4.out QD_w4.out.rd RL.out (by simp; omega) HS.out hws hps hes hqs htd).mono ?_
      rw [M1.out]
      simp only
      rintro e w5 ⟨rfl, kW, lW, kP, lP, kS, lS, kQ, lQ, hbx, hrd, ho⟩
      have zw5 : w4.heap.size ≤ w5.heap.size := ho.size
      have B_w5 := hideIt (B_w4.out.trans (ho.below (B := w.heap.size) (by omega) B_w4.out.size))
      have X0_w5 := hideIt ((ho.block (w.heap.size) (lt_box X0_w4.out) (by omega)).trans X0_w4.out)
      have X1_w5 := hideIt ((ho.block (w.heap.size + 1) (lt_box X1_w4.out) (by omega)).trans X1_w4.out)
      have VX_w5 := hideIt hbx
      have QD_w5 := hideIt hrd
      have QH_w5 := hideIt (QH_w4.out.outside ho (by omega) (by omega))
      have QN_w5 := hideIt (QN_w4.out.outside ho (by omega) (by omega))
      have QT_w5 := hideIt (RowW.tail 1 (by omega) (QT_w4.out.outside ho (by omega)))
      clear ho hbx hrd M1 RL HS B_w4 X0_w4 X1_w4 VX_w4 QD_w4 QH_w4 QT_w4 QN_w4
      obtain ⟨aX, hX⟩ : ∃ aX, aX = (if jT = 1 then some (⟨bT, oT, none⟩ : Addr) else some ⟨bT, oT + 1 * 3, none⟩) := ⟨_, rfl⟩
      obtain ⟨cX, hcX⟩ : ∃ cX, cX = jT - 1 := ⟨_, rfl⟩
      have etl : td.length - 1 = t.length := by rw [etd]; rfl
      have edr : td.drop 1 = t := by rw [etd]; rfl
      simp only [List.length_singleton] at VX_w5
      rw [edr] at QT_w5
      rw [← hX, ← hcX, etl] at QT_w5 VX_w5
      clear hX hcX etl edr etd y Y hm pos pos2 hS HR
      obtain ⟨x0, x1, x2, x3, x4, x5, x6, x7, x8, x9, -⟩ := ten_cells VX_w5.out
      obtain ⟨d0, d1, d2, d3, d4, d5, d6, d7, d8, d9, g0, g1, g2, g3, g4, g5, g6, g7, g8, g9⟩ := ten_cells X1_w5.out
      obtain ⟨w6, hw6⟩ : ∃ w6, w6 = ((((((((((w5.setCell ⟨w.heap.size + 1, 0, none⟩ (.slice kW (doW ⟨mk, ma, mv⟩ ws ps).length lW)).setCell ⟨w.heap.size + 1, 1, none⟩ (.slice kP (doP ⟨mk, ma, mv⟩ ps).length lP)).setCell ⟨w.heap.size + 1, 2, none⟩ (.slice kS (doE ⟨mk, ma, mv⟩ es qs).length lS)).setCell ⟨w.heap.size + 1, 3, none⟩ (.slice kQ (doQ ⟨mk, ma, mv⟩ qs).length lQ)).setCell ⟨w.heap.size + 1, 4, none⟩ (.slice iH hs.length jH)).setCell ⟨w.heap.size + 1, 5, none⟩ (.slice aX t.length cX)).setCell ⟨w.heap.size + 1, 6, none⟩ (.int .i64 cd)).setCell ⟨w.heap.size + 1, 7, none⟩ (.int .i64 vl)).setCell ⟨w.heap.size + 1, 8, none⟩ (.slice iN nm.length jN)).setCell ⟨w.heap.size + 1, 9, none⟩ (.bool fr)) := ⟨_, rfl⟩
      have Ow6 : Outside (w.heap.size + 1) (w.heap.size + 1 + 1) w5 w6 := by
        rw [hw6]
        repeat (refine Outside.setCell ?_ (by simp only; omega) (by simp only; omega) _)
        exact Outside.refl _ _ _
      have zw6 : w5.heap.size ≤ w6.heap.size ∧ w6.heap.size ≤ w5.heap.size := by rw [hw6]; simp [World.setCell]
      have B_w6 := hideIt (B_w5.out.trans (Ow6.below (B := w.heap.size) (by omega) B_w5.out.size))
      have X0_w6 := hideIt ((Ow6.block (w.heap.size) (lt_box X0_w5.out) (by omega)).trans X0_w5.out)
      have X1_w6 : Hid (w6.heap[w.heap.size + 1]? = some (.cells #[.slice kW (doW ⟨mk, ma, mv⟩ ws ps).length lW, .slice kP (doP ⟨mk, ma, mv⟩ ps).length lP, .slice kS (doE ⟨mk, ma, mv⟩ es qs).length lS, .slice kQ (doQ ⟨mk, ma, mv⟩ qs).length lQ, .slice iH hs.length jH, .slice aX t.length cX, .int .i64 cd, .int .i64 vl, .slice iN nm.length jN, .bool fr] 50 (0, 0))) := by rw [hw6]; exact (ten_set9 (ten_set8 (ten_set7 (ten_set6 (ten_set5 (ten_set4 (ten_set3 (ten_set2 (ten_set1 (ten_set0 X1_w5.out _) _) _) _) _) _) _) _) _) _)
      have QD_w6 := hideIt (QD_w5.out.outside Ow6 (by omega) (by omega))
      have QH_w6 := hideIt (QH_w5.out.outside Ow6 (by omega) (by omega))
      have QT_w6 := hideIt (QT_w5.out.outside Ow6 (by omega))
      have QN_w6 := hideIt (QN_w5.out.outside Ow6 (by omega) (by omega))
      clear Ow6
      go_wp2
      refine bodyPost_ret (v := .tuple #[.agg #[.slice kW (doW ⟨mk, ma, mv⟩ ws ps).length lW, .slice kP (doP ⟨mk, ma, mv⟩ ps).length lP, .slice kS (doE ⟨mk, ma, mv⟩ es qs).length lS, .slice kQ (doQ ⟨mk, ma, mv⟩ qs).length lQ, .slice iH hs.length jH, .slice aX t.length cX, .int .i64 cd, .int .i64 vl, .slice iN nm.length jN, .bool fr], .int .i64 0]) (by simp [results, Tryz.results25, go_sem, d0, d1, d2, d3, d4, d5, d6, d7, d8, d9]) rfl ?_
      rw [← hw6]
      rw [eR.out]
      refine ⟨_, rfl, ⟨_, _, _, _, _, _, _, _, _, _, _, _, _, _, _, rfl, QD_w6.out, QH_w6.out, QT_w6.out, QN_w6.out, ?_⟩, B_w6.out⟩
      exact ⟨by omega, by omega, by omega, by omega, by omega, by omega, by omega, by omega, by omega, by omega, by omega, by omega, by omega, by omega⟩
    · rw [decide_eq_false pos]
      have etd : td = [] := List.length_eq_zero_iff.1 (by omega)
      have eR : Hid (stpR ws ps es qs hs td cd vl nm fr = (⟨ws, ps, es, qs, hs, td, cd, vl, nm, fr⟩, 16)) := by unfold Hid; unfold stpR; rw [if_pos y, etd]
      clear etd y Y HR hS
      obtain ⟨x0, x1, x2, x3, x4, x5, x6, x7, x8, x9, -⟩ := ten_cells VX_w3.out
      obtain ⟨d0, d1, d2, d3, d4, d5, d6, d7, d8, d9, g0, g1, g2, g3, g4, g5, g6, g7, g8, g9⟩ := ten_cells X1_w3.out
      obtain ⟨w4, hw4⟩ : ∃ w4, w4 = ((((((((((w3.setCell ⟨w.heap.size + 1, 0, none⟩ (.slice iW ws.length jW)).setCell ⟨w.heap.size + 1, 1, none⟩ (.slice iP ps.length jP)).setCell ⟨w.heap.size + 1, 2, none⟩ (.slice iS es.length jS)).setCell ⟨w.heap.size + 1, 3, none⟩ (.slice iQ qs.length jQ)).setCell ⟨w.heap.size + 1, 4, none⟩ (.slice iH hs.length jH)).setCell ⟨w.heap.size + 1, 5, none⟩ (.slice iT td.length jT)).setCell ⟨w.heap.size + 1, 6, none⟩ (.int .i64 cd)).setCell ⟨w.heap.size + 1, 7, none⟩ (.int .i64 vl)).setCell ⟨w.heap.size + 1, 8, none⟩ (.slice iN nm.length jN)).setCell ⟨w.heap.size + 1, 9, none⟩ (.bool fr)) := ⟨_, rfl⟩
      have Ow4 : Outside (w.heap.size + 1) (w.heap.size + 1 + 1) w3 w4 := by
        rw [hw4]
        repeat (refine Outside.setCell ?_ (by simp only; omega) (by simp only; omega) _)
        exact Outside.refl _ _ _
      have zw4 : w3.heap.size ≤ w4.heap.size ∧ w4.heap.size ≤ w3.heap.size := by rw [hw4]; simp [World.setCell]
      have B_w4 := hideIt (B_w3.out.trans (Ow4.below (B := w.heap.size) (by omega) B_w3.out.size))
      have X0_w4 := hideIt ((Ow4.block (w.heap.size) (lt_box X0_w3.out) (by omega)).trans X0_w3.out)
      have X1_w4 : Hid (w4.heap[w.heap.size + 1]? = some (.cells #[.slice iW ws.length jW, .slice iP ps.length jP, .slice iS es.length jS, .slice iQ qs.length jQ, .slice iH hs.length jH, .slice iT td.length jT, .int .i64 cd, .int .i64 vl, .slice iN nm.length jN, .bool fr] 50 (0, 0))) := by rw [hw4]; exact (ten_set9 (ten_set8 (ten_set7 (ten_set6 (ten_set5 (ten_set4 (ten_set3 (ten_set2 (ten_set1 (ten_set0 X1_w3.out _) _) _) _) _) _) _) _) _) _)
      have QD_w4 := hideIt (QD_w3.out.outside Ow4 (by omega) (by omega))
      have QH_w4 := hideIt (QH_w3.out.outside Ow4 (by omega) (by omega))
      have QT_w4 := hideIt (QT_w3.out.outside Ow4 (by omega))
      have QN_w4 := hideIt (QN_w3.out.outside Ow4 (by omega) (by omega))
      clear Ow4
      go_wp2
      refine bodyPost_ret (v := .tuple #[.agg #[.slice iW ws.length jW, .slice iP ps.length jP, .slice iS es.length jS, .slice iQ qs.length jQ, .slice iH hs.length jH, .slice iT td.length jT, .int .i64 cd, .int .i64 vl, .slice iN nm.length jN, .bool fr], .int .i64 16]) (by simp [results, Tryz.results25, go_sem, d0, d1, d2, d3, d4, d5, d6, d7, d8, d9]) rfl ?_
      rw [← hw4]
      rw [eR.out]
      refine ⟨_, rfl, ⟨_, _, _, _, _, _, _, _, _, _, _, _, _, _, _, rfl, QD_w4.out, QH_w4.out, QT_w4.out, QN_w4.out, ?_⟩, B_w4.out⟩
      exact ⟨by omega, by omega, by omega, by omega, by omega, by omega, by omega, by omega, by omega, by omega, by omega, by omega, by omega, by omega⟩
  · have y' : fsB ws ps es qs hs td cd vl nm fr = false := by simpa using y
    simp only [y'] at LF
    clear y' HR LDR hS hT hE hF
    obtain ⟨V, hV⟩ : ∃ V, V = ((w.alloc (.cells #[.slice aW ws.length cW, .slice aP ps.length cP, .slice aS es.length cS, .slice aQ qs.length cQ, .slice aH hs.length cH, .slice aT td.length cT, .int .i64 cd, .int .i64 vl, .slice aN nm.length cN, .bool fr] 50)).alloc (.cells #[.slice none 0 0, .slice none 0 0, .slice none 0 0, .slice none 0 0, .slice none 0 0, .slice none 0 0, .int .i64 0, .int .i64 0, .slice none 0 0, .bool false] 50)) := ⟨_, rfl⟩
    have zV : w.heap.size + 2 ≤ V.heap.size := by rw [hV]; simp <;> omega
    have B_V : Hid (Below w.heap.size w V) := by rw [hV]; exact (((Below.refl _ _).alloc (by simp <;> omega) _).alloc (by simp <;> omega) _)
    have X0_V : Hid (V.heap[w.heap.size]? = some (.cells #[.slice aW ws.length cW, .slice aP ps.length cP, .slice aS es.length cS, .slice aQ qs.length cQ, .slice aH hs.length cH, .slice aT td.length cT, .int .i64 cd, .int .i64 vl, .slice aN nm.length cN, .bool fr] 50 (0, 0))) := by rw [hV]; exact (at_old (at_new rfl))
    have X1_V : Hid (V.heap[w.heap.size + 1]? = some (.cells #[.slice none 0 0, .slice none 0 0, .slice none 0 0, .slice none 0 0, .slice none 0 0, .slice none 0 0, .int .i64 0, .int .i64 0, .slice none 0 0, .bool false] 50 (0, 0))) := by rw [hV]; exact (at_new (by simp))
    go_enter Tryz.func25, Tryz.ntmps25
    go_upto_region 1 with fail
    rw [← hV]
    clear hV
    obtain ⟨c0_0, c0_1, c0_2, c0_3, c0_4, c0_5, c0_6, c0_7, c0_8, c0_9, -⟩ := ten_cells X0_V.out
    go_wp2_with fail
    refine (LF.out V B_V.out).mono ?_
    rintro e w1 ⟨rfl, hb⟩
    clear c0_0 c0_1 c0_2 c0_3 c0_4 c0_5 c0_6 c0_7 c0_8 c0_9
    have zw1 : V.heap.size ≤ w1.heap.size := hb.size
    have B_w1 := hideIt (below_trans B_V.out hb B_V.out.size)
    have X0_w1 := hideIt (box_below X0_V.out hb (lt_box X0_V.out))
    have X1_w1 := hideIt (box_below X1_V.out hb (lt_box X1_V.out))
    clear B_V hb X0_V X1_V
    clear LF
    obtain ⟨d0, d1, d2, d3, d4, d5, d6, d7, d8, d9, g0, g1, g2, g3, g4, g5, g6, g7, g8, g9⟩ := ten_cells X1_w1.out
    obtain ⟨w2, hw2⟩ : ∃ w2, w2 = ((((((((((w1.setCell ⟨w.heap.size + 1, 0, none⟩ (.slice none 0 0)).setCell ⟨w.heap.size + 1, 1, none⟩ (.slice none 0 0)).setCell ⟨w.heap.size + 1, 2, none⟩ (.slice none 0 0)).setCell ⟨w.heap.size + 1, 3, none⟩ (.slice none 0 0)).setCell ⟨w.heap.size + 1, 4, none⟩ (.slice none 0 0)).setCell ⟨w.heap.size + 1, 5, none⟩ (.slice none 0 0)).setCell ⟨w.heap.size + 1, 6, none⟩ (.int .i64 0)).setCell ⟨w.heap.size + 1, 7, none⟩ (.int .i64 0)).setCell ⟨w.heap.size + 1, 8, none⟩ (.slice none 0 0)).setCell ⟨w.heap.size + 1, 9, none⟩ (.bool false)) := ⟨_, rfl⟩
    have Ow2 : Outside (w.heap.size + 1) (w.heap.size + 1 + 1) w1 w2 := by
      rw [hw2]
      repeat (refine Outside.setCell ?_ (by simp only; omega) (by simp only; omega) _)
      exact Outside.refl _ _ _
    have zw2 : w1.heap.size ≤ w2.heap.size ∧ w2.heap.size ≤ w1.heap.size := by rw [hw2]; simp [World.setCell]
    have B_w2 := hideIt (B_w1.out.trans (Ow2.below (B := w.heap.size) (by omega) B_w1.out.size))
    have X0_w2 := hideIt ((Ow2.block (w.heap.size) (lt_box X0_w1.out) (by omega)).trans X0_w1.out)
    have X1_w2 : Hid (w2.heap[w.heap.size + 1]? = some (.cells #[.slice none 0 0, .slice none 0 0, .slice none 0 0, .slice none 0 0, .slice none 0 0, .slice none 0 0, .int .i64 0, .int .i64 0, .slice none 0 0, .bool false] 50 (0, 0))) := by rw [hw2]; exact (ten_set9 (ten_set8 (ten_set7 (ten_set6 (ten_set5 (ten_set4 (ten_set3 (ten_set2 (ten_set1 (ten_set0 X1_w1.out _) _) _) _) _) _) _) _) _) _)
    clear Ow2
    go_wp2
    refine bodyPost_ret (v := .tuple #[.agg #[.slice none 0 0, .slice none 0 0, .slice none 0 0, .slice none 0 0, .slice none 0 0, .slice none 0 0, .int .i64 0, .int .i64 0, .slice none 0 0, .bool false], .int .i64 1]) (by simp [results, Tryz.results25, go_sem, d0, d1, d2, d3, d4, d5, d6, d7, d8, d9]) rfl ?_
    rw [← hw2]
    rw [show stpR ws ps es qs hs td cd vl nm fr = (zz, 1) from if_neg y]
    exact ⟨_, rfl, (RowF.zero _ _).wide (Nat.le_refl _) (by omega), B_w2.out⟩
set_option maxRecDepth 100000 in
set_option maxHeartbeats 16000000 in
theorem implFinishFs_any (v : Value) (ws : List Int) (ps : List St) (es : List Int) (qs : List Se) (hs : List Int) (td : List Mi) (cd vl : Int) (nm : List ByteArray) (fr : Bool) (w : World) (h : RdF w v ws ps es qs hs td cd vl nm fr) (hws : ws.length ≤ 1048576) (hps : ps.length ≤ 1048576) (hes : es.length ≤ 1048576) (hqs : qs.length ≤ 1048576) (hhs : hs.length ≤ 1048576) (htd : td.length ≤ 1048576) (hnm : nm.length ≤ 1048576) (hS : SB w) (hT : TS w) (hE : ED w) (hF : FD w) :
    Calls Tryz.prog 27 #[v] w fun e w' => FzOut w w' e (finR ws ps es qs hs td cd vl nm fr) := by
  have LF := hideIt (fun w1 (hb : Below w.heap.size w w1) => implFsOK_any v ws ps es qs hs td cd vl nm fr w1 (h.below hb) hws hps hes hqs hhs htd hnm (hS.below hb) (hT.below hb) (hE.below hb) (hF.below hb))
  have LDR := hideIt (fun w1 (hb : Below w.heap.size w w1) => draftOf_any v ws ps es qs hs td cd vl nm fr w1 (h.below hb) hws hps hes hqs hhs htd hnm)
  have HR := hideIt h
  obtain ⟨aW, cW, aP, cP, aS, cS, aQ, cQ, aH, cH, aT, cT, aN, cN, rfl, -⟩ := id h
  clear h
  by_cases y : fsB ws ps es qs hs td cd vl nm fr = true
  · simp only [y] at LF
    have Y := fs_yes y
    have tl := Y.tl
    have M1 := hideIt (ms_fin Y)
    have eR : Hid (finR ws ps es qs hs td cd vl nm fr = (⟨(mr td ws ps es qs).W, (mr td ws ps es qs).P, (mr td ws ps es qs).E, (mr td ws ps es qs).Q, hs, [], cd, vl, nm, fr⟩, 0)) := if_pos y
    clear hT hE hF y Y HR
    obtain ⟨V, hV⟩ : ∃ V, V = ((w.alloc (.cells #[.slice aW ws.length cW, .slice aP ps.length cP, .slice aS es.length cS, .slice aQ qs.length cQ, .slice aH hs.length cH, .slice aT td.length cT, .int .i64 cd, .int .i64 vl, .slice aN nm.length cN, .bool fr] 50)).alloc (.cells #[.slice none 0 0, .slice none 0 0, .slice none 0 0, .slice none 0 0, .slice none 0 0, .slice none 0 0, .int .i64 0, .int .i64 0, .slice none 0 0, .bool false] 50)) := ⟨_, rfl⟩
    have zV : w.heap.size + 2 ≤ V.heap.size := by rw [hV]; simp <;> omega
    have B_V : Hid (Below w.heap.size w V) := by rw [hV]; exact (((Below.refl _ _).alloc (by simp <;> omega) _).alloc (by simp <;> omega) _)
    have X0_V : Hid (V.heap[w.heap.size]? = some (.cells #[.slice aW ws.length cW, .slice aP ps.length cP, .slice aS es.length cS, .slice aQ qs.length cQ, .slice aH hs.length cH, .slice aT td.length cT, .int .i64 cd, .int .i64 vl, .slice aN nm.length cN, .bool fr] 50 (0, 0))) := by rw [hV]; exact (at_old (at_new rfl))
    have X1_V : Hid (V.heap[w.heap.size + 1]? = some (.cells #[.slice none 0 0, .slice none 0 0, .slice none 0 0, .slice none 0 0, .slice none 0 0, .slice none 0 0, .int .i64 0, .int .i64 0, .slice none 0 0, .bool false] 50 (0, 0))) := by rw [hV]; exact (at_new (by simp))
    go_enter Tryz.func27, Tryz.ntmps27
    go_upto_region 1 with fail
    rw [← hV]
    clear hV
    obtain ⟨c0_0, c0_1, c0_2, c0_3, c0_4, c0_5, c0_6, c0_7, c0_8, c0_9, -⟩ := ten_cells X0_V.out
    go_wp2_with fail
    refine (LF.out V B_V.out).mono ?_
    rintro e w1 ⟨rfl, hb⟩
    clear c0_0 c0_1 c0_2 c0_3 c0_4 c0_5 c0_6 c0_7 c0_8 c0_9
    have zw1 : V.heap.size ≤ w1.heap.size := hb.size
    have B_w1 := hideIt (below_trans B_V.out hb B_V.out.size)
    have X0_w1 := hideIt (box_below X0_V.out hb (lt_box X0_V.out))
    have X1_w1 := hideIt (box_below X1_V.out hb (lt_box X1_V.out))
    clear B_V hb X0_V X1_V
    clear LF
    obtain ⟨c0_0, c0_1, c0_2, c0_3, c0_4, c0_5, c0_6, c0_7, c0_8, c0_9, -⟩ := ten_cells X0_w1.out
    go_wp2_with fail
    refine (LDR.out w1 B_w1.out).mono ?_
    rintro e w2 ⟨v', rfl, hr, hb⟩
    obtain ⟨vW, vP, vS, vQ, vH, vT, vN, ld, ud, lh, uh, lt, ut, ln, un, rfl, qD, qH, qT, qN, qf⟩ := hr
    obtain ⟨iW, jW, iP, jP, iS, jS, iQ, jQ, ei, -, -⟩ := qD.rd.form
    cases ei
    obtain ⟨-, iH, jH, rfl, -⟩ := qH.rd
    obtain ⟨-, iT, jT, rfl, -⟩ := id qT.1
    obtain ⟨-, iN, jN, rfl, -⟩ := qN.rd
    obtain ⟨q1, q2, q3, q4, q5, q6, q7, q8, q9, q10, q11, q12, q13, q14⟩ := qf
    clear LDR
    clear c0_0 c0_1 c0_2 c0_3 c0_4 c0_5 c0_6 c0_7 c0_8 c0_9
    have zw2 : w1.heap.size ≤ w2.heap.size := hb.size
    have B_w2 := hideIt (below_trans B_w1.out hb B_w1.out.size)
    have X0_w2 := hideIt (box_below X0_w1.out hb (lt_box X0_w1.out))
    have X1_w2 := hideIt (box_below X1_w1.out hb (lt_box X1_w1.out))
    clear B_w1 hb X0_w1 X1_w1
    have QD_w2 := hideIt qD
    have QH_w2 := hideIt qH
    have QT_w2 := hideIt qT
    have QN_w2 := hideIt qN
    clear qD qH qT qN
    obtain ⟨w3, hw3⟩ : ∃ w3, w3 = w2.alloc (.cells #[.slice iW ws.length jW, .slice iP ps.length jP, .slice iS es.length jS, .slice iQ qs.length jQ, .slice iH hs.length jH, .slice iT td.length jT, .int .i64 cd, .int .i64 vl, .slice iN nm.length jN, .bool fr] 98) := ⟨_, rfl⟩
    have hb : Below w2.heap.size w2 w3 := by rw [hw3]; exact (Below.refl _ _).alloc (Nat.le_refl _) _
    obtain ⟨bX, hbX⟩ : ∃ bX : Nat, bX = w2.heap.size := ⟨_, rfl⟩
    have VX_w3 : Hid (w3.heap[bX]? = some (.cells #[.slice iW ws.length jW, .slice iP ps.length jP, .slice iS es.length jS, .slice iQ qs.length jQ, .slice iH hs.length jH, .slice iT td.length jT, .int .i64 cd, .int .i64 vl, .slice iN nm.length jN, .bool fr] 98 (0, 0))) := by rw [hw3, hbX]; exact at_new rfl
    have bx1 : w2.heap.size ≤ bX ∧ bX ≤ w2.heap.size := ⟨Nat.le_of_eq hbX.symm, Nat.le_of_eq hbX⟩
    have zw3 : w2.heap.size ≤ w3.heap.size := hb.size
    have B_w3 := hideIt (below_trans B_w2.out hb B_w2.out.size)
    have X0_w3 := hideIt (box_below X0_w2.out hb (lt_box X0_w2.out))
    have X1_w3 := hideIt (box_below X1_w2.out hb (lt_box X1_w2.out))
    have QD_w3 := hideIt (QD_w2.out.below hb (by omega))
    have QH_w3 := hideIt (QH_w2.out.below hb (by omega))
    have QT_w3 := hideIt (QT_w2.out.below hb (by omega))
    have QN_w3 := hideIt (QN_w2.out.below hb (by omega))
    clear B_w2 hb X0_w2 X1_w2 QD_w2 QH_w2 QT_w2 QN_w2
    have bx2 : bX < w3.heap.size := lt_box VX_w3.out
    go_upto_region 4 with fail
    rw [← hw3, ← hbX]
    clear hw3 hbX
    have HS := hideIt (hS.below B_w3.out)
    clear hS
    have TT := hideIt (show RowW w3 lt ut (.slice iT td.length jT) td from QT_w3.out)
    have DO : Hid (∀ W2 P2 E2 Q2 rc, ms td ws ps es qs = ⟨rc, W2, P2, E2, Q2⟩ → Calls Tryz.prog 79 #[.pointer (some ⟨bX, 0, none⟩), .slice iT td.length jT] w3 fun e w' => e = .returned (.tuple #[]) ∧ ∃ kW lW kP lP kS lS kQ lQ aX cX, w'.heap[bX]? = some (.cells #[.slice kW W2.length lW, .slice kP P2.length lP, .slice kS E2.length lS, .slice kQ Q2.length lQ, .slice iH hs.length jH, .slice aX 0 cX, .int .i64 cd, .int .i64 vl, .slice iN nm.length jN, .bool fr] 98 (0, 0)) ∧ RowDev w' w3.heap.size w'.heap.size (.agg #[.slice kW W2.length lW, .slice kP P2.length lP, .slice kS E2.length lS, .slice kQ Q2.length lQ]) W2 P2 E2 Q2 ∧ Outside bX (bX + 1) w3 w' ∧ (Outside bX (bX + 1) w3 w' → RowW w' lt ut (.slice aX 0 cX) [])) := by
      intro W2 P2 E2 Q2 rc eM
      cases iT with
      | none =>
        obtain ⟨-, ao, cp, e0, ⟨hc1, hc2⟩, hc⟩ := id TT.out.1
        cases e0
        have j0 : jT = 0 := hc2 rfl
        have t0 : td = [] := by
          by_cases p : 0 < td.length
          · obtain ⟨b, o, q, -⟩ := hc p
            cases q
          · exact List.length_eq_zero_iff.1 (by omega)
        have := do_none (w := w3) bX td none jT rfl j0 t0 t0 VX_w3.out QD_w3.out.rd TT.out.1 HS.out hws hps hes hqs
        rw [eM] at this
        refine this.mono ?_
        rintro e w1 ⟨rfl, kW, lW, kP, lP, kS, lS, kQ, lQ, hbx, hrd, ho⟩
        exact ⟨rfl, kW, lW, kP, lP, kS, lS, kQ, lQ, none, 0, hbx, hrd, ho, fun _ => RowW.nil _ _ _⟩
      | some aa =>
        obtain ⟨bT, oT, sp⟩ := aa
        have esp : sp = none := by obtain ⟨-, -, -, -, o2, n2, c2, e2⟩ := TT.out.2 bT rfl; injection e2 with e2; injection e2 with e2; injection e2
        subst esp
        have := do_any (w := w3) bX bT oT td _ jT rfl VX_w3.out QD_w3.out.rd TT.out.1 (Nat.le_refl _) HS.out hws hps hes hqs htd
        rw [eM] at this
        refine this.mono ?_
        rintro e w1 ⟨rfl, kW, lW, kP, lP, kS, lS, kQ, lQ, hbx, hrd, ho⟩
        rw [Nat.sub_self] at hbx
        refine ⟨rfl, kW, lW, kP, lP, kS, lS, kQ, lQ, _, _, hbx, hrd, ho, fun ho2 => ?_⟩
        have q := RowW.tail td.length (Nat.le_refl _) (TT.out.outside ho2 (by omega))
        rw [Nat.sub_self, List.drop_length] at q
        exact q
    have x5 := tenT VX_w3.out
    rw [M1.out] at DO
    obtain ⟨rr, W2, P2, E2, Q2, eM⟩ : ∃ rc W2 P2 E2 Q2, mr td ws ps es qs = ⟨rc, W2, P2, E2, Q2⟩ := ⟨_, _, _, _, _, rfl⟩
    have DO2 := hideIt (DO.out W2 P2 E2 Q2 rr eM)
    rw [eM] at eR
    simp only at eR
    clear DO eM M1
    go_wp2_with fail
    refine DO2.out.mono ?_
    rintro e w4 ⟨rfl, kW, lW, kP, lP, kS, lS, kQ, lQ, aX, cX, hbx, hrd, ho, hto⟩
    have zw4 : w3.heap.size ≤ w4.heap.size := ho.size
    have B_w4 := hideIt (B_w3.out.trans (ho.below (B := w.heap.size) (by omega) B_w3.out.size))
    have X0_w4 := hideIt ((ho.block (w.heap.size) (lt_box X0_w3.out) (by omega)).trans X0_w3.out)
    have X1_w4 := hideIt ((ho.block (w.heap.size + 1) (lt_box X1_w3.out) (by omega)).trans X1_w3.out)
    have VX_w4 := hideIt hbx
    have QD_w4 := hideIt hrd
    have QH_w4 := hideIt (QH_w3.out.outside ho (by omega) (by omega))
    have QN_w4 := hideIt (QN_w3.out.outside ho (by omega) (by omega))
    have QT_w4 := hideIt (hto ho)
    clear x5 ho hto hbx hrd DO2 TT HS B_w3 X0_w3 X1_w3 VX_w3 QD_w3 QH_w3 QT_w3 QN_w3
    obtain ⟨x0, x1, x2, x3, x4, x5, x6, x7, x8, x9, -⟩ := ten_cells VX_w4.out
    obtain ⟨d0, d1, d2, d3, d4, d5, d6, d7, d8, d9, g0, g1, g2, g3, g4, g5, g6, g7, g8, g9⟩ := ten_cells X1_w4.out
    obtain ⟨w5, hw5⟩ : ∃ w5, w5 = ((((((((((w4.setCell ⟨w.heap.size + 1, 0, none⟩ (.slice kW W2.length lW)).setCell ⟨w.heap.size + 1, 1, none⟩ (.slice kP P2.length lP)).setCell ⟨w.heap.size + 1, 2, none⟩ (.slice kS E2.length lS)).setCell ⟨w.heap.size + 1, 3, none⟩ (.slice kQ Q2.length lQ)).setCell ⟨w.heap.size + 1, 4, none⟩ (.slice iH hs.length jH)).setCell ⟨w.heap.size + 1, 5, none⟩ (.slice aX 0 cX)).setCell ⟨w.heap.size + 1, 6, none⟩ (.int .i64 cd)).setCell ⟨w.heap.size + 1, 7, none⟩ (.int .i64 vl)).setCell ⟨w.heap.size + 1, 8, none⟩ (.slice iN nm.length jN)).setCell ⟨w.heap.size + 1, 9, none⟩ (.bool fr)) := ⟨_, rfl⟩
    have Ow5 : Outside (w.heap.size + 1) (w.heap.size + 1 + 1) w4 w5 := by
      rw [hw5]
      repeat (refine Outside.setCell ?_ (by simp only; omega) (by simp only; omega) _)
      exact Outside.refl _ _ _
    have zw5 : w4.heap.size ≤ w5.heap.size ∧ w5.heap.size ≤ w4.heap.size := by rw [hw5]; simp [World.setCell]
    have B_w5 := hideIt (B_w4.out.trans (Ow5.below (B := w.heap.size) (by omega) B_w4.out.size))
    have X0_w5 := hideIt ((Ow5.block (w.heap.size) (lt_box X0_w4.out) (by omega)).trans X0_w4.out)
    have X1_w5 : Hid (w5.heap[w.heap.size + 1]? = some (.cells #[.slice kW W2.length lW, .slice kP P2.length lP, .slice kS E2.length lS, .slice kQ Q2.length lQ, .slice iH hs.length jH, .slice aX 0 cX, .int .i64 cd, .int .i64 vl, .slice iN nm.length jN, .bool fr] 50 (0, 0))) := by rw [hw5]; exact (ten_set9 (ten_set8 (ten_set7 (ten_set6 (ten_set5 (ten_set4 (ten_set3 (ten_set2 (ten_set1 (ten_set0 X1_w4.out _) _) _) _) _) _) _) _) _) _)
    have QD_w5 := hideIt (QD_w4.out.outside Ow5 (by omega) (by omega))
    have QH_w5 := hideIt (QH_w4.out.outside Ow5 (by omega) (by omega))
    have QT_w5 := hideIt (QT_w4.out.outside Ow5 (by omega))
    have QN_w5 := hideIt (QN_w4.out.outside Ow5 (by omega) (by omega))
    clear Ow5
    go_wp2
    refine bodyPost_ret (v := .tuple #[.agg #[.slice kW W2.length lW, .slice kP P2.length lP, .slice kS E2.length lS, .slice kQ Q2.length lQ, .slice iH hs.length jH, .slice aX 0 cX, .int .i64 cd, .int .i64 vl, .slice iN nm.length jN, .bool fr], .int .i64 0]) (by simp [results, Tryz.results27, go_sem, d0, d1, d2, d3, d4, d5, d6, d7, d8, d9]) rfl ?_
    rw [← hw5]
    rw [eR.out]
    refine ⟨_, rfl, ⟨_, _, _, _, _, _, _, _, _, _, _, _, _, _, _, rfl, QD_w5.out, QH_w5.out, QT_w5.out, QN_w5.out, ?_⟩, B_w5.out⟩
    exact ⟨by omega, by omega, by omega, by omega, by omega, by omega, by omega, by omega, by omega, by omega, by omega, by omega, by omega, by omega⟩
  · have y' : fsB ws ps es qs hs td cd vl nm fr = false := by simpa using y
    simp only [y'] at LF
    clear y' HR LDR hS hT hE hF
    obtain ⟨V, hV⟩ : ∃ V, V = ((w.alloc (.cells #[.slice aW ws.length cW, .slice aP ps.length cP, .slice aS es.length cS, .slice aQ qs.length cQ, .slice aH hs.length cH, .slice aT td.length cT, .int .i64 cd, .int .i64 vl, .slice aN nm.length cN, .bool fr] 50)).alloc (.cells #[.slice none 0 0, .slice none 0 0, .slice none 0 0, .slice none 0 0, .slice none 0 0, .slice none 0 0, .int .i64 0, .int .i64 0, .slice none 0 0, .bool false] 50)) := ⟨_, rfl⟩
    have zV : w.heap.size + 2 ≤ V.heap.size := by rw [hV]; simp <;> omega
    have B_V : Hid (Below w.heap.size w V) := by rw [hV]; exact (((Below.refl _ _).alloc (by simp <;> omega) _).alloc (by simp <;> omega) _)
    have X0_V : Hid (V.heap[w.heap.size]? = some (.cells #[.slice aW ws.length cW, .slice aP ps.length cP, .slice aS es.length cS, .slice aQ qs.length cQ, .slice aH hs.length cH, .slice aT td.length cT, .int .i64 cd, .int .i64 vl, .slice aN nm.length cN, .bool fr] 50 (0, 0))) := by rw [hV]; exact (at_old (at_new rfl))
    have X1_V : Hid (V.heap[w.heap.size + 1]? = some (.cells #[.slice none 0 0, .slice none 0 0, .slice none 0 0, .slice none 0 0, .slice none 0 0, .slice none 0 0, .int .i64 0, .int .i64 0, .slice none 0 0, .bool false] 50 (0, 0))) := by rw [hV]; exact (at_new (by simp))
    go_enter Tryz.func27, Tryz.ntmps27
    go_upto_region 1 with fail
    rw [← hV]
    clear hV
    obtain ⟨c0_0, c0_1, c0_2, c0_3, c0_4, c0_5, c0_6, c0_7, c0_8, c0_9, -⟩ := ten_cells X0_V.out
    go_wp2_with fail
    refine (LF.out V B_V.out).mono ?_
    rintro e w1 ⟨rfl, hb⟩
    clear c0_0 c0_1 c0_2 c0_3 c0_4 c0_5 c0_6 c0_7 c0_8 c0_9
    have zw1 : V.heap.size ≤ w1.heap.size := hb.size
    have B_w1 := hideIt (below_trans B_V.out hb B_V.out.size)
    have X0_w1 := hideIt (box_below X0_V.out hb (lt_box X0_V.out))
    have X1_w1 := hideIt (box_below X1_V.out hb (lt_box X1_V.out))
    clear B_V hb X0_V X1_V
    clear LF
    obtain ⟨d0, d1, d2, d3, d4, d5, d6, d7, d8, d9, g0, g1, g2, g3, g4, g5, g6, g7, g8, g9⟩ := ten_cells X1_w1.out
    obtain ⟨w2, hw2⟩ : ∃ w2, w2 = ((((((((((w1.setCell ⟨w.heap.size + 1, 0, none⟩ (.slice none 0 0)).setCell ⟨w.heap.size + 1, 1, none⟩ (.slice none 0 0)).setCell ⟨w.heap.size + 1, 2, none⟩ (.slice none 0 0)).setCell ⟨w.heap.size + 1, 3, none⟩ (.slice none 0 0)).setCell ⟨w.heap.size + 1, 4, none⟩ (.slice none 0 0)).setCell ⟨w.heap.size + 1, 5, none⟩ (.slice none 0 0)).setCell ⟨w.heap.size + 1, 6, none⟩ (.int .i64 0)).setCell ⟨w.heap.size + 1, 7, none⟩ (.int .i64 0)).setCell ⟨w.heap.size + 1, 8, none⟩ (.slice none 0 0)).setCell ⟨w.heap.size + 1, 9, none⟩ (.bool false)) := ⟨_, rfl⟩
    have Ow2 : Outside (w.heap.size + 1) (w.heap.size + 1 + 1) w1 w2 := by
      rw [hw2]
      repeat (refine Outside.setCell ?_ (by simp only; omega) (by simp only; omega) _)
      exact Outside.refl _ _ _
    have zw2 : w1.heap.size ≤ w2.heap.size ∧ w2.heap.size ≤ w1.heap.size := by rw [hw2]; simp [World.setCell]
    have B_w2 := hideIt (B_w1.out.trans (Ow2.below (B := w.heap.size) (by omega) B_w1.out.size))
    have X0_w2 := hideIt ((Ow2.block (w.heap.size) (lt_box X0_w1.out) (by omega)).trans X0_w1.out)
    have X1_w2 : Hid (w2.heap[w.heap.size + 1]? = some (.cells #[.slice none 0 0, .slice none 0 0, .slice none 0 0, .slice none 0 0, .slice none 0 0, .slice none 0 0, .int .i64 0, .int .i64 0, .slice none 0 0, .bool false] 50 (0, 0))) := by rw [hw2]; exact (ten_set9 (ten_set8 (ten_set7 (ten_set6 (ten_set5 (ten_set4 (ten_set3 (ten_set2 (ten_set1 (ten_set0 X1_w1.out _) _) _) _) _) _) _) _) _) _)
    clear Ow2
    go_wp2
    refine bodyPost_ret (v := .tuple #[.agg #[.slice none 0 0, .slice none 0 0, .slice none 0 0, .slice none 0 0, .slice none 0 0, .slice none 0 0, .int .i64 0, .int .i64 0, .slice none 0 0, .bool false], .int .i64 1]) (by simp [results, Tryz.results27, go_sem, d0, d1, d2, d3, d4, d5, d6, d7, d8, d9]) rfl ?_
    rw [← hw2]
    rw [show finR ws ps es qs hs td cd vl nm fr = (zz, 1) from if_neg y]
    exact ⟨_, rfl, (RowF.zero _ _).wide (Nat.le_refl _) (by omega), B_w2.out⟩
set_option maxRecDepth 100000 in
set_option maxHeartbeats 16000000 in
theorem implDecayFs_any (v : Value) (ws : List Int) (ps : List St) (es : List Int) (qs : List Se) (hs : List Int) (td : List Mi) (cd vl : Int) (nm : List ByteArray) (fr : Bool) (w : World) (h : RdF w v ws ps es qs hs td cd vl nm fr) (hws : ws.length ≤ 1048576) (hps : ps.length ≤ 1048576) (hes : es.length ≤ 1048576) (hqs : qs.length ≤ 1048576) (hhs : hs.length ≤ 1048576) (htd : td.length ≤ 1048576) (hnm : nm.length ≤ 1048576) (hS : SB w) (hT : TS w) (hE : ED w) (hF : FD w) :
    Calls Tryz.prog 36 #[v] w fun e w' => FzOut w w' e (dcyR ws ps es qs hs td cd vl nm fr) := by
  have LF := hideIt (fun w1 (hb : Below w.heap.size w w1) => implFsOK_any v ws ps es qs hs td cd vl nm fr w1 (h.below hb) hws hps hes hqs hhs htd hnm (hS.below hb) (hT.below hb) (hE.below hb) (hF.below hb))
  have LDR := hideIt (fun w1 (hb : Below w.heap.size w w1) => draftOf_any v ws ps es qs hs td cd vl nm fr w1 (h.below hb) hws hps hes hqs hhs htd hnm)
  have HR := hideIt h
  obtain ⟨aW, cW, aP, cP, aS, cS, aQ, cQ, aH, cH, aT, cT, aN, cN, rfl, -⟩ := id h
  clear h
  by_cases y : fsB ws ps es qs hs td cd vl nm fr = true
  · simp only [y] at LF
    have Y := fs_yes y
    have tl := Y.tl
    obtain ⟨hs2, ehs⟩ : ∃ hs2, hs2 = decH hs 128 := ⟨_, rfl⟩
    have eR : Hid (dcyR ws ps es qs hs td cd vl nm fr = (⟨ws, ps, es, qs, hs2, td, cd, vl, nm, fr⟩, 0)) := by unfold Hid dcyR; rw [if_pos y, ehs]
    have LC : Hid (∀ v1 w1, RdI w1 v1 hs → Calls Tryz.prog 88 #[v1] w1 fun e w' => ∃ v', e = .returned (.tuple #[v', .int .i64 0]) ∧ Row w' 3 1 w1.heap.size w'.heap.size v' hs2.length (ints hs2) ∧ Below w1.heap.size w1 w') := fun v1 w1 hr => by
      have := implDecay_any v1 hs w1 hr hhs
      unfold deR at this
      rw [if_neg (by have := (heat_parts Y.he).1; omega), if_pos Y.he, ← ehs] at this
      exact this
    clear hT hE hF hS y Y HR ehs
    obtain ⟨V, hV⟩ : ∃ V, V = ((w.alloc (.cells #[.slice aW ws.length cW, .slice aP ps.length cP, .slice aS es.length cS, .slice aQ qs.length cQ, .slice aH hs.length cH, .slice aT td.length cT, .int .i64 cd, .int .i64 vl, .slice aN nm.length cN, .bool fr] 50)).alloc (.cells #[.slice none 0 0, .slice none 0 0, .slice none 0 0, .slice none 0 0, .slice none 0 0, .slice none 0 0, .int .i64 0, .int .i64 0, .slice none 0 0, .bool false] 50)) := ⟨_, rfl⟩
    have zV : w.heap.size + 2 ≤ V.heap.size := by rw [hV]; simp <;> omega
    have B_V : Hid (Below w.heap.size w V) := by rw [hV]; exact (((Below.refl _ _).alloc (by simp <;> omega) _).alloc (by simp <;> omega) _)
    have X0_V : Hid (V.heap[w.heap.size]? = some (.cells #[.slice aW ws.length cW, .slice aP ps.length cP, .slice aS es.length cS, .slice aQ qs.length cQ, .slice aH hs.length cH, .slice aT td.length cT, .int .i64 cd, .int .i64 vl, .slice aN nm.length cN, .bool fr] 50 (0, 0))) := by rw [hV]; exact (at_old (at_new rfl))
    have X1_V : Hid (V.heap[w.heap.size + 1]? = some (.cells #[.slice none 0 0, .slice none 0 0, .slice none 0 0, .slice none 0 0, .slice none 0 0, .slice none 0 0, .int .i64 0, .int .i64 0, .slice none 0 0, .bool false] 50 (0, 0))) := by rw [hV]; exact (at_new (by simp))
    go_enter Tryz.func36, Tryz.ntmps36
    go_upto_region 1 with fail
    rw [← hV]
    clear hV
    obtain ⟨c0_0, c0_1, c0_2, c0_3, c0_4, c0_5, c0_6, c0_7, c0_8, c0_9, -⟩ := ten_cells X0_V.out
    go_wp2_with fail
    refine (LF.out V B_V.out).mono ?_
    rintro e w1 ⟨rfl, hb⟩
    clear c0_0 c0_1 c0_2 c0_3 c0_4 c0_5 c0_6 c0_7 c0_8 c0_9
    have zw1 : V.heap.size ≤ w1.heap.size := hb.size
    have B_w1 := hideIt (below_trans B_V.out hb B_V.out.size)
    have X0_w1 := hideIt (box_below X0_V.out hb (lt_box X0_V.out))
    have X1_w1 := hideIt (box_below X1_V.out hb (lt_box X1_V.out))
    clear B_V hb X0_V X1_V
    clear LF
    obtain ⟨c0_0, c0_1, c0_2, c0_3, c0_4, c0_5, c0_6, c0_7, c0_8, c0_9, -⟩ := ten_cells X0_w1.out
    go_wp2_with fail
    refine (LDR.out w1 B_w1.out).mono ?_
    rintro e w2 ⟨v', rfl, hr, hb⟩
    obtain ⟨vW, vP, vS, vQ, vH, vT, vN, ld, ud, lh, uh, lt, ut, ln, un, rfl, qD, qH, qT, qN, qf⟩ := hr
    obtain ⟨iW, jW, iP, jP, iS, jS, iQ, jQ, ei, -, -⟩ := qD.rd.form
    cases ei
    obtain ⟨-, iH, jH, rfl, -⟩ := qH.rd
    obtain ⟨-, iT, jT, rfl, -⟩ := id qT.1
    obtain ⟨-, iN, jN, rfl, -⟩ := qN.rd
    obtain ⟨q1, q2, q3, q4, q5, q6, q7, q8, q9, q10, q11, q12, q13, q14⟩ := qf
    clear LDR
    clear c0_0 c0_1 c0_2 c0_3 c0_4 c0_5 c0_6 c0_7 c0_8 c0_9
    have zw2 : w1.heap.size ≤ w2.heap.size := hb.size
    have B_w2 := hideIt (below_trans B_w1.out hb B_w1.out.size)
    have X0_w2 := hideIt (box_below X0_w1.out hb (lt_box X0_w1.out))
    have X1_w2 := hideIt (box_below X1_w1.out hb (lt_box X1_w1.out))
    clear B_w1 hb X0_w1 X1_w1
    have QD_w2 := hideIt qD
    have QH_w2 := hideIt qH
    have QT_w2 := hideIt qT
    have QN_w2 := hideIt qN
    clear qD qH qT qN
    obtain ⟨w3, hw3⟩ : ∃ w3, w3 = w2.alloc (.cells #[.slice iW ws.length jW, .slice iP ps.length jP, .slice iS es.length jS, .slice iQ qs.length jQ, .slice iH hs.length jH, .slice iT td.length jT, .int .i64 cd, .int .i64 vl, .slice iN nm.length jN, .bool fr] 98) := ⟨_, rfl⟩
    have hb : Below w2.heap.size w2 w3 := by rw [hw3]; exact (Below.refl _ _).alloc (Nat.le_refl _) _
    obtain ⟨bX, hbX⟩ : ∃ bX : Nat, bX = w2.heap.size := ⟨_, rfl⟩
    have VX_w3 : Hid (w3.heap[bX]? = some (.cells #[.slice iW ws.length jW, .slice iP ps.length jP, .slice iS es.length jS, .slice iQ qs.length jQ, .slice iH hs.length jH, .slice iT td.length jT, .int .i64 cd, .int .i64 vl, .slice iN nm.length jN, .bool fr] 98 (0, 0))) := by rw [hw3, hbX]; exact at_new rfl
    have bx1 : w2.heap.size ≤ bX ∧ bX ≤ w2.heap.size := ⟨Nat.le_of_eq hbX.symm, Nat.le_of_eq hbX⟩
    have zw3 : w2.heap.size ≤ w3.heap.size := hb.size
    have B_w3 := hideIt (below_trans B_w2.out hb B_w2.out.size)
    have X0_w3 := hideIt (box_below X0_w2.out hb (lt_box X0_w2.out))
    have X1_w3 := hideIt (box_below X1_w2.out hb (lt_box X1_w2.out))
    have QD_w3 := hideIt (QD_w2.out.below hb (by omega))
    have QH_w3 := hideIt (QH_w2.out.below hb (by omega))
    have QT_w3 := hideIt (QT_w2.out.below hb (by omega))
    have QN_w3 := hideIt (QN_w2.out.below hb (by omega))
    clear B_w2 hb X0_w2 X1_w2 QD_w2 QH_w2 QT_w2 QN_w2
    have bx2 : bX < w3.heap.size := lt_box VX_w3.out
    go_upto_region 4 with fail
    rw [← hw3, ← hbX]
    clear hw3 hbX
    have x4 := tenH VX_w3.out
    go_wp2_with fail
    refine (LC.out _ w3 QH_w3.out.rd).mono ?_
    rintro e w4 ⟨v', rfl, hr, hb⟩
    obtain ⟨-, kH, lH, rfl, -⟩ := hr.rd
    clear x4 LC
    have VX_w4 := hideIt (box_below VX_w3.out hb bx2)
    have zw4 : w3.heap.size ≤ w4.heap.size := hb.size
    have B_w4 := hideIt (below_trans B_w3.out hb B_w3.out.size)
    have X0_w4 := hideIt (box_below X0_w3.out hb (lt_box X0_w3.out))
    have X1_w4 := hideIt (box_below X1_w3.out hb (lt_box X1_w3.out))
    have QD_w4 := hideIt (QD_w3.out.below hb (by omega))
    have QT_w4 := hideIt (QT_w3.out.below hb (by omega))
    have QN_w4 := hideIt (QN_w3.out.below hb (by omega))
    clear B_w3 hb X0_w3 X1_w3 QD_w3 QT_w3 QN_w3
    have QH_w4 : Hid (Row w4 3 1 w3.heap.size w4.heap.size _ hs2.length (ints hs2)) := hr
    clear hr VX_w3
    obtain ⟨w5, hw5⟩ : ∃ w5, w5 = w4.setCell ⟨bX, 4, none⟩ (.slice kH hs2.length lH) := ⟨_, rfl⟩
    have ho : Outside bX (bX + 1) w4 w5 := by rw [hw5]; exact (Outside.refl _ _ _).setCell (a := ⟨bX, 4, none⟩) (Nat.le_refl _) (Nat.lt_succ_self _) _
    have zw5 : w4.heap.size ≤ w5.heap.size ∧ w5.heap.size ≤ w4.heap.size := by rw [hw5]; simp [World.setCell]
    have B_w5 := hideIt (B_w4.out.trans (ho.below (B := w.heap.size) (by omega) B_w4.out.size))
    have X0_w5 := hideIt ((ho.block (w.heap.size) (lt_box X0_w4.out) (by omega)).trans X0_w4.out)
    have X1_w5 := hideIt ((ho.block (w.heap.size + 1) (lt_box X1_w4.out) (by omega)).trans X1_w4.out)
    have VX_w5 : Hid (w5.heap[bX]? = some (.cells #[.slice iW ws.length jW, .slice iP ps.length jP, .slice iS es.length jS, .slice iQ qs.length jQ, .slice kH hs2.length lH, .slice iT td.length jT, .int .i64 cd, .int .i64 vl, .slice iN nm.length jN, .bool fr] 98 (0, 0))) := by rw [hw5]; exact ten_set4 VX_w4.out _
    have QD_w5 := hideIt (QD_w4.out.outside ho (by omega) (by omega))
    have QH_w5 := hideIt (QH_w4.out.outside ho (by omega) (by omega))
    have QN_w5 := hideIt (QN_w4.out.outside ho (by omega) (by omega))
    have QT_w5 := hideIt (QT_w4.out.outside ho (by omega))
    obtain ⟨-, -, -, -, d4, -, -, -, -, -, -, -, -, -, g4, -⟩ := ten_cells VX_w4.out
    go_upto_region 5 with fail
    rw [← hw5]
    clear hw5 ho d4 g4 B_w4 X0_w4 X1_w4 VX_w4 QD_w4 QH_w4 QT_w4 QN_w4
    obtain ⟨x0, x1, x2, x3, x4, x5, x6, x7, x8, x9, -⟩ := ten_cells VX_w5.out
    obtain ⟨d0, d1, d2, d3, d4, d5, d6, d7, d8, d9, g0, g1, g2, g3, g4, g5, g6, g7, g8, g9⟩ := ten_cells X1_w5.out
    obtain ⟨w6, hw6⟩ : ∃ w6, w6 = ((((((((((w5.setCell ⟨w.heap.size + 1, 0, none⟩ (.slice iW ws.length jW)).setCell ⟨w.heap.size + 1, 1, none⟩ (.slice iP ps.length jP)).setCell ⟨w.heap.size + 1, 2, none⟩ (.slice iS es.length jS)).setCell ⟨w.heap.size + 1, 3, none⟩ (.slice iQ qs.length jQ)).setCell ⟨w.heap.size + 1, 4, none⟩ (.slice kH hs2.length lH)).setCell ⟨w.heap.size + 1, 5, none⟩ (.slice iT td.length jT)).setCell ⟨w.heap.size + 1, 6, none⟩ (.int .i64 cd)).setCell ⟨w.heap.size + 1, 7, none⟩ (.int .i64 vl)).setCell ⟨w.heap.size + 1, 8, none⟩ (.slice iN nm.length jN)).setCell ⟨w.heap.size + 1, 9, none⟩ (.bool fr)) := ⟨_, rfl⟩
    have Ow6 : Outside (w.heap.size + 1) (w.heap.size + 1 + 1) w5 w6 := by
      rw [hw6]
      repeat (refine Outside.setCell ?_ (by simp only; omega) (by simp only; omega) _)
      exact Outside.refl _ _ _
    have zw6 : w5.heap.size ≤ w6.heap.size ∧ w6.heap.size ≤ w5.heap.size := by rw [hw6]; simp [World.setCell]
    have B_w6 := hideIt (B_w5.out.trans (Ow6.below (B := w.heap.size) (by omega) B_w5.out.size))
    have X0_w6 := hideIt ((Ow6.block (w.heap.size) (lt_box X0_w5.out) (by omega)).trans X0_w5.out)
    have X1_w6 : Hid (w6.heap[w.heap.size + 1]? = some (.cells #[.slice iW ws.length jW, .slice iP ps.length jP, .slice iS es.length jS, .slice iQ qs.length jQ, .slice kH hs2.length lH, .slice iT td.length jT, .int .i64 cd, .int .i64 vl, .slice iN nm.length jN, .bool fr] 50 (0, 0))) := by rw [hw6]; exact (ten_set9 (ten_set8 (ten_set7 (ten_set6 (ten_set5 (ten_set4 (ten_set3 (ten_set2 (ten_set1 (ten_set0 X1_w5.out _) _) _) _) _) _) _) _) _) _)
    have QD_w6 := hideIt (QD_w5.out.outside Ow6 (by omega) (by omega))
    have QT_w6 := hideIt (QT_w5.out.outside Ow6 (by omega))
    have QN_w6 := hideIt (QN_w5.out.outside Ow6 (by omega) (by omega))
    have QH_w6 := hideIt (QH_w5.out.outside Ow6 (by omega) (by omega))
    clear Ow6
    go_wp2
    refine bodyPost_ret (v := .tuple #[.agg #[.slice iW ws.length jW, .slice iP ps.length jP, .slice iS es.length jS, .slice iQ qs.length jQ, .slice kH hs2.length lH, .slice iT td.length jT, .int .i64 cd, .int .i64 vl, .slice iN nm.length jN, .bool fr], .int .i64 0]) (by simp [results, Tryz.results36, go_sem, d0, d1, d2, d3, d4, d5, d6, d7, d8, d9]) rfl ?_
    rw [← hw6]
    rw [eR.out]
    refine ⟨_, rfl, ⟨_, _, _, _, _, _, _, _, _, _, _, _, _, _, _, rfl, QD_w6.out, QH_w6.out, QT_w6.out, QN_w6.out, ?_⟩, B_w6.out⟩
    exact ⟨by omega, by omega, by omega, by omega, by omega, by omega, by omega, by omega, by omega, by omega, by omega, by omega, by omega, by omega⟩
  · have y' : fsB ws ps es qs hs td cd vl nm fr = false := by simpa using y
    simp only [y'] at LF
    clear y' HR LDR hS hT hE hF
    obtain ⟨V, hV⟩ : ∃ V, V = ((w.alloc (.cells #[.slice aW ws.length cW, .slice aP ps.length cP, .slice aS es.length cS, .slice aQ qs.length cQ, .slice aH hs.length cH, .slice aT td.length cT, .int .i64 cd, .int .i64 vl, .slice aN nm.length cN, .bool fr] 50)).alloc (.cells #[.slice none 0 0, .slice none 0 0, .slice none 0 0, .slice none 0 0, .slice none 0 0, .slice none 0 0, .int .i64 0, .int .i64 0, .slice none 0 0, .bool false] 50)) := ⟨_, rfl⟩
    have zV : w.heap.size + 2 ≤ V.heap.size := by rw [hV]; simp <;> omega
    have B_V : Hid (Below w.heap.size w V) := by rw [hV]; exact (((Below.refl _ _).alloc (by simp <;> omega) _).alloc (by simp <;> omega) _)
    have X0_V : Hid (V.heap[w.heap.size]? = some (.cells #[.slice aW ws.length cW, .slice aP ps.length cP, .slice aS es.length cS, .slice aQ qs.length cQ, .slice aH hs.length cH, .slice aT td.length cT, .int .i64 cd, .int .i64 vl, .slice aN nm.length cN, .bool fr] 50 (0, 0))) := by rw [hV]; exact (at_old (at_new rfl))
    have X1_V : Hid (V.heap[w.heap.size + 1]? = some (.cells #[.slice none 0 0, .slice none 0 0, .slice none 0 0, .slice none 0 0, .slice none 0 0, .slice none 0 0, .int .i64 0, .int .i64 0, .slice none 0 0, .bool false] 50 (0, 0))) := by rw [hV]; exact (at_new (by simp))
    go_enter Tryz.func36, Tryz.ntmps36
    go_upto_region 1 with fail
    rw [← hV]
    clear hV
    obtain ⟨c0_0, c0_1, c0_2, c0_3, c0_4, c0_5, c0_6, c0_7, c0_8, c0_9, -⟩ := ten_cells X0_V.out
    go_wp2_with fail
    refine (LF.out V B_V.out).mono ?_
    rintro e w1 ⟨rfl, hb⟩
    clear c0_0 c0_1 c0_2 c0_3 c0_4 c0_5 c0_6 c0_7 c0_8 c0_9
    have zw1 : V.heap.size ≤ w1.heap.size := hb.size
    have B_w1 := hideIt (below_trans B_V.out hb B_V.out.size)
    have X0_w1 := hideIt (box_below X0_V.out hb (lt_box X0_V.out))
    have X1_w1 := hideIt (box_below X1_V.out hb (lt_box X1_V.out))
    clear B_V hb X0_V X1_V
    clear LF
    obtain ⟨d0, d1, d2, d3, d4, d5, d6, d7, d8, d9, g0, g1, g2, g3, g4, g5, g6, g7, g8, g9⟩ := ten_cells X1_w1.out
    obtain ⟨w2, hw2⟩ : ∃ w2, w2 = ((((((((((w1.setCell ⟨w.heap.size + 1, 0, none⟩ (.slice none 0 0)).setCell ⟨w.heap.size + 1, 1, none⟩ (.slice none 0 0)).setCell ⟨w.heap.size + 1, 2, none⟩ (.slice none 0 0)).setCell ⟨w.heap.size + 1, 3, none⟩ (.slice none 0 0)).setCell ⟨w.heap.size + 1, 4, none⟩ (.slice none 0 0)).setCell ⟨w.heap.size + 1, 5, none⟩ (.slice none 0 0)).setCell ⟨w.heap.size + 1, 6, none⟩ (.int .i64 0)).setCell ⟨w.heap.size + 1, 7, none⟩ (.int .i64 0)).setCell ⟨w.heap.size + 1, 8, none⟩ (.slice none 0 0)).setCell ⟨w.heap.size + 1, 9, none⟩ (.bool false)) := ⟨_, rfl⟩
    have Ow2 : Outside (w.heap.size + 1) (w.heap.size + 1 + 1) w1 w2 := by
      rw [hw2]
      repeat (refine Outside.setCell ?_ (by simp only; omega) (by simp only; omega) _)
      exact Outside.refl _ _ _
    have zw2 : w1.heap.size ≤ w2.heap.size ∧ w2.heap.size ≤ w1.heap.size := by rw [hw2]; simp [World.setCell]
    have B_w2 := hideIt (B_w1.out.trans (Ow2.below (B := w.heap.size) (by omega) B_w1.out.size))
    have X0_w2 := hideIt ((Ow2.block (w.heap.size) (lt_box X0_w1.out) (by omega)).trans X0_w1.out)
    have X1_w2 : Hid (w2.heap[w.heap.size + 1]? = some (.cells #[.slice none 0 0, .slice none 0 0, .slice none 0 0, .slice none 0 0, .slice none 0 0, .slice none 0 0, .int .i64 0, .int .i64 0, .slice none 0 0, .bool false] 50 (0, 0))) := by rw [hw2]; exact (ten_set9 (ten_set8 (ten_set7 (ten_set6 (ten_set5 (ten_set4 (ten_set3 (ten_set2 (ten_set1 (ten_set0 X1_w1.out _) _) _) _) _) _) _) _) _) _)
    clear Ow2
    go_wp2
    refine bodyPost_ret (v := .tuple #[.agg #[.slice none 0 0, .slice none 0 0, .slice none 0 0, .slice none 0 0, .slice none 0 0, .slice none 0 0, .int .i64 0, .int .i64 0, .slice none 0 0, .bool false], .int .i64 1]) (by simp [results, Tryz.results36, go_sem, d0, d1, d2, d3, d4, d5, d6, d7, d8, d9]) rfl ?_
    rw [← hw2]
    rw [show dcyR ws ps es qs hs td cd vl nm fr = (zz, 1) from if_neg y]
    exact ⟨_, rfl, (RowF.zero _ _).wide (Nat.le_refl _) (by omega), B_w2.out⟩
end Go.Proofs.YtipklbnfobckaaaGreatDoor
