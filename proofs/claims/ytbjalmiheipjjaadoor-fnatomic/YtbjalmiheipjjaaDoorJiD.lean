/- Many steps by the program. -/
import Derived.Test.YtbjalmiheipjjaaDoorJiB
import Derived.Test.YtbjalmiheipjjaaDoorJiM
namespace Go.Proofs.YtbjalmiheipjjaaDoor
open Go.RowKit
theorem misB_eq (l : List Mi) : misB l = misB' l := rfl
structure Mid2 (l : List Mi) (ws : List Int) (ps : List St) (es : List Int) (qs : List Se) (w : World) (b lo : Nat) (wr : World) (k : Nat) (W : List Int) (P : List St) (E : List Int) (Q : List Se) (a b' c d : Value) : Prop where
  run : mr (l.take k) ws ps es qs = ⟨0, W, P, E, Q⟩
  box : wr.heap[b]? = some (.cells #[a, b', c, d] 36 (0, 0))
  res : wr.heap[w.heap.size + 1]? = some (.cells #[.slice none 0 0, .slice none 0 0, .slice none 0 0, .slice none 0 0] 36 (0, 0))
  row : RowDevB wr b lo wr.heap.size (.agg #[a, b', c, d]) W P E Q
  below : Below w.heap.size w wr
  size : b < wr.heap.size ∧ lo ≤ b
theorem putR_box {w : World} {b : Nat} {t : TypeId} {x y z u a b' c d : Value} (h : w.heap[b]? = some (.cells #[x, y, z, u] t (0, 0))) : (putR w b a b' c d).heap[b]? = some (.cells #[a, b', c, d] t (0, 0)) := by
  simp [putR, World.setCell, Array.getElem?_modify, h]
set_option maxRecDepth 100000 in
set_option maxHeartbeats 16000000 in
theorem implMicrosDo_any (v vL : Value) (l : List Mi) (ws : List Int) (ps : List St) (es : List Int) (qs : List Se) (w : World) (hS : SB w) (h : RdDev w v ws ps es qs) (hL : RdM w vL l) (hw : ws.length ≤ 1048576) (hp : ps.length ≤ 1048576) (he : es.length ≤ 1048576) (hq : qs.length ≤ 1048576) (hll : l.length ≤ 1048576) :
    Calls Tryd.prog 7 #[v, vL] w fun e w' => ∃ v', e = .returned (.tuple #[v', .int .i64 (ms l ws ps es qs).c]) ∧ RowDev w' w.heap.size w'.heap.size v' (ms l ws ps es qs).W (ms l ws ps es qs).P (ms l ws ps es qs).E (ms l ws ps es qs).Q ∧ Below w.heap.size w w' := by
  have HD := hideIt h
  have HS := hideIt hS
  have HL := hideIt hL
  obtain ⟨aL, cL, rfl, -, hcL⟩ := hL.shape
  obtain ⟨aW, cW, aP, cP, aS, cS, aQ, cQ, rfl, -, -⟩ := h.form
  clear h hS hL
  have hb0 : Below w.heap.size w ((w.alloc (.cells #[.slice aW ws.length cW, .slice aP ps.length cP, .slice aS es.length cS, .slice aQ qs.length cQ] 36)).alloc (.cells #[.slice none 0 0, .slice none 0 0, .slice none 0 0, .slice none 0 0] 36)) := by
    repeat (refine Below.alloc ?_ (by simp <;> omega) _)
    exact Below.refl _ _
  by_cases hlong : 4096 < l.length
  case pos =>
    rw [ms_long hlong]
    simp only
    have V2 : ((w.alloc (.cells #[.slice aW ws.length cW, .slice aP ps.length cP, .slice aS es.length cS, .slice aQ qs.length cQ] 36)).alloc (.cells #[.slice none 0 0, .slice none 0 0, .slice none 0 0, .slice none 0 0] 36)).heap[w.heap.size + 1]? = some (.cells #[.slice none 0 0, .slice none 0 0, .slice none 0 0, .slice none 0 0] 36 (0, 0)) := at_new (by simp)
    obtain ⟨y0, y1, y2, y3, y4, y5, y6, y7⟩ := four_cells V2
    have B0 := hideIt hb0
    clear hb0 V2 hcL
    go_enter Tryd.func7, Tryd.ntmps7
    go_upto_region 1 with fail
    obtain ⟨w1, hw1⟩ : ∃ w1 : World, w1 = ((w.alloc (.cells #[.slice aW ws.length cW, .slice aP ps.length cP, .slice aS es.length cS, .slice aQ qs.length cQ] 36)).alloc (.cells #[.slice none 0 0, .slice none 0 0, .slice none 0 0, .slice none 0 0] 36)) := ⟨_, rfl⟩
    rw [← hw1]
    rw [← hw1] at y0 y1 y2 y3 y4 y5 y6 y7 B0
    have hz1 : w.heap.size + 2 ≤ w1.heap.size := by rw [hw1]; simp
    clear hw1
    go_wp2
    refine bodyPost_ret (v := .tuple #[.agg #[.slice none 0 0, .slice none 0 0, .slice none 0 0, .slice none 0 0], .int .i64 2]) (by simp [results, Tryd.results7, go_sem, y0, y1, y2, y3]) rfl ?_
    exact ⟨_, rfl, RowDev.zero _ _ _ (Nat.le_trans (by omega) (Nat.le_of_eq (putR_size w1 (w.heap.size + 1) _ _ _ _).symm)), B0.out.trans ((putR_out w1 (w.heap.size + 1) _ _ _ _).below (by omega) (by omega))⟩
  by_cases c1 : (pmB ws ps && blkB es qs) = true
  case neg =>
    have c1' : (pmB ws ps && blkB es qs) = false := by simpa using c1
    rw [ms_bad hlong (by rw [c1']; rfl)]
    simp only
    have C1 := hideIt c1'
    clear c1 c1' hcL
    go_enter Tryd.func7, Tryd.ntmps7
    go_wp2_with fail
    refine (implDevicesOK_any _ ws ps es qs _ (HD.out.below hb0) hw hp he hq).mono ?_
    rw [C1.out]
    rintro e w1 ⟨rfl, hb1⟩
    have hz1 : w.heap.size + 2 ≤ w1.heap.size := by have := hb1.size; simp at this; omega
    have V0 := hideIt ((hb1.block w.heap.size (by simp <;> omega)).trans (at_old (at_new rfl)))
    have V2 := hideIt ((hb1.block (w.heap.size + 1) (by simp <;> omega)).trans (at_new (by simp)))
    have B1 := hideIt (below_trans hb0 hb1 (by simp <;> omega))
    clear hb0 hb1
    obtain ⟨x0, x1, x2, x3, -, -, -, -⟩ := four_cells V0.out
    obtain ⟨y0, y1, y2, y3, y4, y5, y6, y7⟩ := four_cells V2.out
    go_wp2
    refine bodyPost_ret (v := .tuple #[.agg #[.slice none 0 0, .slice none 0 0, .slice none 0 0, .slice none 0 0], .int .i64 1]) (by simp [results, Tryd.results7, go_sem, y0, y1, y2, y3]) rfl ?_
    exact ⟨_, rfl, RowDev.zero _ _ _ (Nat.le_trans (by omega) (Nat.le_of_eq (putR_size w1 (w.heap.size + 1) _ _ _ _).symm)), B1.out.trans ((putR_out w1 (w.heap.size + 1) _ _ _ _).below (by omega) (by omega))⟩
  by_cases c2 : misB l = true
  case neg =>
    have c2' : misB l = false := by simpa using c2
    rw [ms_bad hlong (by rw [c1, ← misB_eq, c2']; rfl)]
    simp only
    have C1 := hideIt c1
    have C2 := hideIt c2'
    clear c1 c2 c2' hcL
    go_enter Tryd.func7, Tryd.ntmps7
    go_wp2_with fail
    refine (implDevicesOK_any _ ws ps es qs _ (HD.out.below hb0) hw hp he hq).mono ?_
    rw [C1.out]
    rintro e w1 ⟨rfl, hb1⟩
    have hz1 : w.heap.size + 2 ≤ w1.heap.size := by have := hb1.size; simp at this; omega
    have V0 := hideIt ((hb1.block w.heap.size (by simp <;> omega)).trans (at_old (at_new rfl)))
    have V2 := hideIt ((hb1.block (w.heap.size + 1) (by simp <;> omega)).trans (at_new (by simp)))
    have B1 := hideIt (below_trans hb0 hb1 (by simp <;> omega))
    clear hb0 hb1
    obtain ⟨x0, x1, x2, x3, -, -, -, -⟩ := four_cells V0.out
    obtain ⟨y0, y1, y2, y3, y4, y5, y6, y7⟩ := four_cells V2.out
    go_wp2_with fail
    refine (everyStep_any _ l _ (HS.out.below B1.out) (Rd.below HL.out B1.out) (by omega)).mono ?_
    rw [C2.out]
    rintro e w2 ⟨rfl, hb2⟩
    have hz2 : w1.heap.size ≤ w2.heap.size := hb2.size
    have U0 := hideIt ((hb2.block _ (by omega)).trans V0.out)
    have U2 := hideIt ((hb2.block _ (by omega)).trans V2.out)
    have B2 := hideIt (below_trans B1.out hb2 (by omega))
    clear hb2 x0 x1 x2 x3 y0 y1 y2 y3 y4 y5 y6 y7 V0 V2 B1
    obtain ⟨x0, x1, x2, x3, -, -, -, -⟩ := four_cells U0.out
    obtain ⟨y0, y1, y2, y3, y4, y5, y6, y7⟩ := four_cells U2.out
    go_wp2
    refine bodyPost_ret (v := .tuple #[.agg #[.slice none 0 0, .slice none 0 0, .slice none 0 0, .slice none 0 0], .int .i64 1]) (by simp [results, Tryd.results7, go_sem, y0, y1, y2, y3]) rfl ?_
    exact ⟨_, rfl, RowDev.zero _ _ _ (Nat.le_trans (by omega) (Nat.le_of_eq (putR_size w2 (w.heap.size + 1) _ _ _ _).symm)), B2.out.trans ((putR_out w2 (w.heap.size + 1) _ _ _ _).below (by omega) (by omega))⟩
  case pos =>
    rw [ms_ok hlong (by rw [c1, ← misB_eq, c2]; rfl)]
    have C1 := hideIt c1
    have C2 := hideIt c2
    have CP := hideIt (by simpa using c1 : pmB ws ps = true ∧ blkB es qs = true)
    have CM := hideIt (misB_true c2)
    clear c1 c2
    go_enter Tryd.func7, Tryd.ntmps7
    go_wp2_with fail
    refine (implDevicesOK_any _ ws ps es qs _ (HD.out.below hb0) hw hp he hq).mono ?_
    rw [C1.out]
    rintro e w1 ⟨rfl, hb1⟩
    have hz1 : w.heap.size + 2 ≤ w1.heap.size := by have := hb1.size; simp at this; omega
    have V0 := hideIt ((hb1.block w.heap.size (by simp <;> omega)).trans (at_old (at_new rfl)))
    have V2 := hideIt ((hb1.block (w.heap.size + 1) (by simp <;> omega)).trans (at_new (by simp)))
    have B1 := hideIt (below_trans hb0 hb1 (by simp <;> omega))
    clear hb0 hb1
    obtain ⟨x0, x1, x2, x3, -, -, -, -⟩ := four_cells V0.out
    obtain ⟨y0, y1, y2, y3, y4, y5, y6, y7⟩ := four_cells V2.out
    go_wp2_with fail
    refine (everyStep_any _ l _ (HS.out.below B1.out) (Rd.below HL.out B1.out) (by omega)).mono ?_
    rw [C2.out]
    rintro e w2 ⟨rfl, hb2⟩
    have hz2 : w1.heap.size ≤ w2.heap.size := hb2.size
    have U0 := hideIt ((hb2.block _ (by omega)).trans V0.out)
    have U2 := hideIt ((hb2.block _ (by omega)).trans V2.out)
    have B2 := hideIt (below_trans B1.out hb2 (by omega))
    clear hb2 x0 x1 x2 x3 y0 y1 y2 y3 y4 y5 y6 y7 V0 V2 B1
    obtain ⟨x0, x1, x2, x3, -, -, -, -⟩ := four_cells U0.out
    obtain ⟨y0, y1, y2, y3, y4, y5, y6, y7⟩ := four_cells U2.out
    go_wp2_with fail
    refine (copyDevices_any _ ws ps es qs _ (HD.out.below B2.out) (by omega) (by omega) (by omega) (by omega)).mono ?_
    rintro e w3 ⟨v3, rfl, hr3, hb3⟩
    obtain ⟨aW3, cW3, aP3, cP3, aS3, cS3, aQ3, cQ3, rfl, -, -⟩ := hr3.rd.form
    have hz3 : w2.heap.size ≤ w3.heap.size := hb3.size
    have B3 := hideIt (below_trans B2.out hb3 (by omega))
    have R3 := hideIt hr3
    have T2 := hideIt ((hb3.block _ (by omega)).trans U2.out)
    clear hr3 hb3 x0 x1 x2 x3 y0 y1 y2 y3 y4 y5 y6 y7 U0 U2 B2
    have I0 : Hid (Mid2 l ws ps es qs w w3.heap.size w2.heap.size (w3.alloc (.cells #[.slice aW3 ws.length cW3, .slice aP3 ps.length cP3, .slice aS3 es.length cS3, .slice aQ3 qs.length cQ3] 36)) 0 ws ps es qs (.slice aW3 ws.length cW3) (.slice aP3 ps.length cP3) (.slice aS3 es.length cS3) (.slice aQ3 qs.length cQ3)) :=
      ⟨rfl, at_new rfl, at_old T2.out, ((R3.out.alloc (Nat.le_refl _) _).b w3.heap.size (.inr (Nat.le_refl _))).wide (Nat.le_refl _) (by simp), B3.out.alloc B3.out.size _, by simp, hz3⟩
    clear T2
    go_wp2
    go_loopw [7, 9, 27] (fun cd _ i wr => ∃ k : Nat, k ≤ l.length ∧ i = .int .i64 k ∧ cd = .int .i64 0 ∧ ∃ (W : List Int) (P : List St) (E : List Int) (Q : List Se) (d1 d2 d3 d4 : Option Addr) (f1 f2 f3 f4 : Nat), Hid (Mid2 l ws ps es qs w w3.heap.size w2.heap.size wr k W P E Q (.slice d1 W.length f1) (.slice d2 P.length f2) (.slice d3 E.length f3) (.slice d4 Q.length f4))) (fun _ _ i _ => l.length - (intOf i).toNat)
    case atStart => exact ⟨0, by omega, rfl, rfl, ws, ps, es, qs, _, _, _, _, _, _, _, _, I0⟩
    case round =>
      obtain ⟨k, hk, rfl, rfl, W, P, E, Q, d1, d2, d3, d4, f1, f2, f3, f4, I⟩ := hrel
      clear I0 R3
      have hbr := I.out.below
      have hzr := hbr.size
      have hsz := I.out.size
      by_cases hlt : k < l.length
      · obtain ⟨bL, oL, rfl, hblL, hcellL⟩ := hcL (by omega)
        obtain ⟨g0, g1, g2⟩ := hcellL k hlt
        have e0 := (hbr.cell (p := ⟨bL, oL + k * 3, none⟩) hblL).trans g0
        have e1 := (hbr.cell (p := ⟨bL, oL + k * 3 + 1, none⟩) hblL).trans g1
        have e2 := (hbr.cell (p := ⟨bL, oL + k * 3 + 2, none⟩) hblL).trans g2
        clear g0 g1 g2 hcellL hcL hbr
        obtain ⟨wb, hwb⟩ : ∃ wb : World, wb = wr.alloc (.cells #[.int .i64 l[k].kind, .int .i64 l[k].at_, .int .i64 l[k].val] 61) := ⟨_, rfl⟩
        have hzb : wb.heap.size = wr.heap.size + 1 := by rw [hwb, World.size_alloc]
        have BB : Hid (Below wr.heap.size wr wb) := by rw [hwb]; exact (Below.refl _ _).alloc (Nat.le_refl _) _
        have XB := hideIt ((BB.out.block _ (by omega)).trans I.out.box)
        have XR := hideIt ((BB.out.block _ (by omega)).trans I.out.res)
        have XW := hideIt ((I.out.row.below BB.out (Nat.le_refl _)).wide (Nat.le_refl w2.heap.size) (show wr.heap.size ≤ wb.heap.size by omega))
        have XO := hideIt (show pmB W P = true ∧ blkB E Q = true by
          have := mr_ok (l.take k) ws ps es qs CP.out.1 CP.out.2 (fun m hm => by
            obtain ⟨j, hj, rfl⟩ := List.getElem_of_mem (List.mem_of_mem_take hm)
            exact CM.out j hj)
          rw [I.out.run] at this
          exact this)
        have XM := hideIt (show miB ⟨l[k].kind, l[k].at_, l[k].val⟩ = true from CM.out k hlt)
        have hsh : (wr.alloc (.cells #[.int .i64 l[k].kind, .int .i64 l[k].at_, .int .i64 l[k].val] 61)).heap[w3.heap.size]? = some (.cells #[.slice d1 W.length f1, .slice d2 P.length f2, .slice d3 E.length f3, .slice d4 Q.length f4] 36 (0, 0)) := hwb ▸ XB.out
        obtain ⟨q0, q1, q2, q3, -, -, -, -⟩ := four_cells hsh
        clear hsh
        by_cases hf : fullB l[k] P Q = true
        · have MD : Hid (mdC ⟨l[k].kind, l[k].at_, l[k].val⟩ W P E Q = 7 ∧ mdW ⟨l[k].kind, l[k].at_, l[k].val⟩ W P E Q = W ∧ mdP ⟨l[k].kind, l[k].at_, l[k].val⟩ W P E Q = P ∧ mdE ⟨l[k].kind, l[k].at_, l[k].val⟩ W P E Q = E ∧ mdQ ⟨l[k].kind, l[k].at_, l[k].val⟩ W P E Q = Q) := by
            rcases md_cases ⟨l[k].kind, l[k].at_, l[k].val⟩ W P E Q with ⟨c, _⟩ | ⟨_, c, _⟩ | ⟨_, _, _, c⟩ | ⟨_, _, c, _⟩
            · rw [XO.out.1, XO.out.2] at c; cases c
            · rw [XM.out] at c; cases c
            · exact c
            · rw [show fullB ⟨l[k].kind, l[k].at_, l[k].val⟩ P Q = true from hf] at c; cases c
          have RUN := hideIt (mr_stop hlt I.out.run hf)
          clear hf
          go_wp2_with (go_at_call 27; rw [← hwb]; refine (doStep_any _ l[k].kind l[k].at_ l[k].val W P E Q w3.heap.size w2.heap.size wb (by omega) (by omega) XW.out XO.out.1 XO.out.2 XM.out).mono ?_; rw [MD.out.1, MD.out.2.1, MD.out.2.2.1, MD.out.2.2.2.1, MD.out.2.2.2.2]; rintro e w4 ⟨v4, rfl, hr4, hb4⟩; obtain ⟨j1, i1, j2, i2, j3, i3, j4, i4, rfl, -, -⟩ := hr4.row.rd.form; have R4 := hideIt hr4; have B4 := hideIt hb4; obtain ⟨u0, u1, u2, u3, u4, u5, u6, u7⟩ := four_cells ((hb4.block _ (by omega)).trans XB.out); obtain ⟨s0, s1, s2, s3, s4, s5, s6, s7⟩ := four_cells ((hb4.block _ (by omega)).trans XR.out); clear hr4 hb4)
          refine bodyPost_ret (v := .tuple #[.agg #[.slice j1 W.length i1, .slice j2 P.length i2, .slice j3 E.length i3, .slice j4 Q.length i4], .int .i64 7]) (by simp [results, Tryd.results7, go_sem, s0, s1, s2, s3]) rfl ?_
          rw [RUN.out]
          simp only
          have hz4 : wb.heap.size ≤ w4.heap.size := B4.out.size
          have O1 := putR_out w4 w3.heap.size (.slice j1 W.length i1) (.slice j2 P.length i2) (.slice j3 E.length i3) (.slice j4 Q.length i4)
          have Z1 := putR_size w4 w3.heap.size (.slice j1 W.length i1) (.slice j2 P.length i2) (.slice j3 E.length i3) (.slice j4 Q.length i4)
          have O2 := putR_out (putR w4 w3.heap.size (.slice j1 W.length i1) (.slice j2 P.length i2) (.slice j3 E.length i3) (.slice j4 Q.length i4)) (w.heap.size + 1) (.slice j1 W.length i1) (.slice j2 P.length i2) (.slice j3 E.length i3) (.slice j4 Q.length i4)
          have Z2 := putR_size (putR w4 w3.heap.size (.slice j1 W.length i1) (.slice j2 P.length i2) (.slice j3 E.length i3) (.slice j4 Q.length i4)) (w.heap.size + 1) (.slice j1 W.length i1) (.slice j2 P.length i2) (.slice j3 E.length i3) (.slice j4 Q.length i4)
          exact ⟨_, rfl, ((R4.out.put O1 (Nat.le_refl _)).row.outside O2 (by omega) (by omega)).wide (by omega) (Nat.le_of_eq (Z2.trans Z1).symm), (((I.out.below.trans (BB.out.mono (by omega))).trans (B4.out.mono (by omega))).trans (O1.below (by omega) (by omega))).trans (O2.below (by omega) (by omega))⟩
        · have hf' : fullB l[k] P Q = false := by simpa using hf
          have MD : Hid (mdC ⟨l[k].kind, l[k].at_, l[k].val⟩ W P E Q = 0 ∧ mdW ⟨l[k].kind, l[k].at_, l[k].val⟩ W P E Q = doW l[k] W P ∧ mdP ⟨l[k].kind, l[k].at_, l[k].val⟩ W P E Q = doP l[k] P ∧ mdE ⟨l[k].kind, l[k].at_, l[k].val⟩ W P E Q = doE l[k] E Q ∧ mdQ ⟨l[k].kind, l[k].at_, l[k].val⟩ W P E Q = doQ l[k] Q) := by
            rcases md_cases ⟨l[k].kind, l[k].at_, l[k].val⟩ W P E Q with ⟨c, _⟩ | ⟨_, c, _⟩ | ⟨_, _, c, _⟩ | ⟨_, _, _, c⟩
            · rw [XO.out.1, XO.out.2] at c; cases c
            · rw [XM.out] at c; cases c
            · rw [show fullB ⟨l[k].kind, l[k].at_, l[k].val⟩ P Q = false from hf'] at c; cases c
            · exact c
          have RUN := hideIt (mr_next hlt I.out.run hf')
          clear hf hf'
          go_wp2_with (go_at_call 27; rw [← hwb]; refine (doStep_any _ l[k].kind l[k].at_ l[k].val W P E Q w3.heap.size w2.heap.size wb (by omega) (by omega) XW.out XO.out.1 XO.out.2 XM.out).mono ?_; rw [MD.out.1, MD.out.2.1, MD.out.2.2.1, MD.out.2.2.2.1, MD.out.2.2.2.2]; rintro e w4 ⟨v4, rfl, hr4, hb4⟩; obtain ⟨j1, i1, j2, i2, j3, i3, j4, i4, rfl, -, -⟩ := hr4.row.rd.form; have R4 := hideIt hr4; have B4 := hideIt hb4; obtain ⟨u0, u1, u2, u3, u4, u5, u6, u7⟩ := four_cells ((hb4.block _ (by omega)).trans XB.out); clear hr4 hb4)
          go_roundw
          case rel =>
            have hz4 : wb.heap.size ≤ w4.heap.size := B4.out.size
            have O1 := putR_out w4 w3.heap.size (.slice j1 (doW l[k] W P).length i1) (.slice j2 (doP l[k] P).length i2) (.slice j3 (doE l[k] E Q).length i3) (.slice j4 (doQ l[k] Q).length i4)
            have Z1 := putR_size w4 w3.heap.size (.slice j1 (doW l[k] W P).length i1) (.slice j2 (doP l[k] P).length i2) (.slice j3 (doE l[k] E Q).length i3) (.slice j4 (doQ l[k] Q).length i4)
            exact ⟨k + 1, by omega, by go_num, rfl, _, _, _, _, j1, j2, j3, j4, i1, i2, i3, i4, RUN.out, putR_box ((B4.out.block _ (by omega)).trans XB.out), (O1.block _ (by omega) (by omega)).trans ((B4.out.block _ (by omega)).trans XR.out), (R4.out.put O1 (Nat.le_refl _)).wide (Nat.le_refl _) (Nat.le_of_eq Z1.symm), ((I.out.below.trans (BB.out.mono (by omega))).trans (B4.out.mono (by omega))).trans (O1.below (by omega) (by omega)), Nat.lt_of_lt_of_eq (show w3.heap.size < w4.heap.size by omega) Z1.symm, by omega⟩
          case measure => simp [intOf]; omega
      · have RUN := hideIt (mr_end (by omega) I.out.run)
        obtain ⟨q0, q1, q2, q3, -, -, -, -⟩ := four_cells I.out.box
        obtain ⟨s0, s1, s2, s3, s4, s5, s6, s7⟩ := four_cells I.out.res
        clear hcL hbr
        go_wp2
        refine bodyPost_ret (v := .tuple #[.agg #[.slice d1 W.length f1, .slice d2 P.length f2, .slice d3 E.length f3, .slice d4 Q.length f4], .int .i64 0]) (by simp [results, Tryd.results7, go_sem, s0, s1, s2, s3]) rfl ?_
        rw [RUN.out]
        simp only
        have O2 := putR_out wr (w.heap.size + 1) (.slice d1 W.length f1) (.slice d2 P.length f2) (.slice d3 E.length f3) (.slice d4 Q.length f4)
        have Z2 := putR_size wr (w.heap.size + 1) (.slice d1 W.length f1) (.slice d2 P.length f2) (.slice d3 E.length f3) (.slice d4 Q.length f4)
        exact ⟨_, rfl, (I.out.row.row.outside O2 (by omega) (Nat.le_refl _)).wide (by omega) (Nat.le_of_eq Z2.symm), I.out.below.trans (O2.below (by omega) (by omega))⟩
end Go.Proofs.YtbjalmiheipjjaaDoor
