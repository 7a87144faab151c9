/- One step with its code: by the model. -/
import Derived.Test.YtenadnlgjobmdakDoorMicO
namespace Go.Proofs.YtenadnlgjobmdakDoor
open Go.RowKit

theorem ret_dev {v : Value} {c d : Int} (h : c = d) : Ending.returned (.tuple #[v, .int .i64 c]) = .returned (.tuple #[v, .int .i64 d]) := by rw [h]

theorem do_len (m : Mi) {ws : List Int} {ps : List St} {es : List Int} {qs : List Se} (h : pmB ws ps = true) (k : blkB es qs = true) : (doW m ws ps).length ≤ 336 ∧ (doP m ps).length ≤ 401 ∧ (doE m es qs).length ≤ 32 ∧ (doQ m qs).length ≤ 401 := by
  have h1 := pmB_len h
  have h2 := blkB_len k
  refine ⟨?_, ?_, ?_, ?_⟩
  · unfold doW; split
    · rw [fenW_len]; omega
    · omega
  · unfold doP; split
    · simp; omega
    · split
      · simp; omega
      · split
        · have := fenP_le ps; omega
        · omega
  · unfold doE; split
    · rw [layE_len]; omega
    · omega
  · unfold doQ; split
    · simp; omega
    · split
      · simp
      · omega

set_option maxRecDepth 100000 in
set_option maxHeartbeats 8000000 in
theorem specMicroDo_any (v : Value) (m : Mi) (ws : List Int) (ps : List St) (es : List Int) (qs : List Se) (w : World) (h : RdDev w v ws ps es qs) (hw : ws.length ≤ 1048576) (hp : ps.length ≤ 1048576) (he : es.length ≤ 1048576) (hq : qs.length ≤ 1048576) :
    Calls Tryd.prog 6 #[v, m.v] w fun e w' => ∃ v', e = .returned (.tuple #[v', .int .i64 (mdC m ws ps es qs)]) ∧ RowDev w' w.heap.size w'.heap.size v' (mdW m ws ps es qs) (mdP m ws ps es qs) (mdE m ws ps es qs) (mdQ m ws ps es qs) ∧ Below w.heap.size w w' := by
  have HD := hideIt h
  obtain ⟨aW, cW, aP, cP, aS, cS, aQ, cQ, rfl, -, -⟩ := h.form
  clear h
  obtain ⟨k, a, x⟩ := m
  have hb0 : Below w.heap.size w (((w.alloc (.cells #[.slice aW ws.length cW, .slice aP ps.length cP, .slice aS es.length cS, .slice aQ qs.length cQ] 41)).alloc (.cells #[.int .i64 k, .int .i64 a, .int .i64 x] 45)).alloc (.cells #[.slice none 0 0, .slice none 0 0, .slice none 0 0, .slice none 0 0] 41)) := by
    repeat (refine Below.alloc ?_ (by simp <;> omega) _)
    exact Below.refl _ _
  have MV := hideIt (show Mi.v ⟨k, a, x⟩ = .agg #[.int .i64 k, .int .i64 a, .int .i64 x] from rfl)
  have LM := hideIt (l04Micro_any ⟨k, a, x⟩)
  rw [show Mi.v ⟨k, a, x⟩ = .agg #[.int .i64 k, .int .i64 a, .int .i64 x] from rfl] at LM ⊢
  rcases md_cases ⟨k, a, x⟩ ws ps es qs with ⟨c1, e1, e2, e3, e4, e5⟩ | ⟨c1, c2, e1, e2, e3, e4, e5⟩ | ⟨c1, c2, c3, e1, e2, e3, e4, e5⟩ | ⟨c1, c2, c3, e1, e2, e3, e4, e5⟩
  · rw [e1, e2, e3, e4, e5]
    have C1 := hideIt c1
    clear c1 e1 e2 e3 e4 e5
    go_enter Tryd.func6, Tryd.ntmps6
    go_wp2_with fail
    refine (specDevicesOK_any _ ws ps es qs _ (HD.out.below hb0) hw hp he hq).mono ?_
    rw [C1.out]
    rintro e w1 ⟨rfl, hb1⟩
    have hz1 : w.heap.size + 3 ≤ w1.heap.size := by have := hb1.size; simp at this; omega
    have V0 := hideIt ((hb1.block w.heap.size (by simp <;> omega)).trans (at_old (at_old (at_new rfl))))
    have VM := hideIt ((hb1.block (w.heap.size + 1) (by simp <;> omega)).trans (at_old (at_new (by simp))))
    have V2 := hideIt ((hb1.block (w.heap.size + 1 + 1) (by simp <;> omega)).trans (at_new (by simp)))
    have B1 := hideIt (below_trans hb0 hb1 (by simp <;> omega))
    clear hb0 hb1
    obtain ⟨x0, x1, x2, x3, -, -, -, -⟩ := four_cells V0.out
    obtain ⟨y0, y1, y2, y3, y4, y5, y6, y7⟩ := four_cells V2.out
    obtain ⟨m0, m1, m2⟩ := three_cells VM.out
    go_wp2
    refine bodyPost_ret (v := .tuple #[.agg #[.slice none 0 0, .slice none 0 0, .slice none 0 0, .slice none 0 0], .int .i64 1]) (by simp [results, Tryd.results6, go_sem, y0, y1, y2, y3]) rfl ?_
    exact ⟨_, rfl, RowDev.zero _ _ _ (Nat.le_trans (by omega) (Nat.le_of_eq (putR_size w1 (w.heap.size + 1 + 1) _ _ _ _).symm)), B1.out.trans ((putR_out w1 (w.heap.size + 1 + 1) _ _ _ _).below (by omega) (by omega))⟩
  · rw [e1, e2, e3, e4, e5]
    have C1 := hideIt c1
    have C2 := hideIt c2
    clear c1 c2 e1 e2 e3 e4 e5
    go_enter Tryd.func6, Tryd.ntmps6
    go_wp2_with fail
    refine (specDevicesOK_any _ ws ps es qs _ (HD.out.below hb0) hw hp he hq).mono ?_
    rw [C1.out]
    rintro e w1 ⟨rfl, hb1⟩
    have hz1 : w.heap.size + 3 ≤ w1.heap.size := by have := hb1.size; simp at this; omega
    have V0 := hideIt ((hb1.block w.heap.size (by simp <;> omega)).trans (at_old (at_old (at_new rfl))))
    have VM := hideIt ((hb1.block (w.heap.size + 1) (by simp <;> omega)).trans (at_old (at_new (by simp))))
    have V2 := hideIt ((hb1.block (w.heap.size + 1 + 1) (by simp <;> omega)).trans (at_new (by simp)))
    have B1 := hideIt (below_trans hb0 hb1 (by simp <;> omega))
    clear hb0 hb1
    obtain ⟨x0, x1, x2, x3, -, -, -, -⟩ := four_cells V0.out
    obtain ⟨y0, y1, y2, y3, y4, y5, y6, y7⟩ := four_cells V2.out
    obtain ⟨m0, m1, m2⟩ := three_cells VM.out
    go_wp2_with fail
    refine (LM.out _).mono ?_
    rw [C2.out]
    rintro e w2 ⟨rfl, hb2⟩
    have hz2 : w1.heap.size ≤ w2.heap.size := hb2.size
    have U0 := hideIt ((hb2.block _ (by omega)).trans V0.out)
    have UM := hideIt ((hb2.block _ (by omega)).trans VM.out)
    have U2 := hideIt ((hb2.block _ (by omega)).trans V2.out)
    have B2 := hideIt (below_trans B1.out hb2 (by omega))
    clear hb2 x0 x1 x2 x3 y0 y1 y2 y3 y4 y5 y6 y7 m0 m1 m2 V0 VM V2 B1
    obtain ⟨x0, x1, x2, x3, -, -, -, -⟩ := four_cells U0.out
    obtain ⟨y0, y1, y2, y3, y4, y5, y6, y7⟩ := four_cells U2.out
    obtain ⟨m0, m1, m2⟩ := three_cells UM.out
    go_wp2
    refine bodyPost_ret (v := .tuple #[.agg #[.slice none 0 0, .slice none 0 0, .slice none 0 0, .slice none 0 0], .int .i64 1]) (by simp [results, Tryd.results6, go_sem, y0, y1, y2, y3]) rfl ?_
    exact ⟨_, rfl, RowDev.zero _ _ _ (Nat.le_trans (by omega) (Nat.le_of_eq (putR_size w2 (w.heap.size + 1 + 1) _ _ _ _).symm)), B2.out.trans ((putR_out w2 (w.heap.size + 1 + 1) _ _ _ _).below (by omega) (by omega))⟩
  · rw [e1, e2, e3, e4, e5]
    have C1 := hideIt c1
    have C2 := hideIt c2
    have c3' : (k = 1 ∧ ps.length = 400) ∨ (¬ k = 1 ∧ k = 4 ∧ qs.length = 400) := by have : (k = 1 ∧ ps.length = 400) ∨ (k = 4 ∧ qs.length = 400) := of_decide_eq_true c3; omega
    clear c1 c2 c3 e1 e2 e3 e4 e5
    rcases c3' with ⟨rfl, f⟩ | ⟨n1, rfl, f⟩
    · have f' : ((ps.length : Int) == 400) = true := by rw [beq_iff_eq]; omega
      clear f
      go_enter Tryd.func6, Tryd.ntmps6
      go_wp2_with fail
      refine (specDevicesOK_any _ ws ps es qs _ (HD.out.below hb0) hw hp he hq).mono ?_
      rw [C1.out]
      rintro e w1 ⟨rfl, hb1⟩
      have hz1 : w.heap.size + 3 ≤ w1.heap.size := by have := hb1.size; simp at this; omega
      have V0 := hideIt ((hb1.block w.heap.size (by simp <;> omega)).trans (at_old (at_old (at_new rfl))))
      have VM := hideIt ((hb1.block (w.heap.size + 1) (by simp <;> omega)).trans (at_old (at_new (by simp))))
      have V2 := hideIt ((hb1.block (w.heap.size + 1 + 1) (by simp <;> omega)).trans (at_new (by simp)))
      have B1 := hideIt (below_trans hb0 hb1 (by simp <;> omega))
      clear hb0 hb1
      obtain ⟨x0, x1, x2, x3, -, -, -, -⟩ := four_cells V0.out
      obtain ⟨y0, y1, y2, y3, y4, y5, y6, y7⟩ := four_cells V2.out
      obtain ⟨m0, m1, m2⟩ := three_cells VM.out
      go_wp2_with fail
      refine (LM.out _).mono ?_
      rw [C2.out]
      rintro e w2 ⟨rfl, hb2⟩
      have hz2 : w1.heap.size ≤ w2.heap.size := hb2.size
      have U0 := hideIt ((hb2.block _ (by omega)).trans V0.out)
      have UM := hideIt ((hb2.block _ (by omega)).trans VM.out)
      have U2 := hideIt ((hb2.block _ (by omega)).trans V2.out)
      have B2 := hideIt (below_trans B1.out hb2 (by omega))
      clear hb2 x0 x1 x2 x3 y0 y1 y2 y3 y4 y5 y6 y7 m0 m1 m2 V0 VM V2 B1
      obtain ⟨x0, x1, x2, x3, -, -, -, -⟩ := four_cells U0.out
      obtain ⟨y0, y1, y2, y3, y4, y5, y6, y7⟩ := four_cells U2.out
      obtain ⟨m0, m1, m2⟩ := three_cells UM.out
      go_wp2_with fail
      refine (l04Own_any _ ws ps es qs _ (HD.out.below B2.out) (by omega) (by omega) (by omega) (by omega)).mono ?_
      rintro e w3 ⟨v3, rfl, hr, hb⟩
      obtain ⟨aW3, cW3, aP3, cP3, aS3, cS3, aQ3, cQ3, rfl, -, -⟩ := hr.rd.form
      have hz3 : w2.heap.size ≤ w3.heap.size := hb.size
      have T2 := hideIt ((hb.block _ (by omega)).trans U2.out)
      have B3 := hideIt (below_trans B2.out hb (by omega))
      have Q3 : Hid (RowDev w3 w2.heap.size w3.heap.size _ ws ps es qs) := hr
      obtain ⟨t0, t1, t2, t3, t4, t5, t6, t7⟩ := four_cells T2.out
      clear hr hb
      go_wp2
      refine bodyPost_ret (v := .tuple #[.agg #[.slice aW3 (ws).length cW3, .slice aP3 (ps).length cP3, .slice aS3 (es).length cS3, .slice aQ3 (qs).length cQ3], .int .i64 7]) (by simp [results, Tryd.results6, go_sem, t0, t1, t2, t3]) rfl ?_
      have O := putR_out w3 (w.heap.size + 1 + 1) (.slice aW3 (ws).length cW3) (.slice aP3 (ps).length cP3) (.slice aS3 (es).length cS3) (.slice aQ3 (qs).length cQ3)
      have Z := putR_size w3 (w.heap.size + 1 + 1) (.slice aW3 (ws).length cW3) (.slice aP3 (ps).length cP3) (.slice aS3 (es).length cS3) (.slice aQ3 (qs).length cQ3)
      exact ⟨_, rfl, (Q3.out.outside O (by omega) (Nat.le_refl _)).wide (by omega) (Nat.le_of_eq Z.symm), B3.out.trans (O.below (by omega) (by omega))⟩
    · have f' : ((qs.length : Int) == 400) = true := by rw [beq_iff_eq]; omega
      clear f n1
      go_enter Tryd.func6, Tryd.ntmps6
      go_wp2_with fail
      refine (specDevicesOK_any _ ws ps es qs _ (HD.out.below hb0) hw hp he hq).mono ?_
      rw [C1.out]
      rintro e w1 ⟨rfl, hb1⟩
      have hz1 : w.heap.size + 3 ≤ w1.heap.size := by have := hb1.size; simp at this; omega
      have V0 := hideIt ((hb1.block w.heap.size (by simp <;> omega)).trans (at_old (at_old (at_new rfl))))
      have VM := hideIt ((hb1.block (w.heap.size + 1) (by simp <;> omega)).trans (at_old (at_new (by simp))))
      have V2 := hideIt ((hb1.block (w.heap.size + 1 + 1) (by simp <;> omega)).trans (at_new (by simp)))
      have B1 := hideIt (below_trans hb0 hb1 (by simp <;> omega))
      clear hb0 hb1
      obtain ⟨x0, x1, x2, x3, -, -, -, -⟩ := four_cells V0.out
      obtain ⟨y0, y1, y2, y3, y4, y5, y6, y7⟩ := four_cells V2.out
      obtain ⟨m0, m1, m2⟩ := three_cells VM.out
      go_wp2_with fail
      refine (LM.out _).mono ?_
      rw [C2.out]
      rintro e w2 ⟨rfl, hb2⟩
      have hz2 : w1.heap.size ≤ w2.heap.size := hb2.size
      have U0 := hideIt ((hb2.block _ (by omega)).trans V0.out)
      have UM := hideIt ((hb2.block _ (by omega)).trans VM.out)
      have U2 := hideIt ((hb2.block _ (by omega)).trans V2.out)
      have B2 := hideIt (below_trans B1.out hb2 (by omega))
      clear hb2 x0 x1 x2 x3 y0 y1 y2 y3 y4 y5 y6 y7 m0 m1 m2 V0 VM V2 B1
      obtain ⟨x0, x1, x2, x3, -, -, -, -⟩ := four_cells U0.out
      obtain ⟨y0, y1, y2, y3, y4, y5, y6, y7⟩ := four_cells U2.out
      obtain ⟨m0, m1, m2⟩ := three_cells UM.out
      go_wp2_with fail
      refine (l04Own_any _ ws ps es qs _ (HD.out.below B2.out) (by omega) (by omega) (by omega) (by omega)).mono ?_
      rintro e w3 ⟨v3, rfl, hr, hb⟩
      obtain ⟨aW3, cW3, aP3, cP3, aS3, cS3, aQ3, cQ3, rfl, -, -⟩ := hr.rd.form
      have hz3 : w2.heap.size ≤ w3.heap.size := hb.size
      have T2 := hideIt ((hb.block _ (by omega)).trans U2.out)
      have B3 := hideIt (below_trans B2.out hb (by omega))
      have Q3 : Hid (RowDev w3 w2.heap.size w3.heap.size _ ws ps es qs) := hr
      obtain ⟨t0, t1, t2, t3, t4, t5, t6, t7⟩ := four_cells T2.out
      clear hr hb
      go_wp2
      refine bodyPost_ret (v := .tuple #[.agg #[.slice aW3 (ws).length cW3, .slice aP3 (ps).length cP3, .slice aS3 (es).length cS3, .slice aQ3 (qs).length cQ3], .int .i64 7]) (by simp [results, Tryd.results6, go_sem, t0, t1, t2, t3]) rfl ?_
      have O := putR_out w3 (w.heap.size + 1 + 1) (.slice aW3 (ws).length cW3) (.slice aP3 (ps).length cP3) (.slice aS3 (es).length cS3) (.slice aQ3 (qs).length cQ3)
      have Z := putR_size w3 (w.heap.size + 1 + 1) (.slice aW3 (ws).length cW3) (.slice aP3 (ps).length cP3) (.slice aS3 (es).length cS3) (.slice aQ3 (qs).length cQ3)
      exact ⟨_, rfl, (Q3.out.outside O (by omega) (Nat.le_refl _)).wide (by omega) (Nat.le_of_eq Z.symm), B3.out.trans (O.below (by omega) (by omega))⟩
  · rw [e1, e2, e3, e4, e5]
    have C1 := hideIt c1
    have C2 := hideIt c2
    have PB := hideIt (show pmB ws ps = true by simp at c1; exact c1.1)
    have QB := hideIt (show blkB es qs = true by simp at c1; exact c1.2)
    have c3' : ¬ ((k = 1 ∧ ps.length = 400) ∨ (k = 4 ∧ qs.length = 400)) := of_decide_eq_false c3
    have DL := hideIt (do_len ⟨k, a, x⟩ PB.out QB.out)
    clear c1 c2 c3 e1 e2 e3 e4 e5
    have LD := hideIt (fun w' h => l04Do_any (.agg #[.slice aW ws.length cW, .slice aP ps.length cP, .slice aS es.length cS, .slice aQ qs.length cQ]) ⟨k, a, x⟩ ws ps es qs w' h PB.out QB.out C2.out)
    rw [show Mi.v ⟨k, a, x⟩ = .agg #[.int .i64 k, .int .i64 a, .int .i64 x] from rfl] at LD
    generalize doW ⟨k, a, x⟩ ws ps = W' at *
    generalize doP ⟨k, a, x⟩ ps = P' at *
    generalize doE ⟨k, a, x⟩ es qs = E' at *
    generalize doQ ⟨k, a, x⟩ qs = Q' at *
    rcases (show (k = 1 ∧ ¬ ps.length = 400) ∨ (¬ k = 1 ∧ k = 4 ∧ ¬ qs.length = 400) ∨ (¬ k = 1 ∧ ¬ k = 4) by omega) with ⟨rfl, f⟩ | ⟨n1, rfl, f⟩ | ⟨n1, n4⟩
    · have f' : ((ps.length : Int) == 400) = false := by rw [beq_eq_false_iff_ne]; omega
      clear f c3'
      go_enter Tryd.func6, Tryd.ntmps6
      go_wp2_with fail
      refine (specDevicesOK_any _ ws ps es qs _ (HD.out.below hb0) hw hp he hq).mono ?_
      rw [C1.out]
      rintro e w1 ⟨rfl, hb1⟩
      have hz1 : w.heap.size + 3 ≤ w1.heap.size := by have := hb1.size; simp at this; omega
      have V0 := hideIt ((hb1.block w.heap.size (by simp <;> omega)).trans (at_old (at_old (at_new rfl))))
      have VM := hideIt ((hb1.block (w.heap.size + 1) (by simp <;> omega)).trans (at_old (at_new (by simp))))
      have V2 := hideIt ((hb1.block (w.heap.size + 1 + 1) (by simp <;> omega)).trans (at_new (by simp)))
      have B1 := hideIt (below_trans hb0 hb1 (by simp <;> omega))
      clear hb0 hb1
      obtain ⟨x0, x1, x2, x3, -, -, -, -⟩ := four_cells V0.out
      obtain ⟨y0, y1, y2, y3, y4, y5, y6, y7⟩ := four_cells V2.out
      obtain ⟨m0, m1, m2⟩ := three_cells VM.out
      go_wp2_with fail
      refine (LM.out _).mono ?_
      rw [C2.out]
      rintro e w2 ⟨rfl, hb2⟩
      have hz2 : w1.heap.size ≤ w2.heap.size := hb2.size
      have U0 := hideIt ((hb2.block _ (by omega)).trans V0.out)
      have UM := hideIt ((hb2.block _ (by omega)).trans VM.out)
      have U2 := hideIt ((hb2.block _ (by omega)).trans V2.out)
      have B2 := hideIt (below_trans B1.out hb2 (by omega))
      clear hb2 x0 x1 x2 x3 y0 y1 y2 y3 y4 y5 y6 y7 m0 m1 m2 V0 VM V2 B1
      obtain ⟨x0, x1, x2, x3, -, -, -, -⟩ := four_cells U0.out
      obtain ⟨y0, y1, y2, y3, y4, y5, y6, y7⟩ := four_cells U2.out
      obtain ⟨m0, m1, m2⟩ := three_cells UM.out
      go_wp2_with fail
      refine (LD.out _ (HD.out.below B2.out)).mono ?_
      rintro e w3 ⟨v3, rfl, hr3, hb3⟩
      have R3 := hideIt hr3
      have hz3 : w2.heap.size ≤ w3.heap.size := hb3.size
      have U3 := hideIt ((hb3.block _ (by omega)).trans U2.out)
      have B3 := hideIt (below_trans B2.out hb3 (by omega))
      have d1 := DL.out.1
      have d2 := DL.out.2.1
      have d3 := DL.out.2.2.1
      have d4 := DL.out.2.2.2
      clear hr3 hb3 x0 x1 x2 x3 y0 y1 y2 y3 y4 y5 y6 y7 m0 m1 m2 U0 U2 UM B2
      go_wp2_with fail
      refine (l04Own_any _ W' P' E' Q' _ R3.out (by omega) (by omega) (by omega) (by omega)).mono ?_
      rintro e w4 ⟨v4, rfl, hr, hb⟩
      obtain ⟨aW4, cW4, aP4, cP4, aS4, cS4, aQ4, cQ4, rfl, -, -⟩ := hr.rd.form
      have hz4 : w3.heap.size ≤ w4.heap.size := hb.size
      have T2 := hideIt ((hb.block _ (by omega)).trans U3.out)
      have B4 := hideIt (below_trans B3.out hb (by omega))
      have Q4 : Hid (RowDev w4 w3.heap.size w4.heap.size _ W' P' E' Q') := hr
      obtain ⟨t0, t1, t2, t3, t4, t5, t6, t7⟩ := four_cells T2.out
      clear hr hb
      go_wp2
      refine bodyPost_ret (v := .tuple #[.agg #[.slice aW4 (W').length cW4, .slice aP4 (P').length cP4, .slice aS4 (E').length cS4, .slice aQ4 (Q').length cQ4], .int .i64 0]) (by simp [results, Tryd.results6, go_sem, t0, t1, t2, t3]) rfl ?_
      have O := putR_out w4 (w.heap.size + 1 + 1) (.slice aW4 (W').length cW4) (.slice aP4 (P').length cP4) (.slice aS4 (E').length cS4) (.slice aQ4 (Q').length cQ4)
      have Z := putR_size w4 (w.heap.size + 1 + 1) (.slice aW4 (W').length cW4) (.slice aP4 (P').length cP4) (.slice aS4 (E').length cS4) (.slice aQ4 (Q').length cQ4)
      exact ⟨_, rfl, (Q4.out.outside O (by omega) (Nat.le_refl _)).wide (by omega) (Nat.le_of_eq Z.symm), B4.out.trans (O.below (by omega) (by omega))⟩
    · have f' : ((qs.length : Int) == 400) = false := by rw [beq_eq_false_iff_ne]; omega
      clear f c3' n1
      go_enter Tryd.func6, Tryd.ntmps6
      go_wp2_with fail
      refine (specDevicesOK_any _ ws ps es qs _ (HD.out.below hb0) hw hp he hq).mono ?_
      rw [C1.out]
      rintro e w1 ⟨rfl, hb1⟩
      have hz1 : w.heap.size + 3 ≤ w1.heap.size := by have := hb1.size; simp at this; omega
      have V0 := hideIt ((hb1.block w.heap.size (by simp <;> omega)).trans (at_old (at_old (at_new rfl))))
      have VM := hideIt ((hb1.block (w.heap.size + 1) (by simp <;> omega)).trans (at_old (at_new (by simp))))
      have V2 := hideIt ((hb1.block (w.heap.size + 1 + 1) (by simp <;> omega)).trans (at_new (by simp)))
      have B1 := hideIt (below_trans hb0 hb1 (by simp <;> omega))
      clear hb0 hb1
      obtain ⟨x0, x1, x2, x3, -, -, -, -⟩ := four_cells V0.out
      obtain ⟨y0, y1, y2, y3, y4, y5, y6, y7⟩ := four_cells V2.out
      obtain ⟨m0, m1, m2⟩ := three_cells VM.out
      go_wp2_with fail
      refine (LM.out _).mono ?_
      rw [C2.out]
      rintro e w2 ⟨rfl, hb2⟩
      have hz2 : w1.heap.size ≤ w2.heap.size := hb2.size
      have U0 := hideIt ((hb2.block _ (by omega)).trans V0.out)
      have UM := hideIt ((hb2.block _ (by omega)).trans VM.out)
      have U2 := hideIt ((hb2.block _ (by omega)).trans V2.out)
      have B2 := hideIt (below_trans B1.out hb2 (by omega))
      clear hb2 x0 x1 x2 x3 y0 y1 y2 y3 y4 y5 y6 y7 m0 m1 m2 V0 VM V2 B1
      obtain ⟨x0, x1, x2, x3, -, -, -, -⟩ := four_cells U0.out
      obtain ⟨y0, y1, y2, y3, y4, y5, y6, y7⟩ := four_cells U2.out
      obtain ⟨m0, m1, m2⟩ := three_cells UM.out
      go_wp2_with fail
      refine (LD.out _ (HD.out.below B2.out)).mono ?_
      rintro e w3 ⟨v3, rfl, hr3, hb3⟩
      have R3 := hideIt hr3
      have hz3 : w2.heap.size ≤ w3.heap.size := hb3.size
      have U3 := hideIt ((hb3.block _ (by omega)).trans U2.out)
      have B3 := hideIt (below_trans B2.out hb3 (by omega))
      have d1 := DL.out.1
      have d2 := DL.out.2.1
      have d3 := DL.out.2.2.1
      have d4 := DL.out.2.2.2
      clear hr3 hb3 x0 x1 x2 x3 y0 y1 y2 y3 y4 y5 y6 y7 m0 m1 m2 U0 U2 UM B2
      go_wp2_with fail
      refine (l04Own_any _ W' P' E' Q' _ R3.out (by omega) (by omega) (by omega) (by omega)).mono ?_
      rintro e w4 ⟨v4, rfl, hr, hb⟩
      obtain ⟨aW4, cW4, aP4, cP4, aS4, cS4, aQ4, cQ4, rfl, -, -⟩ := hr.rd.form
      have hz4 : w3.heap.size ≤ w4.heap.size := hb.size
      have T2 := hideIt ((hb.block _ (by omega)).trans U3.out)
      have B4 := hideIt (below_trans B3.out hb (by omega))
      have Q4 : Hid (RowDev w4 w3.heap.size w4.heap.size _ W' P' E' Q') := hr
      obtain ⟨t0, t1, t2, t3, t4, t5, t6, t7⟩ := four_cells T2.out
      clear hr hb
      go_wp2
      refine bodyPost_ret (v := .tuple #[.agg #[.slice aW4 (W').length cW4, .slice aP4 (P').length cP4, .slice aS4 (E').length cS4, .slice aQ4 (Q').length cQ4], .int .i64 0]) (by simp [results, Tryd.results6, go_sem, t0, t1, t2, t3]) rfl ?_
      have O := putR_out w4 (w.heap.size + 1 + 1) (.slice aW4 (W').length cW4) (.slice aP4 (P').length cP4) (.slice aS4 (E').length cS4) (.slice aQ4 (Q').length cQ4)
      have Z := putR_size w4 (w.heap.size + 1 + 1) (.slice aW4 (W').length cW4) (.slice aP4 (P').length cP4) (.slice aS4 (E').length cS4) (.slice aQ4 (Q').length cQ4)
      exact ⟨_, rfl, (Q4.out.outside O (by omega) (Nat.le_refl _)).wide (by omega) (Nat.le_of_eq Z.symm), B4.out.trans (O.below (by omega) (by omega))⟩
    · have q1 : (k == 1) = false := by simpa using n1
      have q4 : (k == 4) = false := by simpa using n4
      clear n1 n4 c3'
      go_enter Tryd.func6, Tryd.ntmps6
      go_wp2_with fail
      refine (specDevicesOK_any _ ws ps es qs _ (HD.out.below hb0) hw hp he hq).mono ?_
      rw [C1.out]
      rintro e w1 ⟨rfl, hb1⟩
      have hz1 : w.heap.size + 3 ≤ w1.heap.size := by have := hb1.size; simp at this; omega
      have V0 := hideIt ((hb1.block w.heap.size (by simp <;> omega)).trans (at_old (at_old (at_new rfl))))
      have VM := hideIt ((hb1.block (w.heap.size + 1) (by simp <;> omega)).trans (at_old (at_new (by simp))))
      have V2 := hideIt ((hb1.block (w.heap.size + 1 + 1) (by simp <;> omega)).trans (at_new (by simp)))
      have B1 := hideIt (below_trans hb0 hb1 (by simp <;> omega))
      clear hb0 hb1
      obtain ⟨x0, x1, x2, x3, -, -, -, -⟩ := four_cells V0.out
      obtain ⟨y0, y1, y2, y3, y4, y5, y6, y7⟩ := four_cells V2.out
      obtain ⟨m0, m1, m2⟩ := three_cells VM.out
      go_wp2_with fail
      refine (LM.out _).mono ?_
      rw [C2.out]
      rintro e w2 ⟨rfl, hb2⟩
      have hz2 : w1.heap.size ≤ w2.heap.size := hb2.size
      have U0 := hideIt ((hb2.block _ (by omega)).trans V0.out)
      have UM := hideIt ((hb2.block _ (by omega)).trans VM.out)
      have U2 := hideIt ((hb2.block _ (by omega)).trans V2.out)
      have B2 := hideIt (below_trans B1.out hb2 (by omega))
      clear hb2 x0 x1 x2 x3 y0 y1 y2 y3 y4 y5 y6 y7 m0 m1 m2 V0 VM V2 B1
      obtain ⟨x0, x1, x2, x3, -, -, -, -⟩ := four_cells U0.out
      obtain ⟨y0, y1, y2, y3, y4, y5, y6, y7⟩ := four_cells U2.out
      obtain ⟨m0, m1, m2⟩ := three_cells UM.out
      go_wp2_with fail
      refine (LD.out _ (HD.out.below B2.out)).mono ?_
      rintro e w3 ⟨v3, rfl, hr3, hb3⟩
      have R3 := hideIt hr3
      have hz3 : w2.heap.size ≤ w3.heap.size := hb3.size
      have U3 := hideIt ((hb3.block _ (by omega)).trans U2.out)
      have B3 := hideIt (below_trans B2.out hb3 (by omega))
      have d1 := DL.out.1
      have d2 := DL.out.2.1
      have d3 := DL.out.2.2.1
      have d4 := DL.out.2.2.2
      clear hr3 hb3 x0 x1 x2 x3 y0 y1 y2 y3 y4 y5 y6 y7 m0 m1 m2 U0 U2 UM B2
      go_wp2_with fail
      refine (l04Own_any _ W' P' E' Q' _ R3.out (by omega) (by omega) (by omega) (by omega)).mono ?_
      rintro e w4 ⟨v4, rfl, hr, hb⟩
      obtain ⟨aW4, cW4, aP4, cP4, aS4, cS4, aQ4, cQ4, rfl, -, -⟩ := hr.rd.form
      have hz4 : w3.heap.size ≤ w4.heap.size := hb.size
      have T2 := hideIt ((hb.block _ (by omega)).trans U3.out)
      have B4 := hideIt (below_trans B3.out hb (by omega))
      have Q4 : Hid (RowDev w4 w3.heap.size w4.heap.size _ W' P' E' Q') := hr
      obtain ⟨t0, t1, t2, t3, t4, t5, t6, t7⟩ := four_cells T2.out
      clear hr hb
      go_wp2
      refine bodyPost_ret (v := .tuple #[.agg #[.slice aW4 (W').length cW4, .slice aP4 (P').length cP4, .slice aS4 (E').length cS4, .slice aQ4 (Q').length cQ4], .int .i64 0]) (by simp [results, Tryd.results6, go_sem, t0, t1, t2, t3]) rfl ?_
      have O := putR_out w4 (w.heap.size + 1 + 1) (.slice aW4 (W').length cW4) (.slice aP4 (P').length cP4) (.slice aS4 (E').length cS4) (.slice aQ4 (Q').length cQ4)
      have Z := putR_size w4 (w.heap.size + 1 + 1) (.slice aW4 (W').length cW4) (.slice aP4 (P').length cP4) (.slice aS4 (E').length cS4) (.slice aQ4 (Q').length cQ4)
      exact ⟨_, rfl, (Q4.out.outside O (by omega) (Nat.le_refl _)).wide (by omega) (Nat.le_of_eq Z.symm), B4.out.trans (O.below (by omega) (by omega))⟩
end Go.Proofs.YtenadnlgjobmdakDoor
