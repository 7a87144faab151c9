/- Steps by the program: one, with its code; many. -/
import Derived.Test.YtenadnlgjobmdabDoorJiB
import Derived.Test.YtenadnlgjobmdabDoorJiM
import Derived.Test.YtenadnlgjobmdabDoorDevC
namespace Go.Proofs.YtenadnlgjobmdabDoor
open Go.RowKit


set_option maxRecDepth 100000 in
set_option maxHeartbeats 8000000 in
theorem implMicroDo_any (v : Value) (k a x : Int) (ws : List Int) (ps : List St) (es : List Int) (qs : List Se) (w : World) (hS : SB w) (h : RdDev w v ws ps es qs) (hw : ws.length ≤ 1048576) (hp : ps.length ≤ 1048576) (he : es.length ≤ 1048576) (hq : qs.length ≤ 1048576) :
    Calls Tryd.prog 22 #[v, .agg #[.int .i64 k, .int .i64 a, .int .i64 x]] w fun e w' => ∃ v', e = .returned (.tuple #[v', .int .i64 (mdC ⟨k, a, x⟩ ws ps es qs)]) ∧ RowDev w' w.heap.size w'.heap.size v' (mdW ⟨k, a, x⟩ ws ps es qs) (mdP ⟨k, a, x⟩ ws ps es qs) (mdE ⟨k, a, x⟩ ws ps es qs) (mdQ ⟨k, a, x⟩ ws ps es qs) ∧ Below w.heap.size w w' := by
  have HD := hideIt h
  have HS := hideIt hS
  obtain ⟨aW, cW, aP, cP, aS, cS, aQ, cQ, rfl, -, -⟩ := h.form
  clear h hS
  have hb0 : Below w.heap.size w (((w.alloc (.cells #[.slice aW ws.length cW, .slice aP ps.length cP, .slice aS es.length cS, .slice aQ qs.length cQ] 36)).alloc (.cells #[.int .i64 k, .int .i64 a, .int .i64 x] 55)).alloc (.cells #[.slice none 0 0, .slice none 0 0, .slice none 0 0, .slice none 0 0] 36)) := by
    repeat (refine Below.alloc ?_ (by simp <;> omega) _)
    exact Below.refl _ _
  by_cases c1 : (pmB ws ps && blkB es qs) = true
  case neg =>
    rcases md_cases ⟨k, a, x⟩ ws ps es qs with ⟨c, e1, e2, e3, e4, e5⟩ | ⟨c, _⟩ | ⟨c, _⟩ | ⟨c, _⟩
    case inr.inl => exact absurd c c1
    case inr.inr.inl => exact absurd c c1
    case inr.inr.inr => exact absurd c c1
    rw [e1, e2, e3, e4, e5]
    have C1 := hideIt c
    clear c c1 e1 e2 e3 e4 e5
    go_enter Tryd.func22, Tryd.ntmps22
    go_wp2_with fail
    refine (implDevicesOK_any _ ws ps es qs _ (HD.out.below hb0) hw hp he hq).mono ?_
    rw [C1.out]
    rintro e w1 ⟨rfl, hb1⟩
    have hz1 : w.heap.size + 3 ≤ w1.heap.size := by have := hb1.size; simp at this; omega
    have V0 := hideIt ((hb1.block w.heap.size (by simp <;> omega)).trans (at_old (at_old (at_new rfl))))
    have VM := hideIt ((hb1.block (w.heap.size + 1) (by simp <;> omega)).trans (at_old (at_new (by simp))))
    have V2 := hideIt ((hb1.block (w.heap.size + 1 + 1) (by simp <;> omega)).trans (at_new (by simp)))
    have B1 := hideIt (below_trans hb0 hb1 (by simp <;> omega))
    clear hb0 hb1
    obtain ⟨x0, x1, x2, x3, -, -, -, -⟩ := four_cells V0.out
    obtain ⟨y0, y1, y2, y3, y4, y5, y6, y7⟩ := four_cells V2.out
    obtain ⟨m0, m1, m2⟩ := three_cells VM.out
    go_wp2
    refine bodyPost_ret (v := .tuple #[.agg #[.slice none 0 0, .slice none 0 0, .slice none 0 0, .slice none 0 0], .int .i64 1]) (by simp [results, Tryd.results22, go_sem, y0, y1, y2, y3]) rfl ?_
    exact ⟨_, rfl, RowDev.zero _ _ _ (Nat.le_trans (by omega) (Nat.le_of_eq (putR_size w1 (w.heap.size + 1 + 1) _ _ _ _).symm)), B1.out.trans ((putR_out w1 (w.heap.size + 1 + 1) _ _ _ _).below (by omega) (by omega))⟩
  by_cases c2 : miB ⟨k, a, x⟩ = true
  case neg =>
    rcases md_cases ⟨k, a, x⟩ ws ps es qs with ⟨c, _⟩ | ⟨_, c, e1, e2, e3, e4, e5⟩ | ⟨_, c, _⟩ | ⟨_, c, _⟩
    case inl => rw [c] at c1; cases c1
    case inr.inr.inl => exact absurd c c2
    case inr.inr.inr => exact absurd c c2
    rw [e1, e2, e3, e4, e5]
    have C1 := hideIt c1
    have C2 := hideIt c
    clear c c1 c2 e1 e2 e3 e4 e5
    go_enter Tryd.func22, Tryd.ntmps22
    go_wp2_with fail
    refine (implDevicesOK_any _ ws ps es qs _ (HD.out.below hb0) hw hp he hq).mono ?_
    rw [C1.out]
    rintro e w1 ⟨rfl, hb1⟩
    have hz1 : w.heap.size + 3 ≤ w1.heap.size := by have := hb1.size; simp at this; omega
    have V0 := hideIt ((hb1.block w.heap.size (by simp <;> omega)).trans (at_old (at_old (at_new rfl))))
    have VM := hideIt ((hb1.block (w.heap.size + 1) (by simp <;> omega)).trans (at_old (at_new (by simp))))
    have V2 := hideIt ((hb1.block (w.heap.size + 1 + 1) (by simp <;> omega)).trans (at_new (by simp)))
    have B1 := hideIt (below_trans hb0 hb1 (by simp <;> omega))
    clear hb0 hb1
    obtain ⟨x0, x1, x2, x3, -, -, -, -⟩ := four_cells V0.out
    obtain ⟨y0, y1, y2, y3, y4, y5, y6, y7⟩ := four_cells V2.out
    obtain ⟨m0, m1, m2⟩ := three_cells VM.out
    go_wp2_with fail
    refine (isStep_of k a x _ (HS.out.below B1.out)).mono ?_
    rw [C2.out]
    rintro e w2 ⟨rfl, hb2⟩
    have hz2 : w1.heap.size ≤ w2.heap.size := hb2.size
    have U0 := hideIt ((hb2.block _ (by omega)).trans V0.out)
    have UM := hideIt ((hb2.block _ (by omega)).trans VM.out)
    have U2 := hideIt ((hb2.block _ (by omega)).trans V2.out)
    have B2 := hideIt (below_trans B1.out hb2 (by omega))
    clear hb2 x0 x1 x2 x3 y0 y1 y2 y3 y4 y5 y6 y7 m0 m1 m2 V0 VM V2 B1
    obtain ⟨x0, x1, x2, x3, -, -, -, -⟩ := four_cells U0.out
    obtain ⟨y0, y1, y2, y3, y4, y5, y6, y7⟩ := four_cells U2.out
    obtain ⟨m0, m1, m2⟩ := three_cells UM.out
    go_wp2
    refine bodyPost_ret (v := .tuple #[.agg #[.slice none 0 0, .slice none 0 0, .slice none 0 0, .slice none 0 0], .int .i64 1]) (by simp [results, Tryd.results22, go_sem, y0, y1, y2, y3]) rfl ?_
    exact ⟨_, rfl, RowDev.zero _ _ _ (Nat.le_trans (by omega) (Nat.le_of_eq (putR_size w2 (w.heap.size + 1 + 1) _ _ _ _).symm)), B2.out.trans ((putR_out w2 (w.heap.size + 1 + 1) _ _ _ _).below (by omega) (by omega))⟩
  case pos =>
    have C1 := hideIt c1
    have C2 := hideIt c2
    have CP := hideIt (by simpa using c1 : pmB ws ps = true ∧ blkB es qs = true)
    clear c1 c2
    go_enter Tryd.func22, Tryd.ntmps22
    go_wp2_with fail
    refine (implDevicesOK_any _ ws ps es qs _ (HD.out.below hb0) hw hp he hq).mono ?_
    rw [C1.out]
    rintro e w1 ⟨rfl, hb1⟩
    have hz1 : w.heap.size + 3 ≤ w1.heap.size := by have := hb1.size; simp at this; omega
    have V0 := hideIt ((hb1.block w.heap.size (by simp <;> omega)).trans (at_old (at_old (at_new rfl))))
    have VM := hideIt ((hb1.block (w.heap.size + 1) (by simp <;> omega)).trans (at_old (at_new (by simp))))
    have V2 := hideIt ((hb1.block (w.heap.size + 1 + 1) (by simp <;> omega)).trans (at_new (by simp)))
    have B1 := hideIt (below_trans hb0 hb1 (by simp <;> omega))
    clear hb0 hb1
    obtain ⟨x0, x1, x2, x3, -, -, -, -⟩ := four_cells V0.out
    obtain ⟨y0, y1, y2, y3, y4, y5, y6, y7⟩ := four_cells V2.out
    obtain ⟨m0, m1, m2⟩ := three_cells VM.out
    go_wp2_with fail
    refine (isStep_of k a x _ (HS.out.below B1.out)).mono ?_
    rw [C2.out]
    rintro e w2 ⟨rfl, hb2⟩
    have hz2 : w1.heap.size ≤ w2.heap.size := hb2.size
    have U0 := hideIt ((hb2.block _ (by omega)).trans V0.out)
    have UM := hideIt ((hb2.block _ (by omega)).trans VM.out)
    have U2 := hideIt ((hb2.block _ (by omega)).trans V2.out)
    have B2 := hideIt (below_trans B1.out hb2 (by omega))
    clear hb2 x0 x1 x2 x3 y0 y1 y2 y3 y4 y5 y6 y7 m0 m1 m2 V0 VM V2 B1
    obtain ⟨x0, x1, x2, x3, -, -, -, -⟩ := four_cells U0.out
    obtain ⟨y0, y1, y2, y3, y4, y5, y6, y7⟩ := four_cells U2.out
    obtain ⟨m0, m1, m2⟩ := three_cells UM.out
    go_upto_region 3 with fail
    go_region_with (first
      | (go_at_call 34; refine (copyDevices_any _ ws ps es qs _ (HD.out.below (by first | exact B2.out | exact B2.out.drew)) (by omega) (by omega) (by omega) (by omega)).mono ?_; rintro e w3 ⟨v3, rfl, hr3, hb3⟩; obtain ⟨aW3, cW3, aP3, cP3, aS3, cS3, aQ3, cQ3, rfl, -, -⟩ := hr3.rd.form; have hz3 : w2.heap.size ≤ w3.heap.size := hb3.size; have B3 : Hid (Below w2.heap.size w2 w3) := (by first | exact hb3 | exact below_trans ((Below.refl _ _).drew) hb3 (Nat.le_refl _)); have R3 : Hid (RowDev w3 w2.heap.size w3.heap.size (.agg #[.slice aW3 ws.length cW3, .slice aP3 ps.length cP3, .slice aS3 es.length cS3, .slice aQ3 qs.length cQ3]) ws ps es qs) := hr3; obtain ⟨n0, n1, n2⟩ := three_cells ((B3.out.block _ (by omega)).trans UM.out); clear hr3 hb3)
      | (go_at_call 35; refine (doStep_any _ k a x ws ps es qs w.heap.size w2.heap.size _ (show w.heap.size < w3.heap.size by omega) hz3 ((by first | exact R3.out | exact R3.out.below ((Below.refl w3.heap.size w3).drew) (Nat.le_refl _) : RowDev _ w2.heap.size w3.heap.size _ ws ps es qs).b w.heap.size (.inl (by omega))) CP.out.1 CP.out.2 C2.out).mono ?_; rintro e w4 ⟨v4, rfl, hr4, hb4⟩; obtain ⟨aW4, cW4, aP4, cP4, aS4, cS4, aQ4, cQ4, rfl, -, -⟩ := hr4.row.rd.form; have hz4 : w3.heap.size ≤ w4.heap.size := hb4.size; have B4 : Hid (Below w3.heap.size w3 w4) := (by first | exact hb4 | exact below_trans ((Below.refl _ _).drew) hb4 (Nat.le_refl _)); have R4 := hideIt hr4.row; have T2 := hideIt ((B4.out.block _ (by omega)).trans ((B3.out.block _ (by omega)).trans U2.out)); obtain ⟨t0, t1, t2, t3, t4, t5, t6, t7⟩ := four_cells T2.out; clear hr4 hb4))
    all_goals
      go_wp2
      refine bodyPost_ret (v := .tuple #[.agg #[.slice aW4 (mdW ⟨k, a, x⟩ ws ps es qs).length cW4, .slice aP4 (mdP ⟨k, a, x⟩ ws ps es qs).length cP4, .slice aS4 (mdE ⟨k, a, x⟩ ws ps es qs).length cS4, .slice aQ4 (mdQ ⟨k, a, x⟩ ws ps es qs).length cQ4], .int .i64 (mdC ⟨k, a, x⟩ ws ps es qs)]) (by simp [results, Tryd.results22, go_sem, t0, t1, t2, t3]) rfl ?_
      have O := putR_out w4 (w.heap.size + 1 + 1) (.slice aW4 (mdW ⟨k, a, x⟩ ws ps es qs).length cW4) (.slice aP4 (mdP ⟨k, a, x⟩ ws ps es qs).length cP4) (.slice aS4 (mdE ⟨k, a, x⟩ ws ps es qs).length cS4) (.slice aQ4 (mdQ ⟨k, a, x⟩ ws ps es qs).length cQ4)
      have Z := putR_size w4 (w.heap.size + 1 + 1) (.slice aW4 (mdW ⟨k, a, x⟩ ws ps es qs).length cW4) (.slice aP4 (mdP ⟨k, a, x⟩ ws ps es qs).length cP4) (.slice aS4 (mdE ⟨k, a, x⟩ ws ps es qs).length cS4) (.slice aQ4 (mdQ ⟨k, a, x⟩ ws ps es qs).length cQ4)
      exact ⟨_, rfl, (R4.out.outside O (by omega) (by omega)).wide (by omega) (Nat.le_of_eq Z.symm), (below_trans (below_trans B2.out B3.out (by omega)) B4.out (by omega)).trans (O.below (by omega) (by omega))⟩
end Go.Proofs.YtenadnlgjobmdabDoor
