/- A recovery: by the model. -/
import Derived.Test.YtlkmnpanddchdaaCrA
namespace Go.Proofs.Ytlkmnpanddchdaa
open Go.RowKit

set_option maxRecDepth 100000 in
set_option maxHeartbeats 16000000 in
theorem l11Ask_any (v : Value) (ws : List Int) (ps : List St) (es : List Int) (qs : List Se) (w : World) (h : RdDev w v ws ps es qs) (hws : ws.length ≤ 1048576) (hps : ps.length ≤ 1048576) (hes : es.length ≤ 1048576) (hqs : qs.length ≤ 1048576) :
    Calls Try.prog 15 #[v] w fun e w' => e = .returned (.int .i64 (akC ws ps es qs)) ∧ Below w.heap.size w w' := by
  have LD := hideIt (fun w1 (hb : Below w.heap.size w w1) => specDevicesOK_any v ws ps es qs w1 (h.below hb) hws hps hes hqs)
  obtain ⟨aW, cW, aP, cP, aS, cS, aQ, cQ, rfl, -, -⟩ := h.form
  clear h
  unfold akC
  by_cases y : (pmB ws ps && blkB es qs) = true
  · rw [y] at LD
    rw [if_pos y]
    clear y
    by_cases p : 0 < ps.length
    · have p' : (0 : Int) < (ps.length : Int) := by omega
      rw [if_pos (.inl p)]
      obtain ⟨V, hV⟩ : ∃ V, V = (w.alloc (.cells #[.slice aW ws.length cW, .slice aP ps.length cP, .slice aS es.length cS, .slice aQ qs.length cQ] 42)) := ⟨_, rfl⟩
      have zV : w.heap.size + 1 ≤ V.heap.size := by rw [hV]; simp <;> omega
      have B_V : Hid (Below w.heap.size w V) := by rw [hV]; exact ((Below.refl _ _).alloc (by simp <;> omega) _)
      have X0_V : Hid (V.heap[w.heap.size]? = some (.cells #[.slice aW ws.length cW, .slice aP ps.length cP, .slice aS es.length cS, .slice aQ qs.length cQ] 42 (0, 0))) := by rw [hV]; exact (at_new rfl)
      go_enter Try.func15, Try.ntmps15
      go_upto_region 1 with fail
      rw [← hV]
      clear hV
      obtain ⟨c0_0, c0_1, c0_2, c0_3, -⟩ := four_cells X0_V.out
      go_wp2_with fail
      refine (LD.out V B_V.out).mono ?_
      rintro e w1 ⟨rfl, hb⟩
      clear c0_0 c0_1 c0_2 c0_3
      have zw1 : V.heap.size ≤ w1.heap.size := hb.size
      have B_w1 := hideIt (below_trans B_V.out hb B_V.out.size)
      have X0_w1 := hideIt (box_below X0_V.out hb (lt_box X0_V.out))
      clear B_V hb X0_V
      clear LD
      obtain ⟨-, c0_1, -, c0_3, -⟩ := four_cells X0_w1.out
      go_wp2
      go_ret
      exact ⟨rfl, B_w1.out⟩
    · have p' : ¬ (0 : Int) < (ps.length : Int) := by omega
      by_cases q : 0 < qs.length
      · have q' : (0 : Int) < (qs.length : Int) := by omega
        rw [if_pos (.inr q)]
        obtain ⟨V, hV⟩ : ∃ V, V = (w.alloc (.cells #[.slice aW ws.length cW, .slice aP ps.length cP, .slice aS es.length cS, .slice aQ qs.length cQ] 42)) := ⟨_, rfl⟩
        have zV : w.heap.size + 1 ≤ V.heap.size := by rw [hV]; simp <;> omega
        have B_V : Hid (Below w.heap.size w V) := by rw [hV]; exact ((Below.refl _ _).alloc (by simp <;> omega) _)
        have X0_V : Hid (V.heap[w.heap.size]? = some (.cells #[.slice aW ws.length cW, .slice aP ps.length cP, .slice aS es.length cS, .slice aQ qs.length cQ] 42 (0, 0))) := by rw [hV]; exact (at_new rfl)
        go_enter Try.func15, Try.ntmps15
        go_upto_region 1 with fail
        rw [← hV]
        clear hV
        obtain ⟨c0_0, c0_1, c0_2, c0_3, -⟩ := four_cells X0_V.out
        go_wp2_with fail
        refine (LD.out V B_V.out).mono ?_
        rintro e w1 ⟨rfl, hb⟩
        clear c0_0 c0_1 c0_2 c0_3
        have zw1 : V.heap.size ≤ w1.heap.size := hb.size
        have B_w1 := hideIt (below_trans B_V.out hb B_V.out.size)
        have X0_w1 := hideIt (box_below X0_V.out hb (lt_box X0_V.out))
        clear B_V hb X0_V
        clear LD
        obtain ⟨-, c0_1, -, c0_3, -⟩ := four_cells X0_w1.out
        go_wp2
        go_ret
        exact ⟨rfl, B_w1.out⟩
      · have q' : ¬ (0 : Int) < (qs.length : Int) := by omega
        rw [if_neg (by omega)]
        obtain ⟨V, hV⟩ : ∃ V, V = (w.alloc (.cells #[.slice aW ws.length cW, .slice aP ps.length cP, .slice aS es.length cS, .slice aQ qs.length cQ] 42)) := ⟨_, rfl⟩
        have zV : w.heap.size + 1 ≤ V.heap.size := by rw [hV]; simp <;> omega
        have B_V : Hid (Below w.heap.size w V) := by rw [hV]; exact ((Below.refl _ _).alloc (by simp <;> omega) _)
        have X0_V : Hid (V.heap[w.heap.size]? = some (.cells #[.slice aW ws.length cW, .slice aP ps.length cP, .slice aS es.length cS, .slice aQ qs.length cQ] 42 (0, 0))) := by rw [hV]; exact (at_new rfl)
        go_enter Try.func15, Try.ntmps15
        go_upto_region 1 with fail
        rw [← hV]
        clear hV
        obtain ⟨c0_0, c0_1, c0_2, c0_3, -⟩ := four_cells X0_V.out
        go_wp2_with fail
        refine (LD.out V B_V.out).mono ?_
        rintro e w1 ⟨rfl, hb⟩
        clear c0_0 c0_1 c0_2 c0_3
        have zw1 : V.heap.size ≤ w1.heap.size := hb.size
        have B_w1 := hideIt (below_trans B_V.out hb B_V.out.size)
        have X0_w1 := hideIt (box_below X0_V.out hb (lt_box X0_V.out))
        clear B_V hb X0_V
        clear LD
        obtain ⟨-, c0_1, -, c0_3, -⟩ := four_cells X0_w1.out
        go_wp2
        go_ret
        exact ⟨rfl, B_w1.out⟩
  · have y' : (pmB ws ps && blkB es qs) = false := by simpa using y
    rw [y'] at LD
    rw [if_neg y]
    clear y y'
    obtain ⟨V, hV⟩ : ∃ V, V = (w.alloc (.cells #[.slice aW ws.length cW, .slice aP ps.length cP, .slice aS es.length cS, .slice aQ qs.length cQ] 42)) := ⟨_, rfl⟩
    have zV : w.heap.size + 1 ≤ V.heap.size := by rw [hV]; simp <;> omega
    have B_V : Hid (Below w.heap.size w V) := by rw [hV]; exact ((Below.refl _ _).alloc (by simp <;> omega) _)
    have X0_V : Hid (V.heap[w.heap.size]? = some (.cells #[.slice aW ws.length cW, .slice aP ps.length cP, .slice aS es.length cS, .slice aQ qs.length cQ] 42 (0, 0))) := by rw [hV]; exact (at_new rfl)
    go_enter Try.func15, Try.ntmps15
    go_upto_region 1 with fail
    rw [← hV]
    clear hV
    obtain ⟨c0_0, c0_1, c0_2, c0_3, -⟩ := four_cells X0_V.out
    go_wp2_with fail
    refine (LD.out V B_V.out).mono ?_
    rintro e w1 ⟨rfl, hb⟩
    clear c0_0 c0_1 c0_2 c0_3
    have zw1 : V.heap.size ≤ w1.heap.size := hb.size
    have B_w1 := hideIt (below_trans B_V.out hb B_V.out.size)
    have X0_w1 := hideIt (box_below X0_V.out hb (lt_box X0_V.out))
    clear B_V hb X0_V
    clear LD
    go_wp2
    go_ret
    exact ⟨rfl, B_w1.out⟩
set_option maxRecDepth 100000 in
set_option maxHeartbeats 16000000 in
theorem specRecoverPlan_any (v : Value) (ws : List Int) (ps : List St) (es : List Int) (qs : List Se) (w : World) (h : RdDev w v ws ps es qs) (hws : ws.length ≤ 1048576) (hps : ps.length ≤ 1048576) (hes : es.length ≤ 1048576) (hqs : qs.length ≤ 1048576) :
    Calls Try.prog 5 #[v] w fun e w' => MiOut w w' e (rplR ws ps es qs) := by
  have LA := hideIt (fun w1 (hb : Below w.heap.size w w1) => l11Ask_any v ws ps es qs w1 (h.below hb) hws hps hes hqs)
  obtain ⟨aW, cW, aP, cP, aS, cS, aQ, cQ, rfl, r1, -⟩ := h.form
  have RP := hideIt (fun w1 (hb : Below w.heap.size w w1) => specReplayPlan_any _ ws ps w1 (r1.below hb) hws hps)
  clear h r1
  unfold rplR
  generalize akC ws ps es qs = ac at *
  by_cases z : ac = 0
  · subst z
    rw [if_pos rfl]
    generalize rpL ws ps = l at *
    generalize rpC ws ps = rc at *
    obtain ⟨V, hV⟩ : ∃ V, V = (w.alloc (.cells #[.slice aW ws.length cW, .slice aP ps.length cP, .slice aS es.length cS, .slice aQ qs.length cQ] 42)) := ⟨_, rfl⟩
    have zV : w.heap.size + 1 ≤ V.heap.size := by rw [hV]; simp <;> omega
    have B_V : Hid (Below w.heap.size w V) := by rw [hV]; exact ((Below.refl _ _).alloc (by simp <;> omega) _)
    have X0_V : Hid (V.heap[w.heap.size]? = some (.cells #[.slice aW ws.length cW, .slice aP ps.length cP, .slice aS es.length cS, .slice aQ qs.length cQ] 42 (0, 0))) := by rw [hV]; exact (at_new rfl)
    go_enter Try.func5, Try.ntmps5
    go_upto_region 1 with fail
    rw [← hV]
    clear hV
    obtain ⟨c0_0, c0_1, c0_2, c0_3, -⟩ := four_cells X0_V.out
    go_wp2_with fail
    refine (LA.out V B_V.out).mono ?_
    rintro e w1 ⟨rfl, hb⟩
    clear c0_0 c0_1 c0_2 c0_3
    have zw1 : V.heap.size ≤ w1.heap.size := hb.size
    have B_w1 := hideIt (below_trans B_V.out hb B_V.out.size)
    have X0_w1 := hideIt (box_below X0_V.out hb (lt_box X0_V.out))
    clear B_V hb X0_V
    clear LA
    obtain ⟨c0_0, c0_1, -, -, -⟩ := four_cells X0_w1.out
    go_wp2_with fail
    refine (RP.out w1 B_w1.out).mono ?_
    rintro e w2 ⟨v', rfl, hr, hb⟩
    clear c0_0 c0_1
    have zw2 : w1.heap.size ≤ w2.heap.size := hb.size
    have B_w2 := hideIt (below_trans B_w1.out hb B_w1.out.size)
    have X0_w2 := hideIt (box_below X0_w1.out hb (lt_box X0_w1.out))
    clear B_w1 hb X0_w1
    have QL_w2 : Hid (Row w2 58 3 w1.heap.size w2.heap.size _ l.length (mis l)) := hr
    clear hr RP
    go_wp2
    go_ret2
    exact ⟨_, rfl, QL_w2.out.wide (by omega) (Nat.le_refl _), B_w2.out⟩
  · rw [if_neg z]
    clear RP
    obtain ⟨V, hV⟩ : ∃ V, V = (w.alloc (.cells #[.slice aW ws.length cW, .slice aP ps.length cP, .slice aS es.length cS, .slice aQ qs.length cQ] 42)) := ⟨_, rfl⟩
    have zV : w.heap.size + 1 ≤ V.heap.size := by rw [hV]; simp <;> omega
    have B_V : Hid (Below w.heap.size w V) := by rw [hV]; exact ((Below.refl _ _).alloc (by simp <;> omega) _)
    have X0_V : Hid (V.heap[w.heap.size]? = some (.cells #[.slice aW ws.length cW, .slice aP ps.length cP, .slice aS es.length cS, .slice aQ qs.length cQ] 42 (0, 0))) := by rw [hV]; exact (at_new rfl)
    go_enter Try.func5, Try.ntmps5
    go_upto_region 1 with fail
    rw [← hV]
    clear hV
    obtain ⟨c0_0, c0_1, c0_2, c0_3, -⟩ := four_cells X0_V.out
    go_wp2_with fail
    refine (LA.out V B_V.out).mono ?_
    rintro e w1 ⟨rfl, hb⟩
    clear c0_0 c0_1 c0_2 c0_3
    have zw1 : V.heap.size ≤ w1.heap.size := hb.size
    have B_w1 := hideIt (below_trans B_V.out hb B_V.out.size)
    have X0_w1 := hideIt (box_below X0_V.out hb (lt_box X0_V.out))
    clear B_V hb X0_V
    clear LA
    have BE := hideIt ((B_w1.out).alloc B_w1.out.size (.cells #[] 58))
    have RE := hideIt (row_none w1 58 3)
    go_wp2
    go_ret2
    exact ⟨_, rfl, RE.out.wide (by omega) (by simp), BE.out⟩
end Go.Proofs.Ytlkmnpanddchdaa
