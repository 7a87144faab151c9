/- Operations that are right: by the model. -/
import Derived.Test.YtjkdmhdehihcbaaGreatDoorZAD
namespace Go.Proofs.YtjkdmhdehihcbaaGreatDoor
open Go.RowKit
def opB (k : Int) (p t : ByteArray) (g x : Int) : Bool := decide ((1 ≤ k ∧ k ≤ 10) ∧ p.size ≤ 65536 ∧ t.size ≤ 65536 ∧ (k = 4 ∨ k = 5 ∨ t.size = 0) ∧ (k = 6 ∨ x = 0) ∧ ((6 ≤ k ∧ k ≤ 8) ∨ g = 0))
set_option maxRecDepth 100000 in
set_option maxHeartbeats 4000000 in
theorem specOpOK_any (k : Int) (p t : ByteArray) (g x : Int) (w : World) :
    Calls Tryz.prog 25 #[.agg #[.int .i64 k, .string p, .string t, .int .i64 g, .int .i64 x]] w fun e w' => e = .returned (.bool (opB k p t g x)) ∧ Below w.heap.size w w' := by
  have BW := hideIt ((Below.refl w.heap.size w).alloc (Nat.le_refl _) (.cells #[.int .i64 k, .string p, .string t, .int .i64 g, .int .i64 x] 24))
  have ET := hideIt (noBytes t)
  have NO := hideIt (fun h => show opB k p t g x = false from decide_eq_false h)
  have YES := hideIt (fun h => show opB k p t g x = true from decide_eq_true h)
  obtain ⟨W, hW⟩ : ∃ W, W = w.alloc (.cells #[.int .i64 k, .string p, .string t, .int .i64 g, .int .i64 x] 24) := ⟨_, rfl⟩
  rw [← hW] at BW
  have CB : Hid (W.heap[w.heap.size]? = some (.cells #[.int .i64 k, .string p, .string t, .int .i64 g, .int .i64 x] 24 (0, 0))) := by rw [hW]; exact at_new rfl
  have x0 : W.cell? ⟨w.heap.size, 0, none⟩ = some (.int .i64 k) := by rw [hW]; simp [go_sem]
  have x1 : W.cell? ⟨w.heap.size, 1, none⟩ = some (.string p) := by rw [hW]; simp [go_sem]
  have x2 : W.cell? ⟨w.heap.size, 2, none⟩ = some (.string t) := by rw [hW]; simp [go_sem]
  have x3 : W.cell? ⟨w.heap.size, 3, none⟩ = some (.int .i64 g) := by rw [hW]; simp [go_sem]
  have x4 : W.cell? ⟨w.heap.size, 4, none⟩ = some (.int .i64 x) := by rw [hW]; simp [go_sem]
  clear CB
  by_cases c1 : 1 ≤ k ∧ k ≤ 10
  case neg =>
    rw [NO.out (fun h => c1 h.1)]
    go_enter Tryz.func25, Tryz.ntmps25
    go_wp2_with fail
    rw [← hW]
    clear hW
    refine (l01In_no _ _ _ _ c1).mono ?_
    rintro e w' ⟨rfl, hw'⟩
    subst w'
    go_wp2
    go_ret
    exact ⟨rfl, BW.out⟩
  by_cases c2 : (65536 : Int) < (p.size : Int)
  case pos =>
    rw [NO.out (fun h => by have := h.2.1; omega)]
    go_enter Tryz.func25, Tryz.ntmps25
    go_wp2_with fail
    rw [← hW]
    clear hW
    refine (l01In_yes _ _ _ _ c1).mono ?_
    rintro e w' ⟨rfl, hw'⟩
    subst w'
    go_wp2
    go_ret
    exact ⟨rfl, BW.out⟩
  by_cases c3 : (65536 : Int) < (t.size : Int)
  case pos =>
    rw [NO.out (fun h => by have := h.2.2.1; omega)]
    go_enter Tryz.func25, Tryz.ntmps25
    go_wp2_with fail
    rw [← hW]
    clear hW
    refine (l01In_yes _ _ _ _ c1).mono ?_
    rintro e w' ⟨rfl, hw'⟩
    subst w'
    go_wp2
    go_ret
    exact ⟨rfl, BW.out⟩
  by_cases d4 : k = 4
  case pos =>
    subst d4
    by_cases c8 : x = 0
    case neg =>
      rw [NO.out (fun h => by have := h.2.2.2.2.1; omega)]
      have q8 : (x != 0) = true := by rw [bne_iff_ne]; exact c8
      go_enter Tryz.func25, Tryz.ntmps25
      go_wp2_with fail
      rw [← hW]
      clear hW
      refine (l01In_yes _ _ _ _ c1).mono ?_
      rintro e w' ⟨rfl, hw'⟩
      subst w'
      go_wp2
      go_ret
      exact ⟨rfl, BW.out⟩
    subst c8
    by_cases c9 : g = 0
    · rw [YES.out ⟨by omega, by omega, by omega, by omega, by omega, by omega⟩]
      subst c9
      go_enter Tryz.func25, Tryz.ntmps25
      go_wp2_with fail
      rw [← hW]
      clear hW
      refine (l01In_yes _ _ _ _ c1).mono ?_
      rintro e w' ⟨rfl, hw'⟩
      subst w'
      go_wp2_with fail
      refine (l01In_no _ _ _ _ (by omega)).mono ?_
      rintro e w' ⟨rfl, hw'⟩
      subst w'
      go_wp2
      go_ret
      exact ⟨rfl, BW.out⟩
    · rw [NO.out (fun h => by have := h.2.2.2.2.2; omega)]
      have q9 : (g == 0) = false := by rw [beq_eq_false_iff_ne]; exact c9
      go_enter Tryz.func25, Tryz.ntmps25
      go_wp2_with fail
      rw [← hW]
      clear hW
      refine (l01In_yes _ _ _ _ c1).mono ?_
      rintro e w' ⟨rfl, hw'⟩
      subst w'
      go_wp2_with fail
      refine (l01In_no _ _ _ _ (by omega)).mono ?_
      rintro e w' ⟨rfl, hw'⟩
      subst w'
      go_wp2
      go_ret
      exact ⟨rfl, BW.out⟩
  by_cases d5 : k = 5
  case pos =>
    subst d5
    by_cases c8 : x = 0
    case neg =>
      rw [NO.out (fun h => by have := h.2.2.2.2.1; omega)]
      have q8 : (x != 0) = true := by rw [bne_iff_ne]; exact c8
      go_enter Tryz.func25, Tryz.ntmps25
      go_wp2_with fail
      rw [← hW]
      clear hW
      refine (l01In_yes _ _ _ _ c1).mono ?_
      rintro e w' ⟨rfl, hw'⟩
      subst w'
      go_wp2
      go_ret
      exact ⟨rfl, BW.out⟩
    subst c8
    by_cases c9 : g = 0
    · rw [YES.out ⟨by omega, by omega, by omega, by omega, by omega, by omega⟩]
      subst c9
      go_enter Tryz.func25, Tryz.ntmps25
      go_wp2_with fail
      rw [← hW]
      clear hW
      refine (l01In_yes _ _ _ _ c1).mono ?_
      rintro e w' ⟨rfl, hw'⟩
      subst w'
      go_wp2_with fail
      refine (l01In_no _ _ _ _ (by omega)).mono ?_
      rintro e w' ⟨rfl, hw'⟩
      subst w'
      go_wp2
      go_ret
      exact ⟨rfl, BW.out⟩
    · rw [NO.out (fun h => by have := h.2.2.2.2.2; omega)]
      have q9 : (g == 0) = false := by rw [beq_eq_false_iff_ne]; exact c9
      go_enter Tryz.func25, Tryz.ntmps25
      go_wp2_with fail
      rw [← hW]
      clear hW
      refine (l01In_yes _ _ _ _ c1).mono ?_
      rintro e w' ⟨rfl, hw'⟩
      subst w'
      go_wp2_with fail
      refine (l01In_no _ _ _ _ (by omega)).mono ?_
      rintro e w' ⟨rfl, hw'⟩
      subst w'
      go_wp2
      go_ret
      exact ⟨rfl, BW.out⟩
  have q4 : (k != 4) = true := by rw [bne_iff_ne]; exact d4
  have q5 : (k != 5) = true := by rw [bne_iff_ne]; exact d5
  by_cases c6 : t.toList = []
  case neg =>
    rw [NO.out (fun h => by rcases h.2.2.2.1 with a | a | a; exact d4 a; exact d5 a; exact c6 (ET.out.2 a))]
    have qe : t.toList.isEmpty = false := by rw [List.isEmpty_eq_false_iff]; exact c6
    go_enter Tryz.func25, Tryz.ntmps25
    go_wp2_with fail
    rw [← hW]
    clear hW
    refine (l01In_yes _ _ _ _ c1).mono ?_
    rintro e w' ⟨rfl, hw'⟩
    subst w'
    go_wp2
    go_ret
    exact ⟨rfl, BW.out⟩
  have t0 := ET.out.1 c6
  by_cases d6 : k = 6
  case pos =>
    subst d6
    rw [YES.out ⟨by omega, by omega, by omega, by omega, by omega, by omega⟩]
    go_enter Tryz.func25, Tryz.ntmps25
    go_wp2_with fail
    rw [← hW]
    clear hW
    refine (l01In_yes _ _ _ _ c1).mono ?_
    rintro e w' ⟨rfl, hw'⟩
    subst w'
    go_wp2_with fail
    refine (l01In_yes _ _ _ _ (by omega)).mono ?_
    rintro e w' ⟨rfl, hw'⟩
    subst w'
    go_wp2
    go_ret
    exact ⟨rfl, BW.out⟩
  have q6 : (k != 6) = true := by rw [bne_iff_ne]; exact d6
  by_cases c8 : x = 0
  case neg =>
    rw [NO.out (fun h => by have := h.2.2.2.2.1; omega)]
    have q8 : (x != 0) = true := by rw [bne_iff_ne]; exact c8
    go_enter Tryz.func25, Tryz.ntmps25
    go_wp2_with fail
    rw [← hW]
    clear hW
    refine (l01In_yes _ _ _ _ c1).mono ?_
    rintro e w' ⟨rfl, hw'⟩
    subst w'
    go_wp2
    go_ret
    exact ⟨rfl, BW.out⟩
  subst c8
  by_cases d7 : 6 ≤ k ∧ k ≤ 8
  case pos =>
    rw [YES.out ⟨by omega, by omega, by omega, by omega, by omega, by omega⟩]
    go_enter Tryz.func25, Tryz.ntmps25
    go_wp2_with fail
    rw [← hW]
    clear hW
    refine (l01In_yes _ _ _ _ c1).mono ?_
    rintro e w' ⟨rfl, hw'⟩
    subst w'
    go_wp2_with fail
    refine (l01In_yes _ _ _ _ (by omega)).mono ?_
    rintro e w' ⟨rfl, hw'⟩
    subst w'
    go_wp2
    go_ret
    exact ⟨rfl, BW.out⟩
  by_cases c9 : g = 0
  · rw [YES.out ⟨by omega, by omega, by omega, by omega, by omega, by omega⟩]
    subst c9
    go_enter Tryz.func25, Tryz.ntmps25
    go_wp2_with fail
    rw [← hW]
    clear hW
    refine (l01In_yes _ _ _ _ c1).mono ?_
    rintro e w' ⟨rfl, hw'⟩
    subst w'
    go_wp2_with fail
    refine (l01In_no _ _ _ _ (by omega)).mono ?_
    rintro e w' ⟨rfl, hw'⟩
    subst w'
    go_wp2
    go_ret
    exact ⟨rfl, BW.out⟩
  · rw [NO.out (fun h => by have := h.2.2.2.2.2; omega)]
    have q9 : (g == 0) = false := by rw [beq_eq_false_iff_ne]; exact c9
    go_enter Tryz.func25, Tryz.ntmps25
    go_wp2_with fail
    rw [← hW]
    clear hW
    refine (l01In_yes _ _ _ _ c1).mono ?_
    rintro e w' ⟨rfl, hw'⟩
    subst w'
    go_wp2_with fail
    refine (l01In_no _ _ _ _ (by omega)).mono ?_
    rintro e w' ⟨rfl, hw'⟩
    subst w'
    go_wp2
    go_ret
    exact ⟨rfl, BW.out⟩
end Go.Proofs.YtjkdmhdehihcbaaGreatDoor
