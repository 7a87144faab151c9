/- Where a page is: by the program, and by the model. -/
import Derived.Test.YtmeiionabonhnaaGreatDoorZAC
namespace Go.Proofs.YtmeiionabonhnaaGreatDoor
open Go.RowKit
def TS (w : World) : Prop := ∃ t fr, w.heap[6]? = some (.cells #[.int .i64 1, .int .i64 24, .int .i64 32] t fr)
theorem TS.lt {w : World} (h : TS w) : 6 < w.heap.size := by
  obtain ⟨t, fr, h⟩ := h
  exact (Array.getElem?_eq_some_iff.1 h).1
theorem TS.below {w w' : World} (h : TS w) (hb : Below w.heap.size w w') : TS w' := by
  have hl := h.lt
  obtain ⟨t, fr, h⟩ := h
  exact ⟨t, fr, (hb.block _ hl).trans h⟩
theorem TS.cells {w : World} (h : TS w) : w.cell? ⟨6, 0, none⟩ = some (.int .i64 1) ∧ w.cell? ⟨6, 1, none⟩ = some (.int .i64 24) ∧ w.cell? ⟨6, 2, none⟩ = some (.int .i64 32) := by
  obtain ⟨t, fr, h⟩ := h
  simp [World.cell?, h]
def addrB (t a : Int) : Bool := decide ((t = 0 ∧ a = 0) ∨ (t = 1 ∧ 0 ≤ a ∧ a < 24) ∨ (t = 2 ∧ 0 ≤ a ∧ a < 32))
theorem addrB_of {t a : Int} (h : (t = 0 ∧ a = 0) ∨ (t = 1 ∧ 0 ≤ a ∧ a < 24) ∨ (t = 2 ∧ 0 ≤ a ∧ a < 32)) : addrB t a = true := decide_eq_true h
theorem addrB_not {t a : Int} (h : ¬ ((t = 0 ∧ a = 0) ∨ (t = 1 ∧ 0 ≤ a ∧ a < 24) ∨ (t = 2 ∧ 0 ≤ a ∧ a < 32))) : addrB t a = false := decide_eq_false h
theorem addrB_true {t a : Int} (h : addrB t a = true) : (t = 0 ∧ a = 0) ∨ (t = 1 ∧ 0 ≤ a ∧ a < 24) ∨ (t = 2 ∧ 0 ≤ a ∧ a < 32) := of_decide_eq_true h
def tieB (e : Int) : Bool := decide (0 ≤ e) && addrB (e % 4) (e / 4)
def tieT (e : Int) : Int := if tieB e = true then e % 4 else 0
def tieA (e : Int) : Int := if tieB e = true then e / 4 else 0
def tieC (e : Int) : Int := if tieB e = true then 0 else 3
theorem tie_in {e : Int} (h : tieB e = true) : tieT e = e % 4 ∧ tieA e = e / 4 ∧ tieC e = 0 := by unfold tieT tieA tieC; rw [if_pos h, if_pos h, if_pos h]; exact ⟨rfl, rfl, rfl⟩
theorem tie_out {e : Int} (h : tieB e = false) : tieT e = 0 ∧ tieA e = 0 ∧ tieC e = 3 := by unfold tieT tieA tieC; rw [h]; exact ⟨rfl, rfl, rfl⟩
theorem addrB_neg {n : Int} (h : n < 0) : addrB (n.tmod 4) (n.tdiv 4) = false := by
  apply addrB_not
  obtain ⟨m, rfl⟩ : ∃ m : Int, n = -m := ⟨-n, by omega⟩
  rw [Int.neg_tmod, Int.neg_tdiv, Int.tmod_eq_emod_of_nonneg (by omega), Int.tdiv_eq_ediv_of_nonneg (by omega)]
  omega
theorem ret_three {a b c d e f : Int} (h : a = b) (k : c = d) (l : e = f) : Ending.returned (.tuple #[.int .i64 a, .int .i64 c, .int .i64 e]) = .returned (.tuple #[.int .i64 b, .int .i64 d, .int .i64 f]) := by rw [h, k, l]
theorem isAddress_yes (t a : Int) (w : World) (hT : TS w) (h : addrB t a = true) : Calls Tryz.prog 270 #[.int .i64 t, .int .i64 a] w fun e w' => e = .returned (.bool true) ∧ w' = w := by
  obtain ⟨x0, x1, x2⟩ := hT.cells
  clear hT
  rcases addrB_true h with ⟨rfl, rfl⟩ | ⟨rfl, h1, h2⟩ | ⟨rfl, h1, h2⟩
  all_goals
    clear h
    go_enter Tryz.func270, Tryz.ntmps270
    go_wp2_with (go_at_call 235; refine (isIndex_yes _ _ _ (by omega)).mono ?_; rintro e w' ⟨rfl, rfl⟩)
    go_ret
    exact ⟨rfl, rfl⟩
theorem isAddress_no (t a : Int) (w : World) (hT : TS w) (h : addrB t a = false) : Calls Tryz.prog 270 #[.int .i64 t, .int .i64 a] w fun e w' => e = .returned (.bool false) ∧ w' = w := by
  obtain ⟨x0, x1, x2⟩ := hT.cells
  have h' : ¬ ((t = 0 ∧ a = 0) ∨ (t = 1 ∧ 0 ≤ a ∧ a < 24) ∨ (t = 2 ∧ 0 ≤ a ∧ a < 32)) := of_decide_eq_false h
  clear hT h
  rcases (show (t = 0 ∧ ¬ (0 ≤ a ∧ a < 1)) ∨ (t = 1 ∧ ¬ (0 ≤ a ∧ a < 24)) ∨ (t = 2 ∧ ¬ (0 ≤ a ∧ a < 32)) ∨ ¬ (0 ≤ t ∧ t < 3) by omega) with ⟨rfl, ha⟩ | ⟨rfl, ha⟩ | ⟨rfl, ha⟩ | ha
  all_goals
    have H := hideIt ha
    clear h' ha
    go_enter Tryz.func270, Tryz.ntmps270
    go_wp2_with (first | (go_at_call 235; refine (isIndex_yes _ _ _ (by omega)).mono ?_; rintro e w' ⟨rfl, rfl⟩) | (go_at_call 235; refine (isIndex_no _ _ _ H.out).mono ?_; rintro e w' ⟨rfl, rfl⟩))
    go_ret
    exact ⟨rfl, rfl⟩
theorem implTierOf_any (n : Int) (w : World) (hT : TS w) (h0 : -9223372036854775808 ≤ n) (h1 : n ≤ 9223372036854775807) : Calls Tryz.prog 232 #[.int .i64 n] w fun e w' => e = .returned (.tuple #[.int .i64 (tieT n), .int .i64 (tieA n), .int .i64 (tieC n)]) ∧ w' = w := by
  have T := hideIt hT
  clear hT
  by_cases c0 : 0 ≤ n
  · by_cases c : addrB (n % 4) (n / 4) = true
    · have E := hideIt (tie_in (e := n) (by unfold tieB; rw [c, decide_eq_true c0]; rfl))
      have C := hideIt c
      clear c
      go_enter Tryz.func232, Tryz.ntmps232
      go_wp2_with (go_at_call 270; refine (isAddress_yes _ _ _ T.out C.out).mono ?_; rintro e w' ⟨rfl, rfl⟩)
      go_ret3
      exact ⟨ret_three (by rw [E.out.1]) (by rw [E.out.2.1]) E.out.2.2.symm, rfl⟩
    · have c' : addrB (n % 4) (n / 4) = false := by simpa using c
      have E := hideIt (tie_out (e := n) (by unfold tieB; rw [c']; simp))
      have C := hideIt c'
      clear c c'
      go_enter Tryz.func232, Tryz.ntmps232
      go_wp2_with (go_at_call 270; refine (isAddress_no _ _ _ T.out C.out).mono ?_; rintro e w' ⟨rfl, rfl⟩)
      go_ret3
      exact ⟨ret_three E.out.1.symm E.out.2.1.symm E.out.2.2.symm, rfl⟩
  · have E := hideIt (tie_out (e := n) (by unfold tieB; rw [decide_eq_false c0]; rfl))
    go_enter Tryz.func232, Tryz.ntmps232
    go_wp2_with (go_at_call 270; refine (isAddress_no _ _ _ T.out (addrB_neg (by omega))).mono ?_; rintro e w' ⟨rfl, rfl⟩)
    go_ret3
    exact ⟨ret_three E.out.1.symm E.out.2.1.symm E.out.2.2.symm, rfl⟩
theorem l03Tier_any (n : Int) (w : World) (h0 : 0 ≤ n) (h1 : n ≤ 9223372036854775807) : Calls Tryz.prog 205 #[.int .i64 n] w fun e w' => e = .returned (.tuple #[.int .i64 (n % 4), .int .i64 (n / 4)]) ∧ w' = w := by
  go_enter Tryz.func205, Tryz.ntmps205
  go_wp2
  go_ret2
  exact ⟨rfl, rfl⟩
theorem l03Tier_neg (n : Int) (w : World) (h0 : n < 0) (h1 : -9223372036854775808 ≤ n) : Calls Tryz.prog 205 #[.int .i64 n] w fun e w' => (∃ x y : Int, e = .returned (.tuple #[.int .i64 x, .int .i64 y])) ∧ w' = w := by
  go_enter Tryz.func205, Tryz.ntmps205
  go_wp2
  go_ret2
  exact ⟨⟨_, _, rfl⟩, rfl⟩
theorem l03EntryOK_any (n : Int) (w : World) (h0 : -9223372036854775808 ≤ n) (h1 : n ≤ 9223372036854775807) : Calls Tryz.prog 184 #[.int .i64 n] w fun e w' => e = .returned (.bool (tieB n)) ∧ w' = w := by
  rcases (show n < 0 ∨ n = 0 ∨ 0 < n by omega) with c | rfl | c
  · have E := hideIt (show tieB n = false by unfold tieB; rw [decide_eq_false (by omega)]; rfl)
    have q0 : (n == 0) = false := by rw [beq_eq_false_iff_ne]; omega
    have q1 : ¬ 0 < n := by omega
    go_enter Tryz.func184, Tryz.ntmps184
    go_wp2_with fail
    refine (l03Tier_neg _ _ c h0).mono ?_
    rintro e w' ⟨⟨x, y, rfl⟩, rfl⟩
    go_wp2
    go_ret
    exact ⟨ret_bool E.out.symm, rfl⟩
  · go_enter Tryz.func184, Tryz.ntmps184
    go_wp2
    go_ret
    exact ⟨ret_bool (by decide), rfl⟩
  · have q0 : (n == 0) = false := by rw [beq_eq_false_iff_ne]; omega
    have E := hideIt (show tieB n = addrB (n % 4) (n / 4) by unfold tieB; rw [decide_eq_true (by omega)]; rfl)
    rcases (show (n % 4 = 1 ∧ n / 4 < 24) ∨ (n % 4 = 1 ∧ ¬ n / 4 < 24) ∨ (n % 4 = 2 ∧ n / 4 < 32) ∨ (n % 4 = 2 ∧ ¬ n / 4 < 32) ∨ (¬ n % 4 = 1 ∧ ¬ n % 4 = 2) by omega) with ⟨r, q⟩ | ⟨r, q⟩ | ⟨r, q⟩ | ⟨r, q⟩ | ⟨r, q⟩
    · have A := hideIt (addrB_of (t := n % 4) (a := n / 4) (by omega))
      have r1 : (n % 4 == 1) = true := by rw [beq_iff_eq]; exact r
      clear r
      go_enter Tryz.func184, Tryz.ntmps184
      go_wp2_with fail
      refine (l03Tier_any _ _ (by omega) h1).mono ?_
      rintro e w' ⟨rfl, rfl⟩
      go_wp2
      go_ret
      exact ⟨ret_bool (by rw [E.out, A.out]; first | done | exact decide_eq_false (by omega)), rfl⟩
    · have A := hideIt (addrB_not (t := n % 4) (a := n / 4) (by omega))
      have r1 : (n % 4 == 1) = true := by rw [beq_iff_eq]; exact r
      have r2 : (n % 4 == 2) = false := by rw [beq_eq_false_iff_ne]; omega
      clear r
      go_enter Tryz.func184, Tryz.ntmps184
      go_wp2_with fail
      refine (l03Tier_any _ _ (by omega) h1).mono ?_
      rintro e w' ⟨rfl, rfl⟩
      go_wp2
      go_ret
      exact ⟨ret_bool (by rw [E.out, A.out]; first | done | exact decide_eq_false (by omega)), rfl⟩
    · have A := hideIt (addrB_of (t := n % 4) (a := n / 4) (by omega))
      have r1 : (n % 4 == 1) = false := by rw [beq_eq_false_iff_ne]; omega
      have r2 : (n % 4 == 2) = true := by rw [beq_iff_eq]; exact r
      clear r
      go_enter Tryz.func184, Tryz.ntmps184
      go_wp2_with fail
      refine (l03Tier_any _ _ (by omega) h1).mono ?_
      rintro e w' ⟨rfl, rfl⟩
      go_wp2
      go_ret
      exact ⟨ret_bool (by rw [E.out, A.out]; first | done | exact decide_eq_false (by omega)), rfl⟩
    · have A := hideIt (addrB_not (t := n % 4) (a := n / 4) (by omega))
      have r1 : (n % 4 == 1) = false := by rw [beq_eq_false_iff_ne]; omega
      have r2 : (n % 4 == 2) = true := by rw [beq_iff_eq]; exact r
      clear r
      go_enter Tryz.func184, Tryz.ntmps184
      go_wp2_with fail
      refine (l03Tier_any _ _ (by omega) h1).mono ?_
      rintro e w' ⟨rfl, rfl⟩
      go_wp2
      go_ret
      exact ⟨ret_bool (by rw [E.out, A.out]; first | done | exact decide_eq_false (by omega)), rfl⟩
    · have A := hideIt (addrB_not (t := n % 4) (a := n / 4) (by omega))
      have r1 : (n % 4 == 1) = false := by rw [beq_eq_false_iff_ne]; exact r
      have r2 : (n % 4 == 2) = false := by rw [beq_eq_false_iff_ne]; exact q
      clear r q
      go_enter Tryz.func184, Tryz.ntmps184
      go_wp2_with fail
      refine (l03Tier_any _ _ (by omega) h1).mono ?_
      rintro e w' ⟨rfl, rfl⟩
      go_wp2
      go_ret
      exact ⟨ret_bool (by rw [E.out, A.out]; first | done | exact decide_eq_false (by omega)), rfl⟩
end Go.Proofs.YtmeiionabonhnaaGreatDoor
