/- Where a page is: by the program, and by the model. -/
import Derived.Test.YtipklbnfobckaaaDoorZAK
namespace Go.Proofs.YtipklbnfobckaaaDoor
open Go.RowKit

/-- The variable that counts the addresses lies as the program's start has laid it. -/
def TS (w : World) : Prop := ∃ t fr, w.heap[1]? = some (.cells #[.int .i64 1, .int .i64 24, .int .i64 32] t fr)
theorem TS.lt {w : World} (h : TS w) : 1 < w.heap.size := by
  obtain ⟨t, fr, h⟩ := h
  exact (Array.getElem?_eq_some_iff.1 h).1
theorem TS.below {w w' : World} (h : TS w) (hb : Below w.heap.size w w') : TS w' := by
  have hl := h.lt
  obtain ⟨t, fr, h⟩ := h
  exact ⟨t, fr, (hb.block _ hl).trans h⟩
theorem TS.cells {w : World} (h : TS w) : w.cell? ⟨1, 0, none⟩ = some (.int .i64 1) ∧ w.cell? ⟨1, 1, none⟩ = some (.int .i64 24) ∧ w.cell? ⟨1, 2, none⟩ = some (.int .i64 32) := by
  obtain ⟨t, fr, h⟩ := h
  simp [World.cell?, h]

/-- A tier and an address of it. -/
def addrB (t a : Int) : Bool := decide ((t = 0 ∧ a = 0) ∨ (t = 1 ∧ 0 ≤ a ∧ a < 24) ∨ (t = 2 ∧ 0 ≤ a ∧ a < 32))
theorem addrB_not {t a : Int} (h : ¬ ((t = 0 ∧ a = 0) ∨ (t = 1 ∧ 0 ≤ a ∧ a < 24) ∨ (t = 2 ∧ 0 ≤ a ∧ a < 32))) : addrB t a = false := decide_eq_false h
theorem addrB_true {t a : Int} (h : addrB t a = true) : (t = 0 ∧ a = 0) ∨ (t = 1 ∧ 0 ≤ a ∧ a < 24) ∨ (t = 2 ∧ 0 ≤ a ∧ a < 32) := of_decide_eq_true h
/-- Of an entry: the tier, the address, the code. -/
def tieB (e : Int) : Bool := decide (0 ≤ e) && addrB (e % 4) (e / 4)
def tieT (e : Int) : Int := if tieB e = true then e % 4 else 0
def tieA (e : Int) : Int := if tieB e = true then e / 4 else 0
def tieC (e : Int) : Int := if tieB e = true then 0 else 3
theorem tie_in {e : Int} (h : tieB e = true) : tieT e = e % 4 ∧ tieA e = e / 4 ∧ tieC e = 0 := by unfold tieT tieA tieC; rw [if_pos h, if_pos h, if_pos h]; exact ⟨rfl, rfl, rfl⟩
theorem tie_out {e : Int} (h : tieB e = false) : tieT e = 0 ∧ tieA e = 0 ∧ tieC e = 3 := by unfold tieT tieA tieC; rw [h]; exact ⟨rfl, rfl, rfl⟩
theorem addrB_neg {n : Int} (h : n < 0) : addrB (n.tmod 4) (n.tdiv 4) = false := by
  apply addrB_not
  obtain ⟨m, rfl⟩ : ∃ m : Int, n = -m := ⟨-n, by omega⟩
  rw [Int.neg_tmod, Int.neg_tdiv, Int.tmod_eq_emod_of_nonneg (by omega), Int.tdiv_eq_ediv_of_nonneg (by omega)]
  omega
theorem ret_three {a b c d e f : Int} (h : a = b) (k : c = d) (l : e = f) : Ending.returned (.tuple #[.int .i64 a, .int .i64 c, .int .i64 e]) = .returned (.tuple #[.int .i64 b, .int .i64 d, .int .i64 f]) := by rw [h, k, l]

theorem isAddress_yes (t a : Int) (w : World) (hT : TS w) (h : addrB t a = true) : Calls Tryd.prog 59 #[.int .i64 t, .int .i64 a] w fun e w' => e = .returned (.bool true) ∧ w' = w := by
  obtain ⟨x0, x1, x2⟩ := hT.cells
  clear hT
  rcases addrB_true h with ⟨rfl, rfl⟩ | ⟨rfl, h1, h2⟩ | ⟨rfl, h1, h2⟩
  all_goals
    clear h
    go_enter Tryd.func59, Tryd.ntmps59
    go_wp2_with (go_at_call 49; refine (isIndex_yes _ _ _ (by omega)).mono ?_; rintro e w' ⟨rfl, rfl⟩)
    go_ret
    exact ⟨rfl, rfl⟩

theorem isAddress_no (t a : Int) (w : World) (hT : TS w) (h : addrB t a = false) : Calls Tryd.prog 59 #[.int .i64 t, .int .i64 a] w fun e w' => e = .returned (.bool false) ∧ w' = w := by
  obtain ⟨x0, x1, x2⟩ := hT.cells
  have h' : ¬ ((t = 0 ∧ a = 0) ∨ (t = 1 ∧ 0 ≤ a ∧ a < 24) ∨ (t = 2 ∧ 0 ≤ a ∧ a < 32)) := of_decide_eq_false h
  clear hT h
  rcases (show (t = 0 ∧ ¬ (0 ≤ a ∧ a < 1)) ∨ (t = 1 ∧ ¬ (0 ≤ a ∧ a < 24)) ∨ (t = 2 ∧ ¬ (0 ≤ a ∧ a < 32)) ∨ ¬ (0 ≤ t ∧ t < 3) by omega) with ⟨rfl, ha⟩ | ⟨rfl, ha⟩ | ⟨rfl, ha⟩ | ha
  all_goals
    have H := hideIt ha
    clear h' ha
    go_enter Tryd.func59, Tryd.ntmps59
    go_wp2_with (first | (go_at_call 49; refine (isIndex_yes _ _ _ (by omega)).mono ?_; rintro e w' ⟨rfl, rfl⟩) | (go_at_call 49; refine (isIndex_no _ _ _ H.out).mono ?_; rintro e w' ⟨rfl, rfl⟩))
    go_ret
    exact ⟨rfl, rfl⟩

theorem implTierOf_any (n : Int) (w : World) (hT : TS w) (h0 : -9223372036854775808 ≤ n) (h1 : n ≤ 9223372036854775807) : Calls Tryd.prog 58 #[.int .i64 n] w fun e w' => e = .returned (.tuple #[.int .i64 (tieT n), .int .i64 (tieA n), .int .i64 (tieC n)]) ∧ w' = w := by
  have T := hideIt hT
  clear hT
  by_cases c0 : 0 ≤ n
  · by_cases c : addrB (n % 4) (n / 4) = true
    · have E := hideIt (tie_in (e := n) (by unfold tieB; rw [c, decide_eq_true c0]; rfl))
      have C := hideIt c
      clear c
      go_enter Tryd.func58, Tryd.ntmps58
      go_wp2_with (go_at_call 59; refine (isAddress_yes _ _ _ T.out C.out).mono ?_; rintro e w' ⟨rfl, rfl⟩)
      go_ret3
      exact ⟨ret_three (by rw [E.out.1]) (by rw [E.out.2.1]) E.out.2.2.symm, rfl⟩
    · have c' : addrB (n % 4) (n / 4) = false := by simpa using c
      have E := hideIt (tie_out (e := n) (by unfold tieB; rw [c']; simp))
      have C := hideIt c'
      clear c c'
      go_enter Tryd.func58, Tryd.ntmps58
      go_wp2_with (go_at_call 59; refine (isAddress_no _ _ _ T.out C.out).mono ?_; rintro e w' ⟨rfl, rfl⟩)
      go_ret3
      exact ⟨ret_three E.out.1.symm E.out.2.1.symm E.out.2.2.symm, rfl⟩
  · have E := hideIt (tie_out (e := n) (by unfold tieB; rw [decide_eq_false c0]; rfl))
    go_enter Tryd.func58, Tryd.ntmps58
    go_wp2_with (go_at_call 59; refine (isAddress_no _ _ _ T.out (addrB_neg (by omega))).mono ?_; rintro e w' ⟨rfl, rfl⟩)
    go_ret3
    exact ⟨ret_three E.out.1.symm E.out.2.1.symm E.out.2.2.symm, rfl⟩

end Go.Proofs.YtipklbnfobckaaaDoor
