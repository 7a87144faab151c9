/- The places of inodes and of entries: by the program, and by the model. -/
import Derived.Test.YtfcjhhiekjbbiaaMem
namespace Go.Proofs.Ytfcjhhiekjbbiaa
open Go.RowKit

theorem l01In_yes (n lo hi : Int) (w : World) (h : lo ≤ n ∧ n ≤ hi) : Calls Try.prog 29 #[.int .i64 n, .int .i64 lo, .int .i64 hi] w fun e w' => e = .returned (.bool true) ∧ w' = w := by
  obtain ⟨h1, h2⟩ := h
  go_enter Try.func29, Try.ntmps29
  go_wp2
  go_ret
  exact ⟨rfl, rfl⟩

theorem l01In_no (n lo hi : Int) (w : World) (h : ¬ (lo ≤ n ∧ n ≤ hi)) : Calls Try.prog 29 #[.int .i64 n, .int .i64 lo, .int .i64 hi] w fun e w' => e = .returned (.bool false) ∧ w' = w := by
  rcases (show ¬ lo ≤ n ∨ (lo ≤ n ∧ ¬ n ≤ hi) by omega) with h1 | ⟨h1, h2⟩
  all_goals
    clear h
    go_enter Try.func29, Try.ntmps29
    go_wp2
    go_ret
    exact ⟨rfl, rfl⟩

theorem isIndex_yes (n hi : Int) (w : World) (h : 0 ≤ n ∧ n < hi) : Calls Try.prog 38 #[.int .i64 n, .int .i64 hi] w fun e w' => e = .returned (.bool true) ∧ w' = w := by
  obtain ⟨h1, h2⟩ := h
  go_enter Try.func38, Try.ntmps38
  go_wp2
  go_ret
  exact ⟨rfl, rfl⟩

theorem isIndex_no (n hi : Int) (w : World) (h : ¬ (0 ≤ n ∧ n < hi)) : Calls Try.prog 38 #[.int .i64 n, .int .i64 hi] w fun e w' => e = .returned (.bool false) ∧ w' = w := by
  rcases (show ¬ 0 ≤ n ∨ (0 ≤ n ∧ ¬ n < hi) by omega) with h1 | ⟨h1, h2⟩
  all_goals
    clear h
    go_enter Try.func38, Try.ntmps38
    go_wp2
    go_ret
    exact ⟨rfl, rfl⟩

end Go.Proofs.Ytfcjhhiekjbbiaa
