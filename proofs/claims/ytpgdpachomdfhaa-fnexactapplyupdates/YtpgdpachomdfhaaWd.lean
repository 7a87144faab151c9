/- The places of inodes and of entries: by the program, and by the model. -/
import Derived.Test.YtpgdpachomdfhaaMem
namespace Go.Proofs.Ytpgdpachomdfhaa
open Go.RowKit

theorem l01In_yes (n lo hi : Int) (w : World) (h : lo ≤ n ∧ n ≤ hi) : Calls Try.prog 35 #[.int .i64 n, .int .i64 lo, .int .i64 hi] w fun e w' => e = .returned (.bool true) ∧ w' = w := by
  obtain ⟨h1, h2⟩ := h
  go_enter Try.func35, Try.ntmps35
  go_wp2
  go_ret
  exact ⟨rfl, rfl⟩

theorem l01In_no (n lo hi : Int) (w : World) (h : ¬ (lo ≤ n ∧ n ≤ hi)) : Calls Try.prog 35 #[.int .i64 n, .int .i64 lo, .int .i64 hi] w fun e w' => e = .returned (.bool false) ∧ w' = w := by
  rcases (show ¬ lo ≤ n ∨ (lo ≤ n ∧ ¬ n ≤ hi) by omega) with h1 | ⟨h1, h2⟩
  all_goals
    clear h
    go_enter Try.func35, Try.ntmps35
    go_wp2
    go_ret
    exact ⟨rfl, rfl⟩

/-- Where a field stands, and the code. -/
def inoV (i f : Int) : Int := if (0 ≤ i ∧ i < 16) ∧ 0 ≤ f ∧ f < 11 then 48 + 12 * i + f else 0
def inoC (i f : Int) : Int := if (0 ≤ i ∧ i < 16) ∧ 0 ≤ f ∧ f < 11 then 0 else 4
theorem ino_in {i f : Int} (h : 0 ≤ i ∧ i < 16) (k : 0 ≤ f ∧ f < 11) : inoV i f = 48 + 12 * i + f ∧ inoC i f = 0 := by unfold inoV inoC; rw [if_pos ⟨h, k⟩, if_pos ⟨h, k⟩]; exact ⟨rfl, rfl⟩
theorem ino_out {i f : Int} (h : ¬ ((0 ≤ i ∧ i < 16) ∧ 0 ≤ f ∧ f < 11)) : inoV i f = 0 ∧ inoC i f = 4 := by unfold inoV inoC; rw [if_neg h, if_neg h]; exact ⟨rfl, rfl⟩

/-- Where a field stands, and the code. -/
def denV (i f : Int) : Int := if (0 ≤ i ∧ i < 24) ∧ 0 ≤ f ∧ f < 3 then 240 + 3 * i + f else 0
def denC (i f : Int) : Int := if (0 ≤ i ∧ i < 24) ∧ 0 ≤ f ∧ f < 3 then 0 else 4
theorem den_in {i f : Int} (h : 0 ≤ i ∧ i < 24) (k : 0 ≤ f ∧ f < 3) : denV i f = 240 + 3 * i + f ∧ denC i f = 0 := by unfold denV denC; rw [if_pos ⟨h, k⟩, if_pos ⟨h, k⟩]; exact ⟨rfl, rfl⟩
theorem den_out {i f : Int} (h : ¬ ((0 ≤ i ∧ i < 24) ∧ 0 ≤ f ∧ f < 3)) : denV i f = 0 ∧ denC i f = 4 := by unfold denV denC; rw [if_neg h, if_neg h]; exact ⟨rfl, rfl⟩

end Go.Proofs.Ytpgdpachomdfhaa
