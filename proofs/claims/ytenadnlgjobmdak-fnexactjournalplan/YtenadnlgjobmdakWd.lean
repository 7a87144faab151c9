/- The places of inodes and of entries: by the program, and by the model. -/
import Derived.Test.YtenadnlgjobmdakMem
namespace Go.Proofs.Ytenadnlgjobmdak
open Go.RowKit

theorem l01In_yes (n lo hi : Int) (w : World) (h : lo ≤ n ∧ n ≤ hi) : Calls Try.prog 25 #[.int .i64 n, .int .i64 lo, .int .i64 hi] w fun e w' => e = .returned (.bool true) ∧ w' = w := by
  obtain ⟨h1, h2⟩ := h
  go_enter Try.func25, Try.ntmps25
  go_wp2
  go_ret
  exact ⟨rfl, rfl⟩

theorem l01In_no (n lo hi : Int) (w : World) (h : ¬ (lo ≤ n ∧ n ≤ hi)) : Calls Try.prog 25 #[.int .i64 n, .int .i64 lo, .int .i64 hi] w fun e w' => e = .returned (.bool false) ∧ w' = w := by
  rcases (show ¬ lo ≤ n ∨ (lo ≤ n ∧ ¬ n ≤ hi) by omega) with h1 | ⟨h1, h2⟩
  all_goals
    clear h
    go_enter Try.func25, Try.ntmps25
    go_wp2
    go_ret
    exact ⟨rfl, rfl⟩

theorem isIndex_yes (n hi : Int) (w : World) (h : 0 ≤ n ∧ n < hi) : Calls Try.prog 27 #[.int .i64 n, .int .i64 hi] w fun e w' => e = .returned (.bool true) ∧ w' = w := by
  obtain ⟨h1, h2⟩ := h
  go_enter Try.func27, Try.ntmps27
  go_wp2
  go_ret
  exact ⟨rfl, rfl⟩

theorem isIndex_no (n hi : Int) (w : World) (h : ¬ (0 ≤ n ∧ n < hi)) : Calls Try.prog 27 #[.int .i64 n, .int .i64 hi] w fun e w' => e = .returned (.bool false) ∧ w' = w := by
  rcases (show ¬ 0 ≤ n ∨ (0 ≤ n ∧ ¬ n < hi) by omega) with h1 | ⟨h1, h2⟩
  all_goals
    clear h
    go_enter Try.func27, Try.ntmps27
    go_wp2
    go_ret
    exact ⟨rfl, rfl⟩

/-- Where a field stands, and the code. -/
def inoV (i f : Int) : Int := if (0 ≤ i ∧ i < 16) ∧ 0 ≤ f ∧ f < 11 then 48 + 12 * i + f else 0
def inoC (i f : Int) : Int := if (0 ≤ i ∧ i < 16) ∧ 0 ≤ f ∧ f < 11 then 0 else 4
theorem ino_in {i f : Int} (h : 0 ≤ i ∧ i < 16) (k : 0 ≤ f ∧ f < 11) : inoV i f = 48 + 12 * i + f ∧ inoC i f = 0 := by unfold inoV inoC; rw [if_pos ⟨h, k⟩, if_pos ⟨h, k⟩]; exact ⟨rfl, rfl⟩
theorem ino_out {i f : Int} (h : ¬ ((0 ≤ i ∧ i < 16) ∧ 0 ≤ f ∧ f < 11)) : inoV i f = 0 ∧ inoC i f = 4 := by unfold inoV inoC; rw [if_neg h, if_neg h]; exact ⟨rfl, rfl⟩

theorem l03Inode_any (i f : Int) (w : World) (h : 0 ≤ i ∧ i < 16) (k : 0 ≤ f ∧ f < 11) : Calls Try.prog 26 #[.int .i64 i, .int .i64 f] w fun e w' => e = .returned (.int .i64 (48 + 12 * i + f)) ∧ w' = w := by
  go_enter Try.func26, Try.ntmps26
  go_wp2
  go_ret
  exact ⟨ret_int (by first | rfl | omega | (go_num; omega)), rfl⟩

theorem specInode_any (i f : Int) (w : World) : Calls Try.prog 7 #[.int .i64 i, .int .i64 f] w fun e w' => e = .returned (.tuple #[.int .i64 (inoV i f), .int .i64 (inoC i f)]) ∧ w' = w := by
  by_cases c1 : 0 ≤ i ∧ i < 16
  · by_cases c2 : 0 ≤ f ∧ f < 11
    · have c3 := c1.1
      have c4 := c1.2
      have E := hideIt (ino_in c1 c2)
      go_enter Try.func7, Try.ntmps7
      go_wp2_with (first | (go_at_call 25; refine (l01In_yes _ _ _ _ (by omega)).mono ?_; rintro e w' ⟨rfl, rfl⟩) | (go_at_call 25; refine (l01In_no _ _ _ _ (by omega)).mono ?_; rintro e w' ⟨rfl, rfl⟩) | (go_at_call 26; refine (l03Inode_any _ _ _ (by omega) (by omega)).mono ?_; rintro e w' ⟨rfl, rfl⟩))
      go_ret2
      exact ⟨ret_two (by rw [E.out.1]) E.out.2.symm, rfl⟩
    · have c3 : ¬ ((0 ≤ i ∧ i < 16) ∧ 0 ≤ f ∧ f < 11) := fun x => c2 x.2
      have E := hideIt (ino_out c3)
      go_enter Try.func7, Try.ntmps7
      go_wp2_with (first | (go_at_call 25; refine (l01In_yes _ _ _ _ (by omega)).mono ?_; rintro e w' ⟨rfl, rfl⟩) | (go_at_call 25; refine (l01In_no _ _ _ _ (by omega)).mono ?_; rintro e w' ⟨rfl, rfl⟩) | (go_at_call 26; refine (l03Inode_any _ _ _ (by omega) (by omega)).mono ?_; rintro e w' ⟨rfl, rfl⟩))
      go_ret2
      exact ⟨ret_two (by rw [E.out.1]) E.out.2.symm, rfl⟩
  · have c3 : ¬ ((0 ≤ i ∧ i < 16) ∧ 0 ≤ f ∧ f < 11) := fun x => c1 x.1
    have E := hideIt (ino_out c3)
    go_enter Try.func7, Try.ntmps7
    go_wp2_with (first | (go_at_call 25; refine (l01In_yes _ _ _ _ (by omega)).mono ?_; rintro e w' ⟨rfl, rfl⟩) | (go_at_call 25; refine (l01In_no _ _ _ _ (by omega)).mono ?_; rintro e w' ⟨rfl, rfl⟩) | (go_at_call 26; refine (l03Inode_any _ _ _ (by omega) (by omega)).mono ?_; rintro e w' ⟨rfl, rfl⟩))
    go_ret2
    exact ⟨ret_two (by rw [E.out.1]) E.out.2.symm, rfl⟩

theorem implInode_any (i f : Int) (w : World) : Calls Try.prog 8 #[.int .i64 i, .int .i64 f] w fun e w' => e = .returned (.tuple #[.int .i64 (inoV i f), .int .i64 (inoC i f)]) ∧ w' = w := by
  by_cases c1 : 0 ≤ i ∧ i < 16
  · by_cases c2 : 0 ≤ f ∧ f < 11
    · have c3 := c1.1
      have c4 := c1.2
      have E := hideIt (ino_in c1 c2)
      go_enter Try.func8, Try.ntmps8
      go_wp2_with (first | (go_at_call 27; refine (isIndex_yes _ _ _ (by omega)).mono ?_; rintro e w' ⟨rfl, rfl⟩) | (go_at_call 27; refine (isIndex_no _ _ _ (by omega)).mono ?_; rintro e w' ⟨rfl, rfl⟩))
      go_ret2
      exact ⟨ret_two (by rw [E.out.1]) E.out.2.symm, rfl⟩
    · have c3 : ¬ ((0 ≤ i ∧ i < 16) ∧ 0 ≤ f ∧ f < 11) := fun x => c2 x.2
      have E := hideIt (ino_out c3)
      go_enter Try.func8, Try.ntmps8
      go_wp2_with (first | (go_at_call 27; refine (isIndex_yes _ _ _ (by omega)).mono ?_; rintro e w' ⟨rfl, rfl⟩) | (go_at_call 27; refine (isIndex_no _ _ _ (by omega)).mono ?_; rintro e w' ⟨rfl, rfl⟩))
      go_ret2
      exact ⟨ret_two (by rw [E.out.1]) E.out.2.symm, rfl⟩
  · have c3 : ¬ ((0 ≤ i ∧ i < 16) ∧ 0 ≤ f ∧ f < 11) := fun x => c1 x.1
    have E := hideIt (ino_out c3)
    go_enter Try.func8, Try.ntmps8
    go_wp2_with (first | (go_at_call 27; refine (isIndex_yes _ _ _ (by omega)).mono ?_; rintro e w' ⟨rfl, rfl⟩) | (go_at_call 27; refine (isIndex_no _ _ _ (by omega)).mono ?_; rintro e w' ⟨rfl, rfl⟩))
    go_ret2
    exact ⟨ret_two (by rw [E.out.1]) E.out.2.symm, rfl⟩

theorem inodeWord_law (i f : Int) (w : World) : Calls Try.prog 3 #[.int .i64 i, .int .i64 f] w fun e w' => e = .returned (.bool true) ∧ Below w.heap.size w w' := by
  go_enter Try.func3, Try.ntmps3
  go_wp2_with (first | (go_at_call 7; refine (specInode_any _ _ _).mono ?_; rintro e w' ⟨rfl, rfl⟩) | (go_at_call 8; refine (implInode_any _ _ _).mono ?_; rintro e w' ⟨rfl, rfl⟩))
  go_ret
  exact ⟨rfl, Below.refl _ _⟩

/-- Where a field stands, and the code. -/
def denV (i f : Int) : Int := if (0 ≤ i ∧ i < 24) ∧ 0 ≤ f ∧ f < 3 then 240 + 3 * i + f else 0
def denC (i f : Int) : Int := if (0 ≤ i ∧ i < 24) ∧ 0 ≤ f ∧ f < 3 then 0 else 4
theorem den_in {i f : Int} (h : 0 ≤ i ∧ i < 24) (k : 0 ≤ f ∧ f < 3) : denV i f = 240 + 3 * i + f ∧ denC i f = 0 := by unfold denV denC; rw [if_pos ⟨h, k⟩, if_pos ⟨h, k⟩]; exact ⟨rfl, rfl⟩
theorem den_out {i f : Int} (h : ¬ ((0 ≤ i ∧ i < 24) ∧ 0 ≤ f ∧ f < 3)) : denV i f = 0 ∧ denC i f = 4 := by unfold denV denC; rw [if_neg h, if_neg h]; exact ⟨rfl, rfl⟩

theorem l03Dirent_any (i f : Int) (w : World) (h : 0 ≤ i ∧ i < 24) (k : 0 ≤ f ∧ f < 3) : Calls Try.prog 28 #[.int .i64 i, .int .i64 f] w fun e w' => e = .returned (.int .i64 (240 + 3 * i + f)) ∧ w' = w := by
  go_enter Try.func28, Try.ntmps28
  go_wp2
  go_ret
  exact ⟨ret_int (by first | rfl | omega | (go_num; omega)), rfl⟩

theorem specDirent_any (i f : Int) (w : World) : Calls Try.prog 9 #[.int .i64 i, .int .i64 f] w fun e w' => e = .returned (.tuple #[.int .i64 (denV i f), .int .i64 (denC i f)]) ∧ w' = w := by
  by_cases c1 : 0 ≤ i ∧ i < 24
  · by_cases c2 : 0 ≤ f ∧ f < 3
    · have c3 := c1.1
      have c4 := c1.2
      have E := hideIt (den_in c1 c2)
      go_enter Try.func9, Try.ntmps9
      go_wp2_with (first | (go_at_call 25; refine (l01In_yes _ _ _ _ (by omega)).mono ?_; rintro e w' ⟨rfl, rfl⟩) | (go_at_call 25; refine (l01In_no _ _ _ _ (by omega)).mono ?_; rintro e w' ⟨rfl, rfl⟩) | (go_at_call 28; refine (l03Dirent_any _ _ _ (by omega) (by omega)).mono ?_; rintro e w' ⟨rfl, rfl⟩))
      go_ret2
      exact ⟨ret_two (by rw [E.out.1]) E.out.2.symm, rfl⟩
    · have c3 : ¬ ((0 ≤ i ∧ i < 24) ∧ 0 ≤ f ∧ f < 3) := fun x => c2 x.2
      have E := hideIt (den_out c3)
      go_enter Try.func9, Try.ntmps9
      go_wp2_with (first | (go_at_call 25; refine (l01In_yes _ _ _ _ (by omega)).mono ?_; rintro e w' ⟨rfl, rfl⟩) | (go_at_call 25; refine (l01In_no _ _ _ _ (by omega)).mono ?_; rintro e w' ⟨rfl, rfl⟩) | (go_at_call 28; refine (l03Dirent_any _ _ _ (by omega) (by omega)).mono ?_; rintro e w' ⟨rfl, rfl⟩))
      go_ret2
      exact ⟨ret_two (by rw [E.out.1]) E.out.2.symm, rfl⟩
  · have c3 : ¬ ((0 ≤ i ∧ i < 24) ∧ 0 ≤ f ∧ f < 3) := fun x => c1 x.1
    have E := hideIt (den_out c3)
    go_enter Try.func9, Try.ntmps9
    go_wp2_with (first | (go_at_call 25; refine (l01In_yes _ _ _ _ (by omega)).mono ?_; rintro e w' ⟨rfl, rfl⟩) | (go_at_call 25; refine (l01In_no _ _ _ _ (by omega)).mono ?_; rintro e w' ⟨rfl, rfl⟩) | (go_at_call 28; refine (l03Dirent_any _ _ _ (by omega) (by omega)).mono ?_; rintro e w' ⟨rfl, rfl⟩))
    go_ret2
    exact ⟨ret_two (by rw [E.out.1]) E.out.2.symm, rfl⟩

theorem implDirent_any (i f : Int) (w : World) : Calls Try.prog 10 #[.int .i64 i, .int .i64 f] w fun e w' => e = .returned (.tuple #[.int .i64 (denV i f), .int .i64 (denC i f)]) ∧ w' = w := by
  by_cases c1 : 0 ≤ i ∧ i < 24
  · by_cases c2 : 0 ≤ f ∧ f < 3
    · have c3 := c1.1
      have c4 := c1.2
      have E := hideIt (den_in c1 c2)
      go_enter Try.func10, Try.ntmps10
      go_wp2_with (first | (go_at_call 27; refine (isIndex_yes _ _ _ (by omega)).mono ?_; rintro e w' ⟨rfl, rfl⟩) | (go_at_call 27; refine (isIndex_no _ _ _ (by omega)).mono ?_; rintro e w' ⟨rfl, rfl⟩))
      go_ret2
      exact ⟨ret_two (by rw [E.out.1]) E.out.2.symm, rfl⟩
    · have c3 : ¬ ((0 ≤ i ∧ i < 24) ∧ 0 ≤ f ∧ f < 3) := fun x => c2 x.2
      have E := hideIt (den_out c3)
      go_enter Try.func10, Try.ntmps10
      go_wp2_with (first | (go_at_call 27; refine (isIndex_yes _ _ _ (by omega)).mono ?_; rintro e w' ⟨rfl, rfl⟩) | (go_at_call 27; refine (isIndex_no _ _ _ (by omega)).mono ?_; rintro e w' ⟨rfl, rfl⟩))
      go_ret2
      exact ⟨ret_two (by rw [E.out.1]) E.out.2.symm, rfl⟩
  · have c3 : ¬ ((0 ≤ i ∧ i < 24) ∧ 0 ≤ f ∧ f < 3) := fun x => c1 x.1
    have E := hideIt (den_out c3)
    go_enter Try.func10, Try.ntmps10
    go_wp2_with (first | (go_at_call 27; refine (isIndex_yes _ _ _ (by omega)).mono ?_; rintro e w' ⟨rfl, rfl⟩) | (go_at_call 27; refine (isIndex_no _ _ _ (by omega)).mono ?_; rintro e w' ⟨rfl, rfl⟩))
    go_ret2
    exact ⟨ret_two (by rw [E.out.1]) E.out.2.symm, rfl⟩

theorem direntWord_law (i f : Int) (w : World) : Calls Try.prog 4 #[.int .i64 i, .int .i64 f] w fun e w' => e = .returned (.bool true) ∧ Below w.heap.size w w' := by
  go_enter Try.func4, Try.ntmps4
  go_wp2_with (first | (go_at_call 9; refine (specDirent_any _ _ _).mono ?_; rintro e w' ⟨rfl, rfl⟩) | (go_at_call 10; refine (implDirent_any _ _ _).mono ?_; rintro e w' ⟨rfl, rfl⟩))
  go_ret
  exact ⟨rfl, Below.refl _ _⟩

end Go.Proofs.Ytenadnlgjobmdak
