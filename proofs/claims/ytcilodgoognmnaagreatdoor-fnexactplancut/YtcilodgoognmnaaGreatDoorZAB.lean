/- Several texts laid together: IntS, Wd. -/
import Derived.Test.YtcilodgoognmnaaGreatDoorMem
import Derived.Deep.OwnRows
import Derived.Deep.QuietTactic
import Derived.BigQuiet
namespace Go.Proofs.YtcilodgoognmnaaGreatDoor
open Go.RowKit

theorem info3 : (Tryz.prog.info? 3).map (fun i => (i.zero, i.size, i.bytes)) = some (some (.int .i64 0), 1, 8) := by kernel_rfl

/-- n numbers, rising by one from k on. -/
def marks (k : Int) (n : Nat) : List Int := (List.range n).map (fun (i : Nat) => k + (i : Int))
theorem marks_len (k : Int) (n : Nat) : (marks k n).length = n := by simp [marks]
theorem ints_set (zs : List Int) (j : Nat) (x : Int) : (ints zs).set j (.int .i64 x) = ints (zs.set j x) := by simp [ints, List.map_set]
theorem ints_snoc (zs : List Int) (x : Int) : ints (zs ++ [x]) = ints zs ++ [.int .i64 x] := by simp [ints]
/-- One number, laid in a block of its own, as a slice of one. -/
theorem rd_int (w1 : World) (x : Int) : Rd (w1.alloc (.cells #[.int .i64 x] 3)) 1 (.slice (some ⟨w1.heap.size, 0, none⟩) 1 1) 1 [.int .i64 x] := by
  refine ⟨rfl, _, _, rfl, ⟨Nat.le_refl _, fun e => by cases e⟩, fun _ => ⟨w1.heap.size, 0, rfl, by simp, fun j hj => ?_⟩⟩
  have hj0 : j = 0 := by omega
  subst hj0
  have e := at_new (w := w1) (o := .cells #[.int .i64 x] 3) rfl
  simp only [World.cell?, Nat.add_zero]
  rw [e]
  rfl
end Go.Proofs.YtcilodgoognmnaaGreatDoor

namespace Go.Proofs.YtcilodgoognmnaaGreatDoor
open Go.RowKit

theorem l01In_yes (n lo hi : Int) (w : World) (h : lo ≤ n ∧ n ≤ hi) : Calls Tryz.prog 91 #[.int .i64 n, .int .i64 lo, .int .i64 hi] w fun e w' => e = .returned (.bool true) ∧ w' = w := by
  obtain ⟨h1, h2⟩ := h
  go_enter Tryz.func91, Tryz.ntmps91
  go_wp2
  go_ret
  exact ⟨rfl, rfl⟩

theorem l01In_no (n lo hi : Int) (w : World) (h : ¬ (lo ≤ n ∧ n ≤ hi)) : Calls Tryz.prog 91 #[.int .i64 n, .int .i64 lo, .int .i64 hi] w fun e w' => e = .returned (.bool false) ∧ w' = w := by
  rcases (show ¬ lo ≤ n ∨ (lo ≤ n ∧ ¬ n ≤ hi) by omega) with h1 | ⟨h1, h2⟩
  all_goals
    clear h
    go_enter Tryz.func91, Tryz.ntmps91
    go_wp2
    go_ret
    exact ⟨rfl, rfl⟩

theorem isIndex_yes (n hi : Int) (w : World) (h : 0 ≤ n ∧ n < hi) : Calls Tryz.prog 48 #[.int .i64 n, .int .i64 hi] w fun e w' => e = .returned (.bool true) ∧ w' = w := by
  obtain ⟨h1, h2⟩ := h
  go_enter Tryz.func48, Tryz.ntmps48
  go_wp2
  go_ret
  exact ⟨rfl, rfl⟩

theorem isIndex_no (n hi : Int) (w : World) (h : ¬ (0 ≤ n ∧ n < hi)) : Calls Tryz.prog 48 #[.int .i64 n, .int .i64 hi] w fun e w' => e = .returned (.bool false) ∧ w' = w := by
  rcases (show ¬ 0 ≤ n ∨ (0 ≤ n ∧ ¬ n < hi) by omega) with h1 | ⟨h1, h2⟩
  all_goals
    clear h
    go_enter Tryz.func48, Tryz.ntmps48
    go_wp2
    go_ret
    exact ⟨rfl, rfl⟩

/-- Where a field stands, and the code. -/
def inoV (i f : Int) : Int := if (0 ≤ i ∧ i < 16) ∧ 0 ≤ f ∧ f < 11 then 48 + 12 * i + f else 0
def inoC (i f : Int) : Int := if (0 ≤ i ∧ i < 16) ∧ 0 ≤ f ∧ f < 11 then 0 else 4
theorem ino_in {i f : Int} (h : 0 ≤ i ∧ i < 16) (k : 0 ≤ f ∧ f < 11) : inoV i f = 48 + 12 * i + f ∧ inoC i f = 0 := by unfold inoV inoC; rw [if_pos ⟨h, k⟩, if_pos ⟨h, k⟩]; exact ⟨rfl, rfl⟩
theorem ino_out {i f : Int} (h : ¬ ((0 ≤ i ∧ i < 16) ∧ 0 ≤ f ∧ f < 11)) : inoV i f = 0 ∧ inoC i f = 4 := by unfold inoV inoC; rw [if_neg h, if_neg h]; exact ⟨rfl, rfl⟩

theorem l03Inode_any (i f : Int) (w : World) (h : 0 ≤ i ∧ i < 16) (k : 0 ≤ f ∧ f < 11) : Calls Tryz.prog 110 #[.int .i64 i, .int .i64 f] w fun e w' => e = .returned (.int .i64 (48 + 12 * i + f)) ∧ w' = w := by
  go_enter Tryz.func110, Tryz.ntmps110
  go_wp2
  go_ret
  exact ⟨ret_int (by first | rfl | omega | (go_num; omega)), rfl⟩

theorem implInode_any (i f : Int) (w : World) : Calls Tryz.prog 213 #[.int .i64 i, .int .i64 f] w fun e w' => e = .returned (.tuple #[.int .i64 (inoV i f), .int .i64 (inoC i f)]) ∧ w' = w := by
  by_cases c1 : 0 ≤ i ∧ i < 16
  · by_cases c2 : 0 ≤ f ∧ f < 11
    · have c3 := c1.1
      have c4 := c1.2
      have E := hideIt (ino_in c1 c2)
      go_enter Tryz.func213, Tryz.ntmps213
      go_wp2_with (first | (go_at_call 48; refine (isIndex_yes _ _ _ (by omega)).mono ?_; rintro e w' ⟨rfl, rfl⟩) | (go_at_call 48; refine (isIndex_no _ _ _ (by omega)).mono ?_; rintro e w' ⟨rfl, rfl⟩))
      go_ret2
      exact ⟨ret_two (by rw [E.out.1]) E.out.2.symm, rfl⟩
    · have c3 : ¬ ((0 ≤ i ∧ i < 16) ∧ 0 ≤ f ∧ f < 11) := fun x => c2 x.2
      have E := hideIt (ino_out c3)
      go_enter Tryz.func213, Tryz.ntmps213
      go_wp2_with (first | (go_at_call 48; refine (isIndex_yes _ _ _ (by omega)).mono ?_; rintro e w' ⟨rfl, rfl⟩) | (go_at_call 48; refine (isIndex_no _ _ _ (by omega)).mono ?_; rintro e w' ⟨rfl, rfl⟩))
      go_ret2
      exact ⟨ret_two (by rw [E.out.1]) E.out.2.symm, rfl⟩
  · have c3 : ¬ ((0 ≤ i ∧ i < 16) ∧ 0 ≤ f ∧ f < 11) := fun x => c1 x.1
    have E := hideIt (ino_out c3)
    go_enter Tryz.func213, Tryz.ntmps213
    go_wp2_with (first | (go_at_call 48; refine (isIndex_yes _ _ _ (by omega)).mono ?_; rintro e w' ⟨rfl, rfl⟩) | (go_at_call 48; refine (isIndex_no _ _ _ (by omega)).mono ?_; rintro e w' ⟨rfl, rfl⟩))
    go_ret2
    exact ⟨ret_two (by rw [E.out.1]) E.out.2.symm, rfl⟩

end Go.Proofs.YtcilodgoognmnaaGreatDoor
