/- Several texts laid together: IntS, Wd. -/
import Derived.Test.YtpgdpachomdfhaaGreatDoorMem
import Derived.Deep.OwnRows
import Derived.Deep.QuietTactic
import Derived.BigQuiet
namespace Go.Proofs.YtpgdpachomdfhaaGreatDoor
open Go.RowKit

theorem info3 : (Tryz.prog.info? 3).map (fun i => (i.zero, i.size, i.bytes)) = some (some (.int .i64 0), 1, 8) := by kernel_rfl

/-- A row that is as long as its block. -/
theorem row_of_rowIs {w : World} {g : Nat} {zs : List Int} {f : Nat → Value} {lo hi : Nat} (h : w.rowIs g 3 zs.length f) (hf : ∀ i (h : i < zs.length), f i = .int .i64 zs[i]) (h1 : lo ≤ g) (h2 : g < hi) (hm : zs.length ≤ maxLen) :
    Row w 3 1 lo hi (.slice (some ⟨g, 0, none⟩) zs.length zs.length) zs.length (ints zs) := by
  obtain ⟨c, hb, hn, hc⟩ := h
  refine ⟨⟨by simp [ints], .inr ⟨g, zs.length, c, rfl, h1, hb, Nat.le_refl _, hm, by omega, ?_⟩⟩, fun k hk => by cases hk; exact h2⟩
  apply List.ext_getElem?
  intro i
  by_cases hi : i < zs.length
  · rw [List.getElem?_take, if_pos (by omega), ints_at zs i hi, Array.getElem?_toList, hc i hi, hf i hi]
  · rw [List.getElem?_eq_none (by simp; omega), List.getElem?_eq_none (by simp [ints]; omega)]

/-- n numbers, rising by one from k on. -/
def marks (k : Int) (n : Nat) : List Int := (List.range n).map (fun (i : Nat) => k + (i : Int))
theorem marks_len (k : Int) (n : Nat) : (marks k n).length = n := by simp [marks]
theorem marks_at (k : Int) (n i : Nat) (h : i < (marks k n).length) : (marks k n)[i] = k + (i : Int) := by simp [marks]

theorem ints_set_at {zs : List Value} {j : Nat} {u : Value} {i : Nat} (hi : i < zs.length) : (zs.set j u)[i]? = if i = j then some u else zs[i]? := by
  by_cases e : i = j
  · subst e; simp [hi]
  · simp [e, show ¬ j = i from fun h => e h.symm]

/-- What is left when n is taken away, or -1. -/
def less (left : Int) (n : Nat) : Int := if left < n then -1 else left - n
theorem ints_one (zs : List Int) : ∀ u ∈ ints zs, u.oneCell' = true := ints_oneCell _ zs
theorem RdI.form {w : World} {v : Value} {zs : List Int} (h : RdI w v zs) {n : Nat} (hn : zs.length = n) : ∃ ao cap, v = .slice ao n cap := by
  obtain ⟨ao, cap, e, _⟩ := h.shape
  exact ⟨ao, cap, by rw [← hn]; exact e⟩
theorem ints_set (zs : List Int) (j : Nat) (x : Int) : (ints zs).set j (.int .i64 x) = ints (zs.set j x) := by simp [ints, List.map_set]
theorem ints_snoc (zs : List Int) (x : Int) : ints (zs ++ [x]) = ints zs ++ [.int .i64 x] := by simp [ints]
/-- One number, laid in a block of its own, as a slice of one. -/
theorem rd_int (w1 : World) (x : Int) : Rd (w1.alloc (.cells #[.int .i64 x] 3)) 1 (.slice (some ⟨w1.heap.size, 0, none⟩) 1 1) 1 [.int .i64 x] := by
  refine ⟨rfl, _, _, rfl, ⟨Nat.le_refl _, fun e => by cases e⟩, fun _ => ⟨w1.heap.size, 0, rfl, by simp, fun j hj => ?_⟩⟩
  have hj0 : j = 0 := by omega
  subst hj0
  have e := at_new (w := w1) (o := .cells #[.int .i64 x] 3) rfl
  simp only [World.cell?, Nat.add_zero]
  rw [e]
  rfl
theorem RdI_marks {w : World} {lo hi : Nat} {v : Value} {k : Int} {n : Nat} (h : Row w 3 1 lo hi v n (ints (marks k n))) : RdI w v (marks k n) := by
  unfold RdI
  rw [marks_len]
  exact h.rd
end Go.Proofs.YtpgdpachomdfhaaGreatDoor

namespace Go.Proofs.YtpgdpachomdfhaaGreatDoor
open Go.RowKit

theorem l01In_yes (n lo hi : Int) (w : World) (h : lo ≤ n ∧ n ≤ hi) : Calls Tryz.prog 25 #[.int .i64 n, .int .i64 lo, .int .i64 hi] w fun e w' => e = .returned (.bool true) ∧ w' = w := by
  obtain ⟨h1, h2⟩ := h
  go_enter Tryz.func25, Tryz.ntmps25
  go_wp2
  go_ret
  exact ⟨rfl, rfl⟩

theorem l01In_no (n lo hi : Int) (w : World) (h : ¬ (lo ≤ n ∧ n ≤ hi)) : Calls Tryz.prog 25 #[.int .i64 n, .int .i64 lo, .int .i64 hi] w fun e w' => e = .returned (.bool false) ∧ w' = w := by
  rcases (show ¬ lo ≤ n ∨ (lo ≤ n ∧ ¬ n ≤ hi) by omega) with h1 | ⟨h1, h2⟩
  all_goals
    clear h
    go_enter Tryz.func25, Tryz.ntmps25
    go_wp2
    go_ret
    exact ⟨rfl, rfl⟩

theorem isIndex_yes (n hi : Int) (w : World) (h : 0 ≤ n ∧ n < hi) : Calls Tryz.prog 81 #[.int .i64 n, .int .i64 hi] w fun e w' => e = .returned (.bool true) ∧ w' = w := by
  obtain ⟨h1, h2⟩ := h
  go_enter Tryz.func81, Tryz.ntmps81
  go_wp2
  go_ret
  exact ⟨rfl, rfl⟩

theorem isIndex_no (n hi : Int) (w : World) (h : ¬ (0 ≤ n ∧ n < hi)) : Calls Tryz.prog 81 #[.int .i64 n, .int .i64 hi] w fun e w' => e = .returned (.bool false) ∧ w' = w := by
  rcases (show ¬ 0 ≤ n ∨ (0 ≤ n ∧ ¬ n < hi) by omega) with h1 | ⟨h1, h2⟩
  all_goals
    clear h
    go_enter Tryz.func81, Tryz.ntmps81
    go_wp2
    go_ret
    exact ⟨rfl, rfl⟩

/-- Where a field stands, and the code. -/
def inoV (i f : Int) : Int := if (0 ≤ i ∧ i < 16) ∧ 0 ≤ f ∧ f < 11 then 48 + 12 * i + f else 0
def inoC (i f : Int) : Int := if (0 ≤ i ∧ i < 16) ∧ 0 ≤ f ∧ f < 11 then 0 else 4
theorem ino_in {i f : Int} (h : 0 ≤ i ∧ i < 16) (k : 0 ≤ f ∧ f < 11) : inoV i f = 48 + 12 * i + f ∧ inoC i f = 0 := by unfold inoV inoC; rw [if_pos ⟨h, k⟩, if_pos ⟨h, k⟩]; exact ⟨rfl, rfl⟩
theorem ino_out {i f : Int} (h : ¬ ((0 ≤ i ∧ i < 16) ∧ 0 ≤ f ∧ f < 11)) : inoV i f = 0 ∧ inoC i f = 4 := by unfold inoV inoC; rw [if_neg h, if_neg h]; exact ⟨rfl, rfl⟩

theorem l03Inode_any (i f : Int) (w : World) (h : 0 ≤ i ∧ i < 16) (k : 0 ≤ f ∧ f < 11) : Calls Tryz.prog 58 #[.int .i64 i, .int .i64 f] w fun e w' => e = .returned (.int .i64 (48 + 12 * i + f)) ∧ w' = w := by
  go_enter Tryz.func58, Tryz.ntmps58
  go_wp2
  go_ret
  exact ⟨ret_int (by first | rfl | omega | (go_num; omega)), rfl⟩

theorem implInode_any (i f : Int) (w : World) : Calls Tryz.prog 70 #[.int .i64 i, .int .i64 f] w fun e w' => e = .returned (.tuple #[.int .i64 (inoV i f), .int .i64 (inoC i f)]) ∧ w' = w := by
  by_cases c1 : 0 ≤ i ∧ i < 16
  · by_cases c2 : 0 ≤ f ∧ f < 11
    · have c3 := c1.1
      have c4 := c1.2
      have E := hideIt (ino_in c1 c2)
      go_enter Tryz.func70, Tryz.ntmps70
      go_wp2_with (first | (go_at_call 81; refine (isIndex_yes _ _ _ (by omega)).mono ?_; rintro e w' ⟨rfl, rfl⟩) | (go_at_call 81; refine (isIndex_no _ _ _ (by omega)).mono ?_; rintro e w' ⟨rfl, rfl⟩))
      go_ret2
      exact ⟨ret_two (by rw [E.out.1]) E.out.2.symm, rfl⟩
    · have c3 : ¬ ((0 ≤ i ∧ i < 16) ∧ 0 ≤ f ∧ f < 11) := fun x => c2 x.2
      have E := hideIt (ino_out c3)
      go_enter Tryz.func70, Tryz.ntmps70
      go_wp2_with (first | (go_at_call 81; refine (isIndex_yes _ _ _ (by omega)).mono ?_; rintro e w' ⟨rfl, rfl⟩) | (go_at_call 81; refine (isIndex_no _ _ _ (by omega)).mono ?_; rintro e w' ⟨rfl, rfl⟩))
      go_ret2
      exact ⟨ret_two (by rw [E.out.1]) E.out.2.symm, rfl⟩
  · have c3 : ¬ ((0 ≤ i ∧ i < 16) ∧ 0 ≤ f ∧ f < 11) := fun x => c1 x.1
    have E := hideIt (ino_out c3)
    go_enter Tryz.func70, Tryz.ntmps70
    go_wp2_with (first | (go_at_call 81; refine (isIndex_yes _ _ _ (by omega)).mono ?_; rintro e w' ⟨rfl, rfl⟩) | (go_at_call 81; refine (isIndex_no _ _ _ (by omega)).mono ?_; rintro e w' ⟨rfl, rfl⟩))
    go_ret2
    exact ⟨ret_two (by rw [E.out.1]) E.out.2.symm, rfl⟩

/-- Where a field stands, and the code. -/
def denV (i f : Int) : Int := if (0 ≤ i ∧ i < 24) ∧ 0 ≤ f ∧ f < 3 then 240 + 3 * i + f else 0
def denC (i f : Int) : Int := if (0 ≤ i ∧ i < 24) ∧ 0 ≤ f ∧ f < 3 then 0 else 4
theorem den_in {i f : Int} (h : 0 ≤ i ∧ i < 24) (k : 0 ≤ f ∧ f < 3) : denV i f = 240 + 3 * i + f ∧ denC i f = 0 := by unfold denV denC; rw [if_pos ⟨h, k⟩, if_pos ⟨h, k⟩]; exact ⟨rfl, rfl⟩
theorem den_out {i f : Int} (h : ¬ ((0 ≤ i ∧ i < 24) ∧ 0 ≤ f ∧ f < 3)) : denV i f = 0 ∧ denC i f = 4 := by unfold denV denC; rw [if_neg h, if_neg h]; exact ⟨rfl, rfl⟩

theorem l03Dirent_any (i f : Int) (w : World) (h : 0 ≤ i ∧ i < 24) (k : 0 ≤ f ∧ f < 3) : Calls Tryz.prog 90 #[.int .i64 i, .int .i64 f] w fun e w' => e = .returned (.int .i64 (240 + 3 * i + f)) ∧ w' = w := by
  go_enter Tryz.func90, Tryz.ntmps90
  go_wp2
  go_ret
  exact ⟨ret_int (by first | rfl | omega | (go_num; omega)), rfl⟩

theorem implDirent_any (i f : Int) (w : World) : Calls Tryz.prog 66 #[.int .i64 i, .int .i64 f] w fun e w' => e = .returned (.tuple #[.int .i64 (denV i f), .int .i64 (denC i f)]) ∧ w' = w := by
  by_cases c1 : 0 ≤ i ∧ i < 24
  · by_cases c2 : 0 ≤ f ∧ f < 3
    · have c3 := c1.1
      have c4 := c1.2
      have E := hideIt (den_in c1 c2)
      go_enter Tryz.func66, Tryz.ntmps66
      go_wp2_with (first | (go_at_call 81; refine (isIndex_yes _ _ _ (by omega)).mono ?_; rintro e w' ⟨rfl, rfl⟩) | (go_at_call 81; refine (isIndex_no _ _ _ (by omega)).mono ?_; rintro e w' ⟨rfl, rfl⟩))
      go_ret2
      exact ⟨ret_two (by rw [E.out.1]) E.out.2.symm, rfl⟩
    · have c3 : ¬ ((0 ≤ i ∧ i < 24) ∧ 0 ≤ f ∧ f < 3) := fun x => c2 x.2
      have E := hideIt (den_out c3)
      go_enter Tryz.func66, Tryz.ntmps66
      go_wp2_with (first | (go_at_call 81; refine (isIndex_yes _ _ _ (by omega)).mono ?_; rintro e w' ⟨rfl, rfl⟩) | (go_at_call 81; refine (isIndex_no _ _ _ (by omega)).mono ?_; rintro e w' ⟨rfl, rfl⟩))
      go_ret2
      exact ⟨ret_two (by rw [E.out.1]) E.out.2.symm, rfl⟩
  · have c3 : ¬ ((0 ≤ i ∧ i < 24) ∧ 0 ≤ f ∧ f < 3) := fun x => c1 x.1
    have E := hideIt (den_out c3)
    go_enter Tryz.func66, Tryz.ntmps66
    go_wp2_with (first | (go_at_call 81; refine (isIndex_yes _ _ _ (by omega)).mono ?_; rintro e w' ⟨rfl, rfl⟩) | (go_at_call 81; refine (isIndex_no _ _ _ (by omega)).mono ?_; rintro e w' ⟨rfl, rfl⟩))
    go_ret2
    exact ⟨ret_two (by rw [E.out.1]) E.out.2.symm, rfl⟩

end Go.Proofs.YtpgdpachomdfhaaGreatDoor
