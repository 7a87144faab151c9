/- Several texts laid together: IntS, Wd, ImA, ImE, Word, PiF. -/
import Derived.Test.YtkchiplcjlgflaaGreatDoorMem
import Derived.Deep.OwnRows
import Derived.Deep.QuietTactic
import Derived.BigQuiet
import Derived.Test.YtkchiplcjlgflaaGreatDoorNm
import Derived.Deep.RegionHeld3
import Derived.Laws.OwnMore
import Derived.Deep.RegionWith
import Derived.Deep.RegionLaw
import Derived.Laws.CopyRow
import Derived.Laws.CopyOwn
namespace Go.Proofs.YtkchiplcjlgflaaGreatDoor
open Go.RowKit
theorem info3 : (Tryz.prog.info? 3).map (fun i => (i.zero, i.size, i.bytes)) = some (some (.int .i64 0), 1, 8) := by kernel_rfl
theorem ints_snoc (zs : List Int) (x : Int) : ints (zs ++ [x]) = ints zs ++ [.int .i64 x] := by simp [ints]
theorem rd_int (w1 : World) (x : Int) : Rd (w1.alloc (.cells #[.int .i64 x] 3)) 1 (.slice (some ⟨w1.heap.size, 0, none⟩) 1 1) 1 [.int .i64 x] := by
  refine ⟨rfl, _, _, rfl, ⟨Nat.le_refl _, fun e => by cases e⟩, fun _ => ⟨w1.heap.size, 0, rfl, by simp, fun j hj => ?_⟩⟩
  have hj0 : j = 0 := by omega
  subst hj0
  have e := at_new (w := w1) (o := .cells #[.int .i64 x] 3) rfl
  simp only [World.cell?, Nat.add_zero]
  rw [e]
  rfl
end Go.Proofs.YtkchiplcjlgflaaGreatDoor

namespace Go.Proofs.YtkchiplcjlgflaaGreatDoor
open Go.RowKit
theorem isIndex_yes (n hi : Int) (w : World) (h : 0 ≤ n ∧ n < hi) : Calls Tryz.prog 38 #[.int .i64 n, .int .i64 hi] w fun e w' => e = .returned (.bool true) ∧ w' = w := by
  obtain ⟨h1, h2⟩ := h
  go_enter Tryz.func38, Tryz.ntmps38
  go_wp2
  go_ret
  exact ⟨rfl, rfl⟩
theorem isIndex_no (n hi : Int) (w : World) (h : ¬ (0 ≤ n ∧ n < hi)) : Calls Tryz.prog 38 #[.int .i64 n, .int .i64 hi] w fun e w' => e = .returned (.bool false) ∧ w' = w := by
  rcases (show ¬ 0 ≤ n ∨ (0 ≤ n ∧ ¬ n < hi) by omega) with h1 | ⟨h1, h2⟩
  all_goals
    clear h
    go_enter Tryz.func38, Tryz.ntmps38
    go_wp2
    go_ret
    exact ⟨rfl, rfl⟩
end Go.Proofs.YtkchiplcjlgflaaGreatDoor

namespace Go.Proofs.YtkchiplcjlgflaaGreatDoor
open Go.RowKit
theorem eight_at {w : World} {b : Nat} {t : TypeId} {xs : List Value} (h : w.heap[b]? = some (.cells xs.toArray t (0, 0))) (j : Nat) : w.cell? ⟨b, j, none⟩ = xs[j]? ∧ w.frozen? ⟨b, j, none⟩ = false := by
  simp [World.cell?, World.frozen?, h]
end Go.Proofs.YtkchiplcjlgflaaGreatDoor

namespace Go.Proofs.YtkchiplcjlgflaaGreatDoor
open Go.RowKit
theorem noBytes (s : ByteArray) : s.toList = [] ↔ s.size = 0 := by
  rw [ByteArray.toList_eq]
  obtain ⟨⟨x⟩⟩ := s
  show x = [] ↔ x.length = 0
  exact List.length_eq_zero_iff.symm
end Go.Proofs.YtkchiplcjlgflaaGreatDoor

namespace Go.Proofs.YtkchiplcjlgflaaGreatDoor
open Go.RowKit
def wordB (n : Int) : Bool := decide (0 ≤ n ∧ n < 1099511627776)
theorem wordB_true {n : Int} (h : wordB n = true) : 0 ≤ n ∧ n < 1099511627776 := of_decide_eq_true h
theorem isWord_any (n : Int) (w : World) : Calls Tryz.prog 40 #[.int .i64 n] w fun e w' => e = .returned (.bool (wordB n)) ∧ w' = w := by
  by_cases h0 : 0 ≤ n
  · by_cases h1 : n < 1099511627776
    · have e : wordB n = true := decide_eq_true ⟨h0, h1⟩
      rw [e]; clear e
      go_enter Tryz.func40, Tryz.ntmps40
      go_wp2
      go_ret
      exact ⟨rfl, rfl⟩
    · have e : wordB n = false := decide_eq_false (fun h => h1 h.2)
      rw [e]; clear e
      go_enter Tryz.func40, Tryz.ntmps40
      go_wp2
      go_ret
      exact ⟨rfl, rfl⟩
  · have e : wordB n = false := decide_eq_false (fun h => h0 h.1)
    rw [e]; clear e
    go_enter Tryz.func40, Tryz.ntmps40
    go_wp2
    go_ret
    exact ⟨rfl, rfl⟩
def inB (n lo hi : Int) : Bool := decide (lo ≤ n ∧ n ≤ hi)
theorem l01In_any (n lo hi : Int) (w : World) : Calls Tryz.prog 23 #[.int .i64 n, .int .i64 lo, .int .i64 hi] w fun e w' => e = .returned (.bool (inB n lo hi)) ∧ w' = w := by
  by_cases h0 : lo ≤ n
  · by_cases h1 : n ≤ hi
    · have e : inB n lo hi = true := decide_eq_true ⟨h0, h1⟩
      rw [e]; clear e
      go_enter Tryz.func23, Tryz.ntmps23
      go_wp2
      go_ret
      exact ⟨rfl, rfl⟩
    · have e : inB n lo hi = false := decide_eq_false (fun h => h1 h.2)
      rw [e]; clear e
      go_enter Tryz.func23, Tryz.ntmps23
      go_wp2
      go_ret
      exact ⟨rfl, rfl⟩
  · have e : inB n lo hi = false := decide_eq_false (fun h => h0 h.1)
    rw [e]; clear e
    go_enter Tryz.func23, Tryz.ntmps23
    go_wp2
    go_ret
    exact ⟨rfl, rfl⟩
theorem inB_word (n : Int) : inB n 0 1099511627775 = wordB n := by
  unfold inB wordB
  rw [decide_eq_decide]
  omega
theorem l01Word_any (n : Int) (w : World) : Calls Tryz.prog 15 #[.int .i64 n] w fun e w' => e = .returned (.bool (wordB n)) ∧ w' = w := by
  have E := hideIt (inB_word n)
  go_enter Tryz.func15, Tryz.ntmps15
  go_wp2_with fail
  refine (l01In_any n 0 1099511627775 _).mono ?_
  rw [E.out]
  rintro e w' ⟨rfl, rfl⟩
  go_wp2
  go_ret
  exact ⟨rfl, rfl⟩
end Go.Proofs.YtkchiplcjlgflaaGreatDoor

namespace Go.Proofs.YtkchiplcjlgflaaGreatDoor
open Go.RowKit
theorem packC_name (s : ByteArray) : (packC s == 0) = nmB s := by
  unfold packC
  cases h : nmB s with
  | true =>
    have := (of_decide_eq_true h : 1 ≤ s.size ∧ s.size ≤ 6 ∧ _)
    rw [if_neg (by omega), if_pos rfl]; rfl
  | false =>
    split
    · rfl
    · rw [if_neg (by decide)]; rfl
theorem isShortName_any (s : ByteArray) (w : World) (hs : s.size ≤ maxLen) : Calls Tryz.prog 52 #[.string s] w fun e w' => e = .returned (.bool (nmB s)) ∧ Below w.heap.size w w' := by
  have P := hideIt (packC_name s)
  have LP := hideIt (fun w1 => implPackName_any s w1 hs)
  generalize packV s = pv at *
  generalize packC s = pc at *
  clear hs
  go_enter Tryz.func52, Tryz.ntmps52
  go_wp2_with fail
  refine (LP.out _).mono ?_
  rintro e w1 ⟨rfl, hb1⟩
  go_wp2
  go_ret
  exact ⟨ret_bool P.out, hb1⟩
end Go.Proofs.YtkchiplcjlgflaaGreatDoor
