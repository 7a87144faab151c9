/- Words and places: by the program, and by the model. -/
import Derived.Test.YtbjcoeimcdodjaaDoorIntS
namespace Go.Proofs.YtbjcoeimcdodjaaDoor
open Go.RowKit
def wordB (n : Int) : Bool := decide (0 ≤ n ∧ n < 1099511627776)
def secB (n : Int) : Bool := decide (0 ≤ n ∧ n < 32)
theorem secB_true {n : Int} (h : secB n = true) : 0 ≤ n ∧ n < 32 := of_decide_eq_true h
theorem isWord_any (n : Int) (w : World) : Calls Tryd.prog 31 #[.int .i64 n] w fun e w' => e = .returned (.bool (wordB n)) ∧ w' = w := by
  by_cases h0 : 0 ≤ n
  · by_cases h1 : n < 1099511627776
    · have e : wordB n = true := decide_eq_true ⟨h0, h1⟩
      rw [e]; clear e
      go_enter Tryd.func31, Tryd.ntmps31
      go_wp2
      go_ret
      exact ⟨rfl, rfl⟩
    · have e : wordB n = false := decide_eq_false (fun h => h1 h.2)
      rw [e]; clear e
      go_enter Tryd.func31, Tryd.ntmps31
      go_wp2
      go_ret
      exact ⟨rfl, rfl⟩
  · have e : wordB n = false := decide_eq_false (fun h => h0 h.1)
    rw [e]; clear e
    go_enter Tryd.func31, Tryd.ntmps31
    go_wp2
    go_ret
    exact ⟨rfl, rfl⟩
theorem isSector_any (n : Int) (w : World) : Calls Tryd.prog 55 #[.int .i64 n] w fun e w' => e = .returned (.bool (secB n)) ∧ w' = w := by
  by_cases h0 : 0 ≤ n
  · by_cases h1 : n < 32
    · have e : secB n = true := decide_eq_true ⟨h0, h1⟩
      rw [e]; clear e
      go_enter Tryd.func55, Tryd.ntmps55
      go_wp2
      go_ret
      exact ⟨rfl, rfl⟩
    · have e : secB n = false := decide_eq_false (fun h => h1 h.2)
      rw [e]; clear e
      go_enter Tryd.func55, Tryd.ntmps55
      go_wp2
      go_ret
      exact ⟨rfl, rfl⟩
  · have e : secB n = false := decide_eq_false (fun h => h0 h.1)
    rw [e]; clear e
    go_enter Tryd.func55, Tryd.ntmps55
    go_wp2
    go_ret
    exact ⟨rfl, rfl⟩
def inB (n lo hi : Int) : Bool := decide (lo ≤ n ∧ n ≤ hi)
theorem l01In_any (n lo hi : Int) (w : World) : Calls Tryd.prog 59 #[.int .i64 n, .int .i64 lo, .int .i64 hi] w fun e w' => e = .returned (.bool (inB n lo hi)) ∧ w' = w := by
  by_cases h0 : lo ≤ n
  · by_cases h1 : n ≤ hi
    · have e : inB n lo hi = true := decide_eq_true ⟨h0, h1⟩
      rw [e]; clear e
      go_enter Tryd.func59, Tryd.ntmps59
      go_wp2
      go_ret
      exact ⟨rfl, rfl⟩
    · have e : inB n lo hi = false := decide_eq_false (fun h => h1 h.2)
      rw [e]; clear e
      go_enter Tryd.func59, Tryd.ntmps59
      go_wp2
      go_ret
      exact ⟨rfl, rfl⟩
  · have e : inB n lo hi = false := decide_eq_false (fun h => h0 h.1)
    rw [e]; clear e
    go_enter Tryd.func59, Tryd.ntmps59
    go_wp2
    go_ret
    exact ⟨rfl, rfl⟩
theorem inB_word (n : Int) : inB n 0 1099511627775 = wordB n := by
  unfold inB wordB
  rw [decide_eq_decide]
  omega
theorem inB_sec (n : Int) : inB n 0 31 = secB n := by
  unfold inB secB
  rw [decide_eq_decide]
  omega
theorem l01InSec_any (n : Int) (w : World) : Calls Tryd.prog 59 #[.int .i64 n, .int .i64 0, .int .i64 31] w fun e w' => e = .returned (.bool (secB n)) ∧ w' = w := by
  rw [← inB_sec]
  exact l01In_any n 0 31 w
theorem l01Word_any (n : Int) (w : World) : Calls Tryd.prog 58 #[.int .i64 n] w fun e w' => e = .returned (.bool (wordB n)) ∧ w' = w := by
  have E := hideIt (inB_word n)
  go_enter Tryd.func58, Tryd.ntmps58
  go_wp2_with fail
  refine (l01In_any n 0 1099511627775 _).mono ?_
  rw [E.out]
  rintro e w' ⟨rfl, rfl⟩
  go_wp2
  go_ret
  exact ⟨rfl, rfl⟩
def wordsB (zs : List Int) : Bool := decide (∀ k (h : k < zs.length), wordB zs[k] = true)
theorem wordsB_true {zs : List Int} (h : wordsB zs = true) : ∀ k (h : k < zs.length), wordB zs[k] = true := of_decide_eq_true h
theorem wordsB_mk {zs : List Int} (h : ∀ k (h : k < zs.length), wordB zs[k] = true) : wordsB zs = true := decide_eq_true h
theorem wordsB_not {zs : List Int} {k : Nat} (hk : k < zs.length) (h : wordB zs[k] = false) : wordsB zs = false := decide_eq_false (fun x => by have := x k hk; rw [h] at this; cases this)
theorem wordsB_ex {zs : List Int} (h : wordsB zs = false) : ∃ k, ∃ h : k < zs.length, wordB zs[k] = false := by
  apply Classical.byContradiction
  intro hn
  have : wordsB zs = true := wordsB_mk (fun k hk => by
    cases e : wordB zs[k] with
    | true => rfl
    | false => exact absurd ⟨k, hk, e⟩ hn)
  rw [h] at this
  cases this
end Go.Proofs.YtbjcoeimcdodjaaDoor
