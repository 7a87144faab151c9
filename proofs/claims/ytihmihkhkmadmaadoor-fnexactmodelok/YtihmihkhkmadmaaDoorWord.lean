/- Words and places: by the program, and by the model. -/
import Derived.Test.YtihmihkhkmadmaaDoorIntS
namespace Go.Proofs.YtihmihkhkmadmaaDoor
open Go.RowKit
def wordB (n : Int) : Bool := decide (0 ≤ n ∧ n < 1099511627776)
theorem isWord_any (n : Int) (w : World) : Calls Tryd.prog 62 #[.int .i64 n] w fun e w' => e = .returned (.bool (wordB n)) ∧ w' = w := by
  by_cases h0 : 0 ≤ n
  · by_cases h1 : n < 1099511627776
    · have e : wordB n = true := decide_eq_true ⟨h0, h1⟩
      rw [e]; clear e
      go_enter Tryd.func62, Tryd.ntmps62
      go_wp2
      go_ret
      exact ⟨rfl, rfl⟩
    · have e : wordB n = false := decide_eq_false (fun h => h1 h.2)
      rw [e]; clear e
      go_enter Tryd.func62, Tryd.ntmps62
      go_wp2
      go_ret
      exact ⟨rfl, rfl⟩
  · have e : wordB n = false := decide_eq_false (fun h => h0 h.1)
    rw [e]; clear e
    go_enter Tryd.func62, Tryd.ntmps62
    go_wp2
    go_ret
    exact ⟨rfl, rfl⟩
def inB (n lo hi : Int) : Bool := decide (lo ≤ n ∧ n ≤ hi)
theorem l01In_any (n lo hi : Int) (w : World) : Calls Tryd.prog 46 #[.int .i64 n, .int .i64 lo, .int .i64 hi] w fun e w' => e = .returned (.bool (inB n lo hi)) ∧ w' = w := by
  by_cases h0 : lo ≤ n
  · by_cases h1 : n ≤ hi
    · have e : inB n lo hi = true := decide_eq_true ⟨h0, h1⟩
      rw [e]; clear e
      go_enter Tryd.func46, Tryd.ntmps46
      go_wp2
      go_ret
      exact ⟨rfl, rfl⟩
    · have e : inB n lo hi = false := decide_eq_false (fun h => h1 h.2)
      rw [e]; clear e
      go_enter Tryd.func46, Tryd.ntmps46
      go_wp2
      go_ret
      exact ⟨rfl, rfl⟩
  · have e : inB n lo hi = false := decide_eq_false (fun h => h0 h.1)
    rw [e]; clear e
    go_enter Tryd.func46, Tryd.ntmps46
    go_wp2
    go_ret
    exact ⟨rfl, rfl⟩
theorem inB_word (n : Int) : inB n 0 1099511627775 = wordB n := by
  unfold inB wordB
  rw [decide_eq_decide]
  omega
theorem l01Word_any (n : Int) (w : World) : Calls Tryd.prog 25 #[.int .i64 n] w fun e w' => e = .returned (.bool (wordB n)) ∧ w' = w := by
  have E := hideIt (inB_word n)
  go_enter Tryd.func25, Tryd.ntmps25
  go_wp2_with fail
  refine (l01In_any n 0 1099511627775 _).mono ?_
  rw [E.out]
  rintro e w' ⟨rfl, rfl⟩
  go_wp2
  go_ret
  exact ⟨rfl, rfl⟩
def wordsB (zs : List Int) : Bool := decide (∀ k (h : k < zs.length), wordB zs[k] = true)
theorem wordsB_true {zs : List Int} (h : wordsB zs = true) : ∀ k (h : k < zs.length), wordB zs[k] = true := of_decide_eq_true h
theorem wordsB_mk {zs : List Int} (h : ∀ k (h : k < zs.length), wordB zs[k] = true) : wordsB zs = true := decide_eq_true h
theorem wordsB_not {zs : List Int} {k : Nat} (hk : k < zs.length) (h : wordB zs[k] = false) : wordsB zs = false := decide_eq_false (fun x => by have := x k hk; rw [h] at this; cases this)
end Go.Proofs.YtihmihkhkmadmaaDoor
