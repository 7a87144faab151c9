/- Words and places: by the program, and by the model. -/
import Derived.Test.YtihmihkhkmadmaaDoorZAB
namespace Go.Proofs.YtihmihkhkmadmaaDoor
open Go.RowKit
def wordB (n : Int) : Bool := decide (0 ≤ n ∧ n < 1099511627776)
def placeB (n : Int) : Bool := decide (0 ≤ n ∧ n < 336)
def secB (n : Int) : Bool := decide (0 ≤ n ∧ n < 32)
theorem secB_true {n : Int} (h : secB n = true) : 0 ≤ n ∧ n < 32 := of_decide_eq_true h
theorem placeB_true {n : Int} (h : placeB n = true) : 0 ≤ n ∧ n < 336 := of_decide_eq_true h
theorem isWord_any (n : Int) (w : World) : Calls Tryd.prog 62 #[.int .i64 n] w fun e w' => e = .returned (.bool (wordB n)) ∧ w' = w := by
  by_cases h0 : 0 ≤ n
  · by_cases h1 : n < 1099511627776
    · have e : wordB n = true := decide_eq_true ⟨h0, h1⟩
      rw [e]; clear e
      go_enter Tryd.func62, Tryd.ntmps62
      go_wp2
      go_ret
      exact ⟨rfl, rfl⟩
    · have e : wordB n = false := decide_eq_false (fun h => h1 h.2)
      rw [e]; clear e
      go_enter Tryd.func62, Tryd.ntmps62
      go_wp2
      go_ret
      exact ⟨rfl, rfl⟩
  · have e : wordB n = false := decide_eq_false (fun h => h0 h.1)
    rw [e]; clear e
    go_enter Tryd.func62, Tryd.ntmps62
    go_wp2
    go_ret
    exact ⟨rfl, rfl⟩
theorem isPlace_any (n : Int) (w : World) : Calls Tryd.prog 113 #[.int .i64 n] w fun e w' => e = .returned (.bool (placeB n)) ∧ w' = w := by
  by_cases h0 : 0 ≤ n
  · by_cases h1 : n < 336
    · have e : placeB n = true := decide_eq_true ⟨h0, h1⟩
      rw [e]; clear e
      go_enter Tryd.func113, Tryd.ntmps113
      go_wp2
      go_ret
      exact ⟨rfl, rfl⟩
    · have e : placeB n = false := decide_eq_false (fun h => h1 h.2)
      rw [e]; clear e
      go_enter Tryd.func113, Tryd.ntmps113
      go_wp2
      go_ret
      exact ⟨rfl, rfl⟩
  · have e : placeB n = false := decide_eq_false (fun h => h0 h.1)
    rw [e]; clear e
    go_enter Tryd.func113, Tryd.ntmps113
    go_wp2
    go_ret
    exact ⟨rfl, rfl⟩
theorem isSector_any (n : Int) (w : World) : Calls Tryd.prog 100 #[.int .i64 n] w fun e w' => e = .returned (.bool (secB n)) ∧ w' = w := by
  by_cases h0 : 0 ≤ n
  · by_cases h1 : n < 32
    · have e : secB n = true := decide_eq_true ⟨h0, h1⟩
      rw [e]; clear e
      go_enter Tryd.func100, Tryd.ntmps100
      go_wp2
      go_ret
      exact ⟨rfl, rfl⟩
    · have e : secB n = false := decide_eq_false (fun h => h1 h.2)
      rw [e]; clear e
      go_enter Tryd.func100, Tryd.ntmps100
      go_wp2
      go_ret
      exact ⟨rfl, rfl⟩
  · have e : secB n = false := decide_eq_false (fun h => h0 h.1)
    rw [e]; clear e
    go_enter Tryd.func100, Tryd.ntmps100
    go_wp2
    go_ret
    exact ⟨rfl, rfl⟩
def wordsB (zs : List Int) : Bool := decide (∀ k (h : k < zs.length), wordB zs[k] = true)
theorem wordsB_true {zs : List Int} (h : wordsB zs = true) : ∀ k (h : k < zs.length), wordB zs[k] = true := of_decide_eq_true h
theorem wordsB_mk {zs : List Int} (h : ∀ k (h : k < zs.length), wordB zs[k] = true) : wordsB zs = true := decide_eq_true h
theorem wordsB_not {zs : List Int} {k : Nat} (hk : k < zs.length) (h : wordB zs[k] = false) : wordsB zs = false := decide_eq_false (fun x => by have := x k hk; rw [h] at this; cases this)
theorem wordsB_ex {zs : List Int} (h : wordsB zs = false) : ∃ k, ∃ h : k < zs.length, wordB zs[k] = false := by
  apply Classical.byContradiction
  intro hn
  have : wordsB zs = true := wordsB_mk (fun k hk => by
    cases e : wordB zs[k] with
    | true => rfl
    | false => exact absurd ⟨k, hk, e⟩ hn)
  rw [h] at this
  cases this
end Go.Proofs.YtihmihkhkmadmaaDoor
