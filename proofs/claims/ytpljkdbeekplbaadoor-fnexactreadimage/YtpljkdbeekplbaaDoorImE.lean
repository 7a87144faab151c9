/- Entries: as the laws hand them on, and their updates by the model. -/
import Derived.Test.YtpljkdbeekplbaaDoorImD
namespace Go.Proofs.YtpljkdbeekplbaaDoor
open Go.RowKit

/-- An entry. -/
structure Den where
  dir : Int
  name : ByteArray
  child : Int
/-- An entry as a value. -/
def Den.v (x : Den) : Value := .agg #[.int .i64 x.dir, .string x.name, .int .i64 x.child]

set_option maxHeartbeats 1000000 in
theorem toDirent_any (x : Den) (w : World) : Calls Tryd.prog 111 #[x.v] w fun e w' => e = .returned x.v ∧ Below w.heap.size w w' := by
  unfold Den.v
  go_enter Tryd.func111, Tryd.ntmps111
  go_wp2
  refine bodyPost_ret (v := .agg #[.int .i64 x.dir, .string x.name, .int .i64 x.child]) (by simp [results, Tryd.results111, go_sem]) rfl ⟨rfl, ?_⟩
  repeat (refine Below.alloc ?_ (by simp <;> omega) _)
  exact Below.refl _ _

set_option maxHeartbeats 1000000 in
theorem szDirent_any (x : Den) (left : Int) (w : World) (hs : x.name.size ≤ maxLen) (h0 : 0 ≤ left) (h1 : left ≤ 1048576) : Calls Tryd.prog 108 #[x.v, .int .i64 left] w fun e w' => e = .returned (.int .i64 (if left < x.name.size then -1 else left - x.name.size)) ∧ Below w.heap.size w w' := by
  unfold Den.v
  unfold maxLen at hs
  by_cases c : left < x.name.size
  · rw [if_pos c]
    have c' : left - (x.name.size : Int) < 0 := by omega
    go_enter Tryd.func108, Tryd.ntmps108
    go_wp2
    go_ret
    refine ⟨rfl, ?_⟩
    repeat (refine Below.alloc ?_ (by simp <;> omega) _)
    exact Below.refl _ _
  · rw [if_neg c]
    have c' : ¬ left - (x.name.size : Int) < 0 := by omega
    go_enter Tryd.func108, Tryd.ntmps108
    go_wp2
    go_ret
    refine ⟨rfl, ?_⟩
    repeat (refine Below.alloc ?_ (by simp <;> omega) _)
    exact Below.refl _ _

/-- A free entry. -/
def Den.freeB (x : Den) : Bool := x.dir == 0 && (x.name.size == 0 && x.child == -1)
/-- An entry that can be written. -/
def Den.okB (x : Den) : Bool := x.freeB || (decide (1 ≤ x.child ∧ x.child ≤ 15) && (decide (0 ≤ x.dir ∧ x.dir ≤ 15) && nmB x.name))
/-- Its words. -/
def enL (k : Int) (x : Den) : List Se := [⟨240 + 3 * k, x.dir⟩, ⟨240 + 3 * k + 1, ((pk x.name x.name.size : Nat) : Int)⟩, ⟨240 + 3 * k + 2, x.child + 1⟩]

theorem noBytes (s : ByteArray) : s.toList = [] ↔ s.size = 0 := by
  rw [ByteArray.toList_eq]
  obtain ⟨⟨x⟩⟩ := s
  show x = [] ↔ x.length = 0
  exact List.length_eq_zero_iff.symm
/-- The updates of an entry: the code, and the list. -/
def duC (k : Int) (x : Den) : Int := if 0 ≤ k ∧ k ≤ 23 then (if x.okB = true then 0 else 1) else 4
def duL (k : Int) (x : Den) : List Se := if 0 ≤ k ∧ k ≤ 23 then (if x.okB = true then enL k x else []) else []
theorem du_cases (k : Int) (x : Den) : (¬ (0 ≤ k ∧ k ≤ 23) ∧ duC k x = 4 ∧ duL k x = []) ∨ ((0 ≤ k ∧ k ≤ 23) ∧ x.okB = false ∧ duC k x = 1 ∧ duL k x = []) ∨ ((0 ≤ k ∧ k ≤ 23) ∧ x.okB = true ∧ duC k x = 0 ∧ duL k x = enL k x) := by
  unfold duC duL
  by_cases h : 0 ≤ k ∧ k ≤ 23
  · cases q : x.okB
    · exact .inr (.inl ⟨h, rfl, by rw [if_pos h, if_neg (by decide)], by rw [if_pos h, if_neg (by decide)]⟩)
    · exact .inr (.inr ⟨h, rfl, by rw [if_pos h, if_pos rfl], by rw [if_pos h, if_pos rfl]⟩)
  · exact .inl ⟨h, by rw [if_neg h], by rw [if_neg h]⟩
theorem duL_len (k : Int) (x : Den) : (duL k x).length ≤ 3 := by
  rcases du_cases k x with ⟨_, _, e⟩ | ⟨_, _, _, e⟩ | ⟨_, _, _, e⟩ <;> rw [e] <;> simp [enL]

end Go.Proofs.YtpljkdbeekplbaaDoor
