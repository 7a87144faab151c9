/- The words of the codes, further: a number's word and a word's number, by the program and by the model. -/
import Derived.Test.YtbibjfoimncemagDoorA
namespace Go.Proofs.YtbibjfoimncemagDoor
open Go.RowKit

def tabA : Array Value := (words.map Value.string).toArray

theorem ix (k : Nat) (hk : k < 20) (w : World) : (Instr.index 27 (.agg tabA) (.int .i64 (k : Int))).run Tryd.prog w = .ok (.string (wordAt (k : Int))) w := by
  rcases (show k = 0 ∨ k = 1 ∨ k = 2 ∨ k = 3 ∨ k = 4 ∨ k = 5 ∨ k = 6 ∨ k = 7 ∨ k = 8 ∨ k = 9 ∨ k = 10 ∨ k = 11 ∨ k = 12 ∨ k = 13 ∨ k = 14 ∨ k = 15 ∨ k = 16 ∨ k = 17 ∨ k = 18 ∨ k = 19 from by omega) with rfl | rfl | rfl | rfl | rfl | rfl | rfl | rfl | rfl | rfl | rfl | rfl | rfl | rfl | rfl | rfl | rfl | rfl | rfl | rfl
  all_goals kernel_rfl

theorem tab_at (k : Nat) (hk : k < 20) : tabA[k]? = some (.string (wordAt (k : Int))) := by
  rcases (show k = 0 ∨ k = 1 ∨ k = 2 ∨ k = 3 ∨ k = 4 ∨ k = 5 ∨ k = 6 ∨ k = 7 ∨ k = 8 ∨ k = 9 ∨ k = 10 ∨ k = 11 ∨ k = 12 ∨ k = 13 ∨ k = 14 ∨ k = 15 ∨ k = 16 ∨ k = 17 ∨ k = 18 ∨ k = 19 from by omega) with rfl | rfl | rfl | rfl | rfl | rfl | rfl | rfl | rfl | rfl | rfl | rfl | rfl | rfl | rfl | rfl | rfl | rfl | rfl | rfl
  all_goals kernel_rfl

/-- The table lies where the program's start has laid it. -/
def Tab (w : World) : Prop := ∃ t fr, w.heap[0]? = some (.cells tabA t fr)

theorem Tab.lt {w : World} (h : Tab w) : 0 < w.heap.size := by
  obtain ⟨t, fr, h⟩ := h
  exact (Array.getElem?_eq_some_iff.1 h).1
theorem Tab.later {w w' : World} {B : Nat} (h : Tab w) (hB : 0 < B) (hb : Below B w w') : Tab w' := by
  obtain ⟨t, fr, h⟩ := h
  exact ⟨t, fr, (hb.block 0 hB).trans h⟩
theorem Tab.cell {w : World} (h : Tab w) (k : Nat) (hk : k < 20) : w.cell? ⟨0, k, none⟩ = some (.string (wordAt (k : Int))) := by
  obtain ⟨t, fr, h⟩ := h
  simp [World.cell?, h, tab_at k hk]

set_option maxHeartbeats 1000000 in
theorem f6_any (c : Int) (w : World) (hT : Tab w) : Calls Tryd.prog 6 #[.int .i64 c] w fun e w' => e = .returned (.string (wordAt c)) ∧ w' = w := by
  by_cases h1 : c < 0
  · rw [wordAt_out (.inl h1)]
    go_enter Tryd.func6, Tryd.ntmps6
    go_wp2
    go_ret
    exact ⟨rfl, rfl⟩
  by_cases h2 : 20 ≤ c
  · rw [wordAt_out (.inr h2)]
    go_enter Tryd.func6, Tryd.ntmps6
    go_wp2
    go_ret
    exact ⟨rfl, rfl⟩
  obtain ⟨k, rfl⟩ := Int.eq_ofNat_of_zero_le (show 0 ≤ c by omega)
  have hk : k < 20 := by omega
  have hc := hT.cell k hk
  go_enter Tryd.func6, Tryd.ntmps6
  go_wp2
  go_ret
  exact ⟨rfl, rfl⟩

def hit (s : ByteArray) (k : Nat) : Bool := (wordAt (k : Int)).toList == s.toList
def codeOf (s : ByteArray) : Int := match (List.range 20).find? (hit s) with
  | some j => (j : Int)
  | none => -1
theorem codeOf_hit {s : ByteArray} {k : Nat} (hk : k < 20) (h : hit s k = true) (hb : ∀ j, j < k → hit s j = false) : codeOf s = (k : Int) := by
  unfold codeOf
  have : (List.range 20).find? (hit s) = some k := by
    rw [List.find?_range_eq_some]
    exact ⟨h, by simpa using hk, fun j hj => by simp [hb j hj]⟩
  rw [this]
theorem codeOf_none {s : ByteArray} (hb : ∀ j, j < 20 → hit s j = false) : codeOf s = -1 := by
  unfold codeOf
  have : (List.range 20).find? (hit s) = none := by
    rw [List.find?_range_eq_none]
    intro j hj
    simp [hb j hj]
  rw [this]
theorem ret_int {a b : Int} (h : a = b) : Ending.returned (.int .i64 a) = .returned (.int .i64 b) := by rw [h]

set_option maxHeartbeats 1000000 in
theorem f7_any (s : ByteArray) (w : World) : Calls Tryd.prog 7 #[.string s] w fun e w' => e = .returned (.int .i64 (codeOf s)) ∧ Below w.heap.size w w' := by
  go_enter Tryd.func7, Tryd.ntmps7
  go_wp2
  go_loopw [3] (fun i wr => ∃ k : Nat, k ≤ 20 ∧ i = .int .i64 k ∧ Hid (∀ j, j < k → hit s j = false) ∧ Below w.heap.size w wr) (fun i _ => 20 - (intOf i).toNat)
  case atStart => exact ⟨0, by omega, rfl, fun j h => absurd h (by omega), Below.refl _ _⟩
  case round =>
    obtain ⟨k, hk, rfl, H, hb⟩ := hrel
    have hz := hb.size
    by_cases hlt : k < 20
    · by_cases c1 : ((wordAt (k : Int)).toList == s.toList) = true
      · have E : Hid (codeOf s = (k : Int)) := codeOf_hit hlt c1 H.out
        go_wp2_with (go_at_call 5; refine (f5_any _ _).mono ?_; rintro e w' ⟨rfl, hb1⟩)
        go_ret
        exact ⟨ret_int E.out.symm, hb.trans (Below.mono ‹Below wr.heap.size wr _› hz)⟩
      · have c1' : ((wordAt (k : Int)).toList == s.toList) = false := by simpa using c1
        clear c1
        go_wp2_with (go_at_call 5; refine (f5_any _ _).mono ?_; rintro e w' ⟨rfl, hb1⟩)
        go_roundw
        case rel =>
          refine ⟨k + 1, by omega, by go_num, fun j h => ?_, hb.trans (Below.mono ‹Below wr.heap.size wr _› hz)⟩
          by_cases e : j = k
          · subst e; exact c1'
          · exact H.out j (by omega)
        case measure => simp [intOf]; omega
    · have E : Hid (codeOf s = -1) := codeOf_none (fun j h => H.out j (by omega))
      go_wp2
      go_ret
      exact ⟨ret_int E.out.symm, hb⟩

set_option maxHeartbeats 1000000 in
theorem f8_any (s : ByteArray) (w : World) (hT : Tab w) : Calls Tryd.prog 8 #[.string s] w fun e w' => e = .returned (.int .i64 (codeOf s)) ∧ w' = w := by
  obtain ⟨tt, fr, hg⟩ := hT
  have Hg : Hid (w.heap[0]? = some (.cells tabA tt fr)) := hg
  clear hg
  go_enter Tryd.func8, Tryd.ntmps8
  go_wp2_with (refine wpList_load_row rfl 27 _ rfl 0 rfl tt tabA fr _ Hg.out Tryd.underlying27 rfl (by kernel_rfl) ?_)
  go_loop [3, 4, 6] (fun _ _ i => ∃ k : Nat, k ≤ 20 ∧ i = .int .i64 k ∧ Hid (∀ j, j < k → hit s j = false)) (fun _ _ i => 20 - (intOf i).toNat)
  case atStart => exact ⟨0, by omega, rfl, fun j h => absurd h (by omega)⟩
  case round =>
    obtain ⟨k, hk, rfl, H⟩ := hrel
    by_cases hlt : k < 20
    · have hix := ix k hlt
      by_cases c1 : ((wordAt (k : Int)).toList == s.toList) = true
      · have E : Hid (codeOf s = (k : Int)) := codeOf_hit hlt c1 H.out
        go_wp2
        go_ret
        exact ⟨ret_int E.out.symm, rfl⟩
      · have c1' : ((wordAt (k : Int)).toList == s.toList) = false := by simpa using c1
        clear c1
        go_wp2
        go_round
        case rel =>
          refine ⟨k + 1, by omega, by go_num, fun j h => ?_⟩
          by_cases e : j = k
          · subst e; exact c1'
          · exact H.out j (by omega)
        case measure => simp [intOf]; omega
    · have E : Hid (codeOf s = -1) := codeOf_none (fun j h => H.out j (by omega))
      go_wp2
      go_ret
      exact ⟨ret_int E.out.symm, rfl⟩

theorem f3_any (c : Int) (w : World) (hT : Tab w) : Calls Tryd.prog 3 #[.int .i64 c] w fun e w' => e = .returned (.bool true) ∧ Below w.heap.size w w' := by
  have hl := hT.lt
  go_enter Tryd.func3, Tryd.ntmps3
  go_wp2_with (first | (go_at_call 5; refine (f5_any _ _).mono ?_; rintro e w' ⟨rfl, hb1⟩) | (go_at_call 6; refine (f6_any _ _ (hT.later hl ‹_›)).mono ?_; rintro e w' ⟨rfl, rfl⟩))
  go_ret
  exact ⟨rfl, ‹_›⟩

theorem f4_any (s : ByteArray) (w : World) (hs : s.size ≤ maxLen) (hT : Tab w) : Calls Tryd.prog 4 #[.string s] w fun e w' => e = .returned (.bool true) ∧ Below w.heap.size w w' := by
  have hl := hT.lt
  unfold maxLen at hs
  by_cases h : 1048576 < s.size
  · go_enter Tryd.func4, Tryd.ntmps4
    go_wp2
    go_ret
    exact ⟨rfl, Below.refl _ _⟩
  · go_enter Tryd.func4, Tryd.ntmps4
    go_wp2_with (first | (go_at_call 7; refine (f7_any _ _).mono ?_; rintro e w' ⟨rfl, hb1⟩) | (go_at_call 8; refine (f8_any _ _ (hT.later hl ‹_›)).mono ?_; rintro e w' ⟨rfl, rfl⟩))
    go_ret
    exact ⟨rfl, ‹_›⟩
end Go.Proofs.YtbibjfoimncemagDoor
