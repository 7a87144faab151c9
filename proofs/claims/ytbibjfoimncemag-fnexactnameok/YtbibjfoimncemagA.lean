/- The two checks of a name, the program's and the model's, answer one and the same at every string. -/
import Derived.Test.YtbibjfoimncemagRows
import Derived.WalkKit
import Derived.WalkSpells
namespace Go.Proofs.Ytbibjfoimncemag
open Go.RowKit

def isL (b : Int) : Bool := decide ((97 ≤ b ∧ b ≤ 122) ∨ (65 ≤ b ∧ b ≤ 90) ∨ b = 95)
def isD (b : Int) : Bool := decide (48 ≤ b ∧ b ≤ 57)

theorem ret_bool {a b : Bool} (h : a = b) : Ending.returned (.bool a) = .returned (.bool b) := by rw [h]

set_option maxHeartbeats 400000 in
theorem f7_any (b : Int) (w : World) : Calls Try.prog 7 #[.int .u8 b] w fun e w' => e = .returned (.bool (isL b)) ∧ w' = w := by
  unfold isL
  rcases (show b < 65 ∨ (65 ≤ b ∧ b ≤ 90) ∨ (90 < b ∧ b < 95) ∨ b = 95 ∨ b = 96 ∨ (97 ≤ b ∧ b ≤ 122) ∨ 122 < b from by omega) with h | ⟨h, h'⟩ | ⟨h, h'⟩ | h | h | ⟨h, h'⟩ | h
  all_goals
    try subst h
    go_enter Try.func7, Try.ntmps7
    go_wp2
    go_ret
    exact ⟨ret_bool (by first | rfl | (rw [Bool.eq_iff_iff]; simp; omega)), rfl⟩

set_option maxHeartbeats 400000 in
theorem f9_any (b : Int) (w : World) : Calls Try.prog 9 #[.int .u8 b] w fun e w' => e = .returned (.bool (isL b)) ∧ w' = w := by
  unfold isL
  rcases (show b < 65 ∨ (65 ≤ b ∧ b ≤ 90) ∨ (90 < b ∧ b < 95) ∨ b = 95 ∨ b = 96 ∨ (97 ≤ b ∧ b ≤ 122) ∨ 122 < b from by omega) with h | ⟨h, h'⟩ | ⟨h, h'⟩ | h | h | ⟨h, h'⟩ | h
  all_goals
    try subst h
    go_enter Try.func9, Try.ntmps9
    go_wp2
    go_ret
    exact ⟨ret_bool (by first | rfl | (rw [Bool.eq_iff_iff]; simp; omega)), rfl⟩

theorem f8_any (b : Int) (w : World) : Calls Try.prog 8 #[.int .u8 b] w fun e w' => e = .returned (.bool (isD b)) ∧ w' = w := by
  unfold isD
  rcases (show b < 48 ∨ (48 ≤ b ∧ b ≤ 57) ∨ 57 < b from by omega) with h | ⟨h, h'⟩ | h
  all_goals
    go_enter Try.func8, Try.ntmps8
    go_wp2
    go_ret
    exact ⟨ret_bool (by first | rfl | (rw [Bool.eq_iff_iff]; simp; omega)), rfl⟩

theorem f10_any (b : Int) (w : World) : Calls Try.prog 10 #[.int .u8 b] w fun e w' => e = .returned (.bool (isD b)) ∧ w' = w := by
  unfold isD
  rcases (show b < 48 ∨ (48 ≤ b ∧ b ≤ 57) ∨ 57 < b from by omega) with h | ⟨h, h'⟩ | h
  all_goals
    go_enter Try.func10, Try.ntmps10
    go_wp2
    go_ret
    exact ⟨ret_bool (by first | rfl | (rw [Bool.eq_iff_iff]; simp; omega)), rfl⟩

/-- What a name is: its length, its first byte, its other bytes. -/
def nameB (s : ByteArray) : Bool := decide (1 ≤ s.size ∧ s.size ≤ 40 ∧ ∀ j (h : j < s.size), (j = 0 → isL (s[j].toNat : Int) = true) ∧ (1 ≤ j → isL (s[j].toNat : Int) = true ∨ isD (s[j].toNat : Int) = true))

theorem nameB_short {s : ByteArray} (h : s.size < 1) : nameB s = false := by unfold nameB; simp; omega
theorem nameB_long {s : ByteArray} (h : 40 < s.size) : nameB s = false := by unfold nameB; simp; omega
theorem nameB_first {s : ByteArray} (h : 0 < s.size) (hb : isL (s[0].toNat : Int) = false) : nameB s = false := by
  unfold nameB
  rw [decide_eq_false_iff_not]
  rintro ⟨_, _, h3⟩
  have := (h3 0 h).1 rfl
  rw [hb] at this; cases this
theorem nameB_other {s : ByteArray} {k : Nat} (h : k < s.size) (h1 : 1 ≤ k) (hb : isL (s[k].toNat : Int) = false) (hd : isD (s[k].toNat : Int) = false) : nameB s = false := by
  unfold nameB
  rw [decide_eq_false_iff_not]
  rintro ⟨_, _, h3⟩
  have := (h3 k h).2 h1
  rw [hb, hd] at this; simp at this
theorem nameB_all {s : ByteArray} (h0 : 1 ≤ s.size) (h40 : s.size ≤ 40) (hf : isL (s[0].toNat : Int) = true) (h : ∀ j (h : j < s.size), 1 ≤ j → isL (s[j].toNat : Int) = true ∨ isD (s[j].toNat : Int) = true) : nameB s = true := by
  unfold nameB
  rw [decide_eq_true_iff]
  refine ⟨h0, h40, fun j hj => ⟨?_, h j hj⟩⟩
  rintro rfl; exact hf

set_option maxHeartbeats 1000000 in
theorem f5_any (s : ByteArray) (w : World) (hs : s.size ≤ maxLen) : Calls Try.prog 5 #[.string s] w fun e w' => e = .returned (.bool (nameB s)) ∧ w' = w := by
  unfold maxLen at hs
  by_cases h1 : s.size < 1
  · rw [nameB_short h1]
    go_enter Try.func5, Try.ntmps5
    go_wp2
    go_ret
    exact ⟨rfl, rfl⟩
  by_cases h2 : 40 < s.size
  · rw [nameB_long h2]
    go_enter Try.func5, Try.ntmps5
    go_wp2
    go_ret
    exact ⟨rfl, rfl⟩
  have h0 : 0 < s.size := by omega
  by_cases h3 : isL (s[0].toNat : Int) = true
  · have hlt0 : (0 : Int) < (s.size : Int) := by omega
    go_enter Try.func5, Try.ntmps5
    go_wp2_with (go_at_call 7; refine (f7_any _ _).mono ?_; rintro e w' ⟨rfl, rfl⟩)
    go_loop [3] (fun i => ∃ k : Nat, 1 ≤ k ∧ k ≤ s.size ∧ i = .int .i64 k ∧ Hid (∀ j (h : j < s.size), 1 ≤ j → j < k → isL (s[j].toNat : Int) = true ∨ isD (s[j].toNat : Int) = true)) (fun i => s.size - (intOf i).toNat)
    case atStart => exact ⟨1, by omega, by omega, rfl, fun j h a b => absurd a (by omega)⟩
    case round =>
      obtain ⟨k, hk1, hk, rfl, H⟩ := hrel
      by_cases hlt : k < s.size
      · by_cases c1 : isL (s[k].toNat : Int) = true
        · go_wp2_with (go_at_call 7; refine (f7_any _ _).mono ?_; rintro e w' ⟨rfl, rfl⟩)
          go_round
          case rel =>
            refine ⟨k + 1, by omega, by omega, by go_num, fun j h a b => ?_⟩
            by_cases e : j = k
            · subst e; exact .inl c1
            · exact H.out j h a (by omega)
          case measure => simp [intOf]; omega
        · have c1' : isL (s[k].toNat : Int) = false := by simpa using c1
          by_cases c2 : isD (s[k].toNat : Int) = true
          · go_wp2_with (first | (go_at_call 7; refine (f7_any _ _).mono ?_; rintro e w' ⟨rfl, rfl⟩) | (go_at_call 8; refine (f8_any _ _).mono ?_; rintro e w' ⟨rfl, rfl⟩))
            go_round
            case rel =>
              refine ⟨k + 1, by omega, by omega, by go_num, fun j h a b => ?_⟩
              by_cases e : j = k
              · subst e; exact .inr c2
              · exact H.out j h a (by omega)
            case measure => simp [intOf]; omega
          · have c2' : isD (s[k].toNat : Int) = false := by simpa using c2
            have E : Hid (nameB s = false) := nameB_other hlt hk1 c1' c2'
            go_wp2_with (first | (go_at_call 7; refine (f7_any _ _).mono ?_; rintro e w' ⟨rfl, rfl⟩) | (go_at_call 8; refine (f8_any _ _).mono ?_; rintro e w' ⟨rfl, rfl⟩))
            go_ret
            exact ⟨ret_bool E.out.symm, rfl⟩
      · have E : Hid (nameB s = true) := nameB_all (by omega) (by omega) h3 (fun j h a => H.out j h a (by omega))
        go_wp2
        go_ret
        exact ⟨ret_bool E.out.symm, rfl⟩
  · have h3' : isL (s[0].toNat : Int) = false := by simpa using h3
    rw [nameB_first h0 h3']
    go_enter Try.func5, Try.ntmps5
    go_wp2_with (go_at_call 7; refine (f7_any _ _).mono ?_; rintro e w' ⟨rfl, rfl⟩)
    go_ret
    exact ⟨rfl, rfl⟩

set_option maxHeartbeats 1000000 in
theorem f6_any (s : ByteArray) (w : World) (hs : s.size ≤ maxLen) : Calls Try.prog 6 #[.string s] w fun e w' => e = .returned (.bool (nameB s)) ∧ w' = w := by
  unfold maxLen at hs
  by_cases h1 : s.size < 1
  · rw [nameB_short h1]
    go_enter Try.func6, Try.ntmps6
    go_wp2
    go_ret
    exact ⟨rfl, rfl⟩
  by_cases h2 : 40 < s.size
  · rw [nameB_long h2]
    go_enter Try.func6, Try.ntmps6
    go_wp2
    go_ret
    exact ⟨rfl, rfl⟩
  have h0 : 0 < s.size := by omega
  by_cases h3 : isL (s[0].toNat : Int) = true
  · have hlt0 : (0 : Int) < (s.size : Int) := by omega
    go_enter Try.func6, Try.ntmps6
    go_wp2_with (go_at_call 9; refine (f9_any _ _).mono ?_; rintro e w' ⟨rfl, rfl⟩)
    go_loop [3] (fun i => ∃ k : Nat, 1 ≤ k ∧ k ≤ s.size ∧ i = .int .i64 k ∧ Hid (∀ j (h : j < s.size), 1 ≤ j → j < k → isL (s[j].toNat : Int) = true ∨ isD (s[j].toNat : Int) = true)) (fun i => s.size - (intOf i).toNat)
    case atStart => exact ⟨1, by omega, by omega, rfl, fun j h a b => absurd a (by omega)⟩
    case round =>
      obtain ⟨k, hk1, hk, rfl, H⟩ := hrel
      by_cases hlt : k < s.size
      · by_cases c1 : isL (s[k].toNat : Int) = true
        · go_wp2_with (go_at_call 9; refine (f9_any _ _).mono ?_; rintro e w' ⟨rfl, rfl⟩)
          go_round
          case rel =>
            refine ⟨k + 1, by omega, by omega, by go_num, fun j h a b => ?_⟩
            by_cases e : j = k
            · subst e; exact .inl c1
            · exact H.out j h a (by omega)
          case measure => simp [intOf]; omega
        · have c1' : isL (s[k].toNat : Int) = false := by simpa using c1
          by_cases c2 : isD (s[k].toNat : Int) = true
          · go_wp2_with (first | (go_at_call 9; refine (f9_any _ _).mono ?_; rintro e w' ⟨rfl, rfl⟩) | (go_at_call 10; refine (f10_any _ _).mono ?_; rintro e w' ⟨rfl, rfl⟩))
            go_round
            case rel =>
              refine ⟨k + 1, by omega, by omega, by go_num, fun j h a b => ?_⟩
              by_cases e : j = k
              · subst e; exact .inr c2
              · exact H.out j h a (by omega)
            case measure => simp [intOf]; omega
          · have c2' : isD (s[k].toNat : Int) = false := by simpa using c2
            have E : Hid (nameB s = false) := nameB_other hlt hk1 c1' c2'
            go_wp2_with (first | (go_at_call 9; refine (f9_any _ _).mono ?_; rintro e w' ⟨rfl, rfl⟩) | (go_at_call 10; refine (f10_any _ _).mono ?_; rintro e w' ⟨rfl, rfl⟩))
            go_ret
            exact ⟨ret_bool E.out.symm, rfl⟩
      · have E : Hid (nameB s = true) := nameB_all (by omega) (by omega) h3 (fun j h a => H.out j h a (by omega))
        go_wp2
        go_ret
        exact ⟨ret_bool E.out.symm, rfl⟩
  · have h3' : isL (s[0].toNat : Int) = false := by simpa using h3
    rw [nameB_first h0 h3']
    go_enter Try.func6, Try.ntmps6
    go_wp2_with (go_at_call 9; refine (f9_any _ _).mono ?_; rintro e w' ⟨rfl, rfl⟩)
    go_ret
    exact ⟨rfl, rfl⟩

theorem f4_any (s : ByteArray) (w : World) (hs : s.size ≤ maxLen) : Calls Try.prog 4 #[.string s] w fun e w' => e = .returned (.bool (nameB s)) ∧ w' = w := by
  go_enter Try.func4, Try.ntmps4
  go_wp2_with (go_at_call 6; refine (f6_any s _ hs).mono ?_; rintro e w' ⟨rfl, rfl⟩)
  go_ret
  exact ⟨rfl, rfl⟩

theorem f3_any (s : ByteArray) (w : World) (hs : s.size ≤ maxLen) : Calls Try.prog 3 #[.string s] w fun e w' => e = .returned (.bool true) ∧ w' = w := by
  have hs' := hs
  unfold maxLen at hs'
  by_cases h : 1048576 < s.size
  · go_enter Try.func3, Try.ntmps3
    go_wp2
    go_ret
    exact ⟨rfl, rfl⟩
  · go_enter Try.func3, Try.ntmps3
    go_wp2_with (first | (go_at_call 4; refine (f4_any s _ hs).mono ?_; rintro e w' ⟨rfl, rfl⟩) | (go_at_call 5; refine (f5_any s _ hs).mono ?_; rintro e w' ⟨rfl, rfl⟩))
    go_ret
    exact ⟨rfl, rfl⟩
end Go.Proofs.Ytbibjfoimncemag
