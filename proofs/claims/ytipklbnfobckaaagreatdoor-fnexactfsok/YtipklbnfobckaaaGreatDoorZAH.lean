/- Several texts laid together: Wd, MiS, Ev. -/
import Derived.Test.YtipklbnfobckaaaGreatDoorMem
import Derived.Test.YtipklbnfobckaaaGreatDoorZAE
namespace Go.Proofs.YtipklbnfobckaaaGreatDoor
open Go.RowKit

theorem l01In_yes (n lo hi : Int) (w : World) (h : lo ≤ n ∧ n ≤ hi) : Calls Tryz.prog 94 #[.int .i64 n, .int .i64 lo, .int .i64 hi] w fun e w' => e = .returned (.bool true) ∧ w' = w := by
  obtain ⟨h1, h2⟩ := h
  go_enter Tryz.func94, Tryz.ntmps94
  go_wp2
  go_ret
  exact ⟨rfl, rfl⟩

theorem l01In_no (n lo hi : Int) (w : World) (h : ¬ (lo ≤ n ∧ n ≤ hi)) : Calls Tryz.prog 94 #[.int .i64 n, .int .i64 lo, .int .i64 hi] w fun e w' => e = .returned (.bool false) ∧ w' = w := by
  rcases (show ¬ lo ≤ n ∨ (lo ≤ n ∧ ¬ n ≤ hi) by omega) with h1 | ⟨h1, h2⟩
  all_goals
    clear h
    go_enter Tryz.func94, Tryz.ntmps94
    go_wp2
    go_ret
    exact ⟨rfl, rfl⟩

theorem isIndex_yes (n hi : Int) (w : World) (h : 0 ≤ n ∧ n < hi) : Calls Tryz.prog 161 #[.int .i64 n, .int .i64 hi] w fun e w' => e = .returned (.bool true) ∧ w' = w := by
  obtain ⟨h1, h2⟩ := h
  go_enter Tryz.func161, Tryz.ntmps161
  go_wp2
  go_ret
  exact ⟨rfl, rfl⟩

theorem isIndex_no (n hi : Int) (w : World) (h : ¬ (0 ≤ n ∧ n < hi)) : Calls Tryz.prog 161 #[.int .i64 n, .int .i64 hi] w fun e w' => e = .returned (.bool false) ∧ w' = w := by
  rcases (show ¬ 0 ≤ n ∨ (0 ≤ n ∧ ¬ n < hi) by omega) with h1 | ⟨h1, h2⟩
  all_goals
    clear h
    go_enter Tryz.func161, Tryz.ntmps161
    go_wp2
    go_ret
    exact ⟨rfl, rfl⟩

theorem l03Inode_any (i f : Int) (w : World) (h : 0 ≤ i ∧ i < 16) (k : 0 ≤ f ∧ f < 11) : Calls Tryz.prog 147 #[.int .i64 i, .int .i64 f] w fun e w' => e = .returned (.int .i64 (48 + 12 * i + f)) ∧ w' = w := by
  go_enter Tryz.func147, Tryz.ntmps147
  go_wp2
  go_ret
  exact ⟨ret_int (by first | rfl | omega | (go_num; omega)), rfl⟩

theorem l03Dirent_any (i f : Int) (w : World) (h : 0 ≤ i ∧ i < 24) (k : 0 ≤ f ∧ f < 3) : Calls Tryz.prog 148 #[.int .i64 i, .int .i64 f] w fun e w' => e = .returned (.int .i64 (240 + 3 * i + f)) ∧ w' = w := by
  go_enter Tryz.func148, Tryz.ntmps148
  go_wp2
  go_ret
  exact ⟨ret_int (by first | rfl | omega | (go_num; omega)), rfl⟩

end Go.Proofs.YtipklbnfobckaaaGreatDoor

namespace Go.Proofs.YtipklbnfobckaaaGreatDoor
open Go.RowKit

/-- A step. -/
structure Mi where
  kind : Int
  at_ : Int
  val : Int
/-- A step as a value. -/
def Mi.v (m : Mi) : Value := .agg #[.int .i64 m.kind, .int .i64 m.at_, .int .i64 m.val]
/-- A step that is right. -/
def miB (m : Mi) : Bool := decide ((m.kind = 1 ∧ (0 ≤ m.at_ ∧ m.at_ < 336) ∧ 0 ≤ m.val ∧ m.val < 1099511627776) ∨ (m.kind = 2 ∧ (0 ≤ m.at_ ∧ m.at_ < 336) ∧ m.val = 0) ∨ (m.kind = 4 ∧ (0 ≤ m.at_ ∧ m.at_ < 32) ∧ 0 ≤ m.val ∧ m.val < 1099511627776) ∨ ((m.kind = 3 ∨ m.kind = 5) ∧ m.at_ = 0 ∧ m.val = 0))
theorem miB_iff {m : Mi} : miB m = true ↔ ((m.kind = 1 ∧ (0 ≤ m.at_ ∧ m.at_ < 336) ∧ 0 ≤ m.val ∧ m.val < 1099511627776) ∨ (m.kind = 2 ∧ (0 ≤ m.at_ ∧ m.at_ < 336) ∧ m.val = 0) ∨ (m.kind = 4 ∧ (0 ≤ m.at_ ∧ m.at_ < 32) ∧ 0 ≤ m.val ∧ m.val < 1099511627776) ∨ ((m.kind = 3 ∨ m.kind = 5) ∧ m.at_ = 0 ∧ m.val = 0)) := by unfold miB; exact decide_eq_true_iff
theorem miB_of (k a v : Int) : miB ⟨k, a, v⟩ = true ↔ ((k = 1 ∧ (0 ≤ a ∧ a < 336) ∧ 0 ≤ v ∧ v < 1099511627776) ∨ (k = 2 ∧ (0 ≤ a ∧ a < 336) ∧ v = 0) ∨ (k = 4 ∧ (0 ≤ a ∧ a < 32) ∧ 0 ≤ v ∧ v < 1099511627776) ∨ ((k = 3 ∨ k = 5) ∧ a = 0 ∧ v = 0)) := miB_iff
set_option maxRecDepth 100000 in
set_option maxHeartbeats 4000000 in
theorem l04Micro_any (m : Mi) (w : World) : Calls Tryz.prog 43 #[m.v] w fun e w' => e = .returned (.bool (miB m)) ∧ Below w.heap.size w w' := by
  obtain ⟨k, a, v⟩ := m
  have hb0 : Below w.heap.size w (w.alloc (.cells #[.int .i64 k, .int .i64 a, .int .i64 v] 79)) := (Below.refl _ _).alloc (Nat.le_refl _) _
  have E := hideIt (miB_of k a v)
  unfold Mi.v
  simp only
  have WE := hideIt (show wordB v = decide (0 ≤ v ∧ v < 1099511627776) from rfl)
  rcases (show k = 1 ∨ k = 2 ∨ k = 3 ∨ k = 4 ∨ k = 5 ∨ (¬ k = 1 ∧ ¬ k = 2 ∧ ¬ k = 3 ∧ ¬ k = 4 ∧ ¬ k = 5) by omega) with rfl | rfl | rfl | rfl | rfl | ⟨n1, n2, n3, n4, n5⟩
  · by_cases ca : 0 ≤ a ∧ a ≤ 335
    · go_enter Tryz.func43, Tryz.ntmps43
      go_wp2_with (first | (go_at_call 94; refine (l01In_yes _ _ _ _ ca).mono ?_; rintro e w' ⟨rfl, rfl⟩) | (go_at_call 95; refine (l01Word_any _ _).mono ?_; rintro e w' ⟨rfl, rfl⟩))
      go_ret
      refine ⟨ret_bool ?_, hb0⟩
      rw [WE.out, Bool.eq_iff_iff, E.out, decide_eq_true_iff]
      first | omega | (simp only [true_and]; omega) | (simp only [true_and, true_or]; omega) | (simp only [true_and, or_true]; omega)
    · have C := hideIt ca
      clear ca
      go_enter Tryz.func43, Tryz.ntmps43
      go_wp2_with (go_at_call 94; refine (l01In_no _ _ _ _ C.out).mono ?_; rintro e w' ⟨rfl, rfl⟩)
      go_ret
      have := C.out
      refine ⟨ret_bool ?_, hb0⟩
      rw [Bool.eq_iff_iff, E.out]
      simp
      omega
  · by_cases ca : 0 ≤ a ∧ a ≤ 335
    · go_enter Tryz.func43, Tryz.ntmps43
      go_wp2_with (go_at_call 94; refine (l01In_yes _ _ _ _ ca).mono ?_; rintro e w' ⟨rfl, rfl⟩)
      go_ret
      refine ⟨ret_bool ?_, hb0⟩
      rw [Bool.eq_iff_iff, E.out, beq_iff_eq]
      first | omega | (simp only [true_and]; omega) | (simp only [true_and, true_or]; omega) | (simp only [true_and, or_true]; omega)
    · have C := hideIt ca
      clear ca
      go_enter Tryz.func43, Tryz.ntmps43
      go_wp2_with (go_at_call 94; refine (l01In_no _ _ _ _ C.out).mono ?_; rintro e w' ⟨rfl, rfl⟩)
      go_ret
      have := C.out
      refine ⟨ret_bool ?_, hb0⟩
      rw [Bool.eq_iff_iff, E.out]
      simp
      omega
  · by_cases ca : (a == 0) = true
    · go_enter Tryz.func43, Tryz.ntmps43
      go_wp2
      go_ret
      have := beq_iff_eq.1 ca
      refine ⟨ret_bool ?_, hb0⟩
      rw [Bool.eq_iff_iff, E.out, beq_iff_eq]
      first | omega | (simp only [true_and]; omega) | (simp only [true_and, true_or]; omega) | (simp only [true_and, or_true]; omega)
    · have ca' : (a == 0) = false := by simpa using ca
      clear ca
      go_enter Tryz.func43, Tryz.ntmps43
      go_wp2
      go_ret
      have := beq_eq_false_iff_ne.1 ca'
      refine ⟨ret_bool ?_, hb0⟩
      rw [Bool.eq_iff_iff, E.out]
      simp
      omega
  · by_cases ca : 0 ≤ a ∧ a ≤ 31
    · go_enter Tryz.func43, Tryz.ntmps43
      go_wp2_with (first | (go_at_call 94; refine (l01In_yes _ _ _ _ ca).mono ?_; rintro e w' ⟨rfl, rfl⟩) | (go_at_call 95; refine (l01Word_any _ _).mono ?_; rintro e w' ⟨rfl, rfl⟩))
      go_ret
      refine ⟨ret_bool ?_, hb0⟩
      rw [WE.out, Bool.eq_iff_iff, E.out, decide_eq_true_iff]
      first | omega | (simp only [true_and]; omega) | (simp only [true_and, true_or]; omega) | (simp only [true_and, or_true]; omega)
    · have C := hideIt ca
      clear ca
      go_enter Tryz.func43, Tryz.ntmps43
      go_wp2_with (go_at_call 94; refine (l01In_no _ _ _ _ C.out).mono ?_; rintro e w' ⟨rfl, rfl⟩)
      go_ret
      have := C.out
      refine ⟨ret_bool ?_, hb0⟩
      rw [Bool.eq_iff_iff, E.out]
      simp
      omega
  · by_cases ca : (a == 0) = true
    · go_enter Tryz.func43, Tryz.ntmps43
      go_wp2
      go_ret
      have := beq_iff_eq.1 ca
      refine ⟨ret_bool ?_, hb0⟩
      rw [Bool.eq_iff_iff, E.out, beq_iff_eq]
      first | omega | (simp only [true_and]; omega) | (simp only [true_and, true_or]; omega) | (simp only [true_and, or_true]; omega)
    · have ca' : (a == 0) = false := by simpa using ca
      clear ca
      go_enter Tryz.func43, Tryz.ntmps43
      go_wp2
      go_ret
      have := beq_eq_false_iff_ne.1 ca'
      refine ⟨ret_bool ?_, hb0⟩
      rw [Bool.eq_iff_iff, E.out]
      simp
      omega
  · have q1 : (k == 1) = false := by simpa using n1
    have q2 : (k == 2) = false := by simpa using n2
    have q3 : (k == 3) = false := by simpa using n3
    have q4 : (k == 4) = false := by simpa using n4
    have q5 : (k == 5) = false := by simpa using n5
    have N := hideIt (And.intro n1 (And.intro n2 (And.intro n3 (And.intro n4 n5))))
    clear n1 n2 n3 n4 n5
    go_enter Tryz.func43, Tryz.ntmps43
    go_wp2
    go_ret
    have := N.out
    refine ⟨ret_bool ?_, hb0⟩
    rw [Bool.eq_iff_iff, E.out]
    simp
    omega

end Go.Proofs.YtipklbnfobckaaaGreatDoor

namespace Go.Proofs.YtipklbnfobckaaaGreatDoor
open Go.RowKit

set_option maxHeartbeats 2000000 in
theorem everyWord_any (v : Value) (zs : List Int) (w : World) (h : RdI w v zs) (hn : zs.length ≤ 2147483648) :
    Calls Tryz.prog 105 #[v, .func (.func 156) #[] #[]] w fun e w' => e = .returned (.bool (wordsB zs)) ∧ w' = w := by
  obtain ⟨ao, cap, rfl, _, hc⟩ := h.shape
  clear h
  go_enter Tryz.func105, Tryz.ntmps105
  go_wp2
  go_loop [6, 9] (fun _ i => ∃ k : Nat, k ≤ zs.length ∧ i = .int .i64 k ∧ Hid (∀ j (h : j < zs.length), j < k → wordB zs[j] = true)) (fun _ i => zs.length - (intOf i).toNat)
  case atStart => exact ⟨0, by omega, rfl, fun j h a => absurd a (by omega)⟩
  case round =>
    obtain ⟨k, hk, rfl, H⟩ := hrel
    by_cases hlt : k < zs.length
    · obtain ⟨b, o, rfl, hbl, hcell⟩ := hc (by omega)
      have hck := hcell k hlt
      clear hcell hc
      by_cases q : wordB zs[k] = true
      · go_wp2_with (go_at_call 156; refine (isWord_any _ _).mono ?_; rintro e w' ⟨rfl, rfl⟩)
        go_round
        case rel =>
          refine ⟨k + 1, by omega, by go_num, fun j h a => ?_⟩
          by_cases e : j = k
          · subst e; exact q
          · exact H.out j h (by omega)
        case measure => simp [intOf]; omega
      · have q' : wordB zs[k] = false := by simpa using q
        have E := hideIt (wordsB_not hlt q')
        go_wp2_with (go_at_call 156; refine (isWord_any _ _).mono ?_; rintro e w' ⟨rfl, rfl⟩)
        go_ret
        exact ⟨ret_bool E.out.symm, rfl⟩
    · have E := hideIt (wordsB_mk (fun j h => H.out j h (by omega)))
      clear H
      go_wp2
      go_ret
      exact ⟨ret_bool E.out.symm, rfl⟩

end Go.Proofs.YtipklbnfobckaaaGreatDoor
