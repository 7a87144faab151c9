/- Several texts laid together: Nm, ImD. -/
import Derived.Test.YtpgdpachomdfhaaGreatDoorMem
import Derived.Test.YtpgdpachomdfhaaGreatDoorWdM
import Derived.Laws.IdiomStrings
import Derived.Laws.BytesArg
import Derived.Deep.OwnRows
import Derived.Test.YtpgdpachomdfhaaGreatDoorZAF
namespace Go.Proofs.YtpgdpachomdfhaaGreatDoor
open Go.RowKit

theorem ret_si {a b : ByteArray} {c d : Int} (h : a = b) (k : c = d) : Ending.returned (.tuple #[.string a, .int .i64 c]) = .returned (.tuple #[.string b, .int .i64 d]) := by rw [h, k]
theorem ret_sb {a b : ByteArray} {c d : Bool} (h : a = b) (k : c = d) : Ending.returned (.tuple #[.string a, .bool c]) = .returned (.tuple #[.string b, .bool d]) := by rw [h, k]

theorem l01Six_yes (n : Int) (w : World) (h : 1 ≤ n ∧ n ≤ 6) : Calls Tryz.prog 25 #[.int .i64 n, .int .i64 1, .int .i64 6] w fun e w' => e = .returned (.bool true) ∧ w' = w := by
  obtain ⟨h1, h2⟩ := h
  go_enter Tryz.func25, Tryz.ntmps25
  go_wp2
  go_ret
  exact ⟨rfl, rfl⟩

theorem l01Six_no (n : Int) (w : World) (h : ¬ (1 ≤ n ∧ n ≤ 6)) : Calls Tryz.prog 25 #[.int .i64 n, .int .i64 1, .int .i64 6] w fun e w' => e = .returned (.bool false) ∧ w' = w := by
  rcases (show ¬ 1 ≤ n ∨ (1 ≤ n ∧ ¬ n ≤ 6) by omega) with h1 | ⟨h1, h2⟩
  all_goals
    clear h
    go_enter Tryz.func25, Tryz.ntmps25
    go_wp2
    go_ret
    exact ⟨rfl, rfl⟩

set_option maxHeartbeats 1000000 in
theorem l03Name_any (s : ByteArray) (w : World) (hs : s.size ≤ maxLen) : Calls Tryz.prog 83 #[.string s] w fun e w' => e = .returned (.bool (nmB s)) ∧ w' = w := by
  unfold maxLen at hs
  by_cases c : 1 ≤ s.size ∧ s.size ≤ 6
  · have c' : 1 ≤ (s.size : Int) ∧ (s.size : Int) ≤ 6 := by omega
    have C := hideIt c'
    obtain ⟨c1, c2⟩ := c
    clear c'
    go_enter Tryz.func83, Tryz.ntmps83
    go_wp2_with (go_at_call 25; refine (l01Six_yes _ _ C.out).mono ?_; rintro e w' ⟨rfl, rfl⟩)
    go_loop [3] (fun i => ∃ k : Nat, k ≤ s.size ∧ i = .int .i64 k ∧ Hid (∀ j (h : j < s.size), j < k → 97 ≤ s[j].toNat ∧ s[j].toNat ≤ 122)) (fun i => s.size - (intOf i).toNat)
    case atStart => exact ⟨0, by omega, rfl, fun j h b => absurd b (by omega)⟩
    case round =>
      obtain ⟨k, hk, rfl, H⟩ := hrel
      by_cases hlt : k < s.size
      · rcases (show ((s[k].toNat : Int) < 97) ∨ (¬ ((s[k].toNat : Int) < 97) ∧ (122 : Int) < (s[k].toNat : Int)) ∨ (¬ ((s[k].toNat : Int) < 97) ∧ ¬ (122 : Int) < (s[k].toNat : Int)) by omega) with d | ⟨d, d'⟩ | ⟨d, d'⟩
        · have E := hideIt (nmB_other hlt (by omega))
          go_wp2
          go_ret
          exact ⟨ret_bool E.out.symm, rfl⟩
        · have E := hideIt (nmB_other hlt (by omega))
          go_wp2
          go_ret
          exact ⟨ret_bool E.out.symm, rfl⟩
        · go_wp2
          go_round
          case rel =>
            refine ⟨k + 1, by omega, by go_num, fun j h b => ?_⟩
            by_cases e : j = k
            · subst e; omega
            · exact H.out j h (by omega)
          case measure => simp [intOf]; omega
      · have E := hideIt (nmB_all c1 c2 (fun j h => H.out j h (by omega)))
        go_wp2
        go_ret
        exact ⟨ret_bool E.out.symm, rfl⟩
  · have c' : ¬ (1 ≤ (s.size : Int) ∧ (s.size : Int) ≤ 6) := by omega
    have C := hideIt c'
    have E := hideIt (show nmB s = false from decide_eq_false (fun x => c ⟨x.1, x.2.1⟩))
    clear c c'
    go_enter Tryz.func83, Tryz.ntmps83
    go_wp2_with (go_at_call 25; refine (l01Six_no _ _ C.out).mono ?_; rintro e w' ⟨rfl, rfl⟩)
    go_ret
    exact ⟨ret_bool E.out.symm, rfl⟩

theorem pack_long {s : ByteArray} (h : 65536 < s.size) : packV s = 0 ∧ packC s = 2 := by
  unfold packV packC
  rw [if_neg (by rw [nmB_long (by omega)]; simp), if_pos h]
  exact ⟨rfl, rfl⟩
theorem pack_not {s : ByteArray} (h : ¬ 65536 < s.size) (h2 : nmB s = false) : packV s = 0 ∧ packC s = 12 := by
  unfold packV packC
  rw [h2, if_neg h]
  exact ⟨rfl, rfl⟩
theorem pack_yes {s : ByteArray} (h : nmB s = true) : packV s = ((pk s s.size : Nat) : Int) ∧ packC s = 0 := by
  unfold packV packC
  have := (nmB_true h).2.1
  rw [if_pos h, if_neg (by omega), if_pos h]
  exact ⟨rfl, rfl⟩

set_option maxRecDepth 100000 in
set_option maxHeartbeats 4000000 in
theorem implPackName_any (s : ByteArray) (w : World) (hs : s.size ≤ maxLen) : Calls Tryz.prog 68 #[.string s] w fun e w' => e = .returned (.tuple #[.int .i64 (packV s), .int .i64 (packC s)]) ∧ Below w.heap.size w w' := by
  unfold maxLen at hs
  by_cases c0 : 65536 < s.size
  · have E := hideIt (pack_long c0)
    go_enter Tryz.func68, Tryz.ntmps68
    go_wp2
    go_ret2
    exact ⟨ret_two E.out.1.symm E.out.2.symm, Below.refl _ _⟩
  by_cases c1 : s.size < 1
  · have E := hideIt (pack_not c0 (nmB_short c1))
    go_enter Tryz.func68, Tryz.ntmps68
    go_wp2
    go_ret2
    exact ⟨ret_two E.out.1.symm E.out.2.symm, Below.refl _ _⟩
  by_cases c2 : 6 < s.size
  · have E := hideIt (pack_not c0 (nmB_long c2))
    go_enter Tryz.func68, Tryz.ntmps68
    go_wp2
    go_ret2
    exact ⟨ret_two E.out.1.symm E.out.2.symm, Below.refl _ _⟩
  have hconv := run_bytes_of_string (P := Tryz.prog) w 9 123 5 s Tryz.underlying9 Tryz.underlying123 Tryz.underlying5
  generalize hcap : grownCap w s.size 0 5 = cap at hconv
  have CELL : Hid (∀ k (h : k < s.size), (w.drew.alloc (.cells (bytesRow s cap) 5 ((bytesRow s cap).size, (bytesRow s cap).size + 1))).cell? ⟨w.heap.size, k, none⟩ = some (.int .u8 (s[k].toNat : Int))) := fun k h => by
    have e := World.cell?_alloc_mark w.drew (bytesRow s cap) 5 ((bytesRow s cap).size, (bytesRow s cap).size + 1) k
    rw [bytesRow_at s cap k h] at e
    exact e
  have BB : Hid (Below w.heap.size w (w.drew.alloc (.cells (bytesRow s cap) 5 ((bytesRow s cap).size, (bytesRow s cap).size + 1)))) := ((Below.refl _ _).drew).alloc (Nat.le_refl _) _
  clear hcap
  generalize w.drew.alloc (.cells (bytesRow s cap) 5 ((bytesRow s cap).size, (bytesRow s cap).size + 1)) = w1 at hconv CELL BB
  go_enter Tryz.func68, Tryz.ntmps68
  go_wp2
  go_loop [4, 6, 21] (fun n _ i => ∃ k : Nat, k ≤ s.size ∧ i = .int .i64 k ∧ n = .int .i64 ((pk s k : Nat) : Int) ∧ Hid (∀ j (h : j < s.size), j < k → 97 ≤ s[j].toNat ∧ s[j].toNat ≤ 122)) (fun _ _ i => s.size - (intOf i).toNat)
  case atStart => exact ⟨0, by omega, rfl, by rw [pk_zero]; rfl, fun j h b => absurd b (by omega)⟩
  case round =>
    obtain ⟨k, hk, rfl, rfl, H⟩ := hrel
    by_cases hlt : k < s.size
    · have x0 := CELL.out k hlt
      have bd : pk s k < 387420489 := pk_lt H.out (by omega)
      have SU := hideIt (pk_succ s k hlt)
      have b255 : s[k].toNat < 256 := s[k].toNat_lt
      have NO := hideIt (nmB_other (s := s) hlt)
      have NX : Hid (97 ≤ s[k].toNat ∧ s[k].toNat ≤ 122 → ∀ j (h : j < s.size), j < k + 1 → 97 ≤ s[j].toNat ∧ s[j].toNat ≤ 122) := fun hx j h b => by
        by_cases e : j = k
        · subst e; exact hx
        · exact H.out j h (by omega)
      generalize s[k].toNat = x at x0 SU b255 NO NX
      rcases (show ((x : Int) < 97) ∨ (¬ ((x : Int) < 97) ∧ (122 : Int) < (x : Int)) ∨ (¬ ((x : Int) < 97) ∧ ¬ (122 : Int) < (x : Int)) by omega) with d | ⟨d, d'⟩ | ⟨d, d'⟩
      · have E := hideIt (pack_not c0 (NO.out (by omega)))
        go_wp2
        go_ret2
        exact ⟨ret_two E.out.1.symm E.out.2.symm, BB.out⟩
      · have E := hideIt (pack_not c0 (NO.out (by omega)))
        go_wp2
        go_ret2
        exact ⟨ret_two E.out.1.symm E.out.2.symm, BB.out⟩
      · go_wp2
        go_round
        case rel => exact ⟨k + 1, by omega, by go_num, by rw [SU.out]; congr 1; omega, NX.out (by omega)⟩
        case measure => simp [intOf]; omega
    · have ek : k = s.size := by omega
      subst ek
      have E := hideIt (pack_yes (nmB_all (s := s) (by omega) (by omega) (fun j h => H.out j h h)))
      go_wp2
      go_ret2
      exact ⟨ret_two E.out.1.symm E.out.2.symm, BB.out⟩

set_option maxRecDepth 100000 in
set_option maxHeartbeats 4000000 in
theorem l03Pack_any (s : ByteArray) (w : World) (hs : nmB s = true) : Calls Tryz.prog 91 #[.string s] w fun e w' => e = .returned (.int .i64 ((pk s s.size : Nat) : Int)) ∧ w' = w := by
  have N := hideIt (nmB_true hs)
  have h6 : s.size ≤ 6 := (nmB_true hs).2.1
  clear hs
  go_enter Tryz.func91, Tryz.ntmps91
  go_wp2
  go_loop [3, 4] (fun n i => ∃ k : Nat, k ≤ s.size ∧ i = .int .i64 k ∧ n = .int .i64 ((pk s k : Nat) : Int)) (fun _ i => s.size - (intOf i).toNat)
  case atStart => exact ⟨0, by omega, rfl, by rw [pk_zero]; rfl⟩
  case round =>
    obtain ⟨k, hk, rfl, rfl⟩ := hrel
    by_cases hlt : k < s.size
    · have bd : pk s k < 387420489 := pk_lt (fun j h _ => N.out.2.2 j h) (by omega)
      have SU := hideIt (pk_succ s k hlt)
      have b1 := N.out.2.2 k hlt
      go_wp2
      go_round
      case rel => exact ⟨k + 1, by omega, by go_num, by rw [SU.out]; congr 1; omega⟩
      case measure => simp [intOf]; omega
    · have ek : k = s.size := by omega
      subst ek
      go_wp2
      go_ret
      exact ⟨rfl, rfl⟩

end Go.Proofs.YtpgdpachomdfhaaGreatDoor

namespace Go.Proofs.YtpgdpachomdfhaaGreatDoor
open Go.RowKit

/-- The updates of an inode: the code, and the list. -/
def iuC (i : Int) (x : Ino) : Int := if 0 ≤ i ∧ i ≤ 15 then (if inoB x = true then 0 else 1) else 4
def iuL (i : Int) (x : Ino) : List Se := if 0 ≤ i ∧ i ≤ 15 then (if inoB x = true then wrL i x 8 else []) else []
theorem iu_cases (i : Int) (x : Ino) : (¬ (0 ≤ i ∧ i ≤ 15) ∧ iuC i x = 4 ∧ iuL i x = []) ∨ ((0 ≤ i ∧ i ≤ 15) ∧ inoB x = false ∧ iuC i x = 1 ∧ iuL i x = []) ∨ ((0 ≤ i ∧ i ≤ 15) ∧ inoB x = true ∧ iuC i x = 0 ∧ iuL i x = wrL i x 8) := by
  unfold iuC iuL
  by_cases h : 0 ≤ i ∧ i ≤ 15
  · cases q : inoB x
    · exact .inr (.inl ⟨h, rfl, by rw [if_pos h, if_neg (by decide)], by rw [if_pos h, if_neg (by decide)]⟩)
    · exact .inr (.inr ⟨h, rfl, by rw [if_pos h, if_pos rfl], by rw [if_pos h, if_pos rfl]⟩)
  · exact .inl ⟨h, by rw [if_neg h], by rw [if_neg h]⟩
theorem iuL_len (i : Int) (x : Ino) : (iuL i x).length ≤ 11 := by
  rcases iu_cases i x with ⟨_, _, e⟩ | ⟨_, _, _, e⟩ | ⟨_, _, _, e⟩ <;> rw [e]
  · simp
  · simp
  · rw [wrL_len]; omega
theorem row_none (w : World) (t : TypeId) (size : Nat) : Row (w.alloc (.cells #[] t)) t size w.heap.size (w.alloc (.cells #[] t)).heap.size (.slice (some ⟨w.heap.size, 0, none⟩) 0 0) 0 [] :=
  own_block (World.ownsRow_lit w #[] 0 (Nat.le_refl _) (by simp [maxLen]) (by simp))
theorem Ino.all {x : Ino} {w' : World} {b : Nat} (h : ∀ j, w'.cell? ⟨b, j, none⟩ = x.cs[j]?) : w'.cell? ⟨b, 0, none⟩ = some (.int .i64 x.kind) ∧ w'.cell? ⟨b, 1, none⟩ = some (.int .i64 x.size) ∧ w'.cell? ⟨b, 2, none⟩ = some (.int .i64 x.links) ∧ w'.cell? ⟨b, 3, none⟩ = some (.int .i64 x.m0) ∧ w'.cell? ⟨b, 4, none⟩ = some (.int .i64 x.m1) ∧ w'.cell? ⟨b, 5, none⟩ = some (.int .i64 x.m2) ∧ w'.cell? ⟨b, 6, none⟩ = some (.int .i64 x.m3) ∧ w'.cell? ⟨b, 7, none⟩ = some (.int .i64 x.m4) ∧ w'.cell? ⟨b, 8, none⟩ = some (.int .i64 x.m5) ∧ w'.cell? ⟨b, 9, none⟩ = some (.int .i64 x.m6) ∧ w'.cell? ⟨b, 10, none⟩ = some (.int .i64 x.m7) := ⟨h 0, h 1, h 2, h 3, h 4, h 5, h 6, h 7, h 8, h 9, h 10⟩

end Go.Proofs.YtpgdpachomdfhaaGreatDoor
