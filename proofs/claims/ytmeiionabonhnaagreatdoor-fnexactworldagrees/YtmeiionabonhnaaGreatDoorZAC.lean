/- Several texts laid together: Wd, ImA, Wt, ImB. -/
import Derived.Test.YtmeiionabonhnaaGreatDoorZAA
import Derived.BigQuiet
import Derived.Deep.QuietTactic
namespace Go.Proofs.YtmeiionabonhnaaGreatDoor
open Go.RowKit
theorem l01In_yes (n lo hi : Int) (w : World) (h : lo ≤ n ∧ n ≤ hi) : Calls Tryz.prog 125 #[.int .i64 n, .int .i64 lo, .int .i64 hi] w fun e w' => e = .returned (.bool true) ∧ w' = w := by
  obtain ⟨h1, h2⟩ := h
  go_enter Tryz.func125, Tryz.ntmps125
  go_wp2
  go_ret
  exact ⟨rfl, rfl⟩
theorem l01In_no (n lo hi : Int) (w : World) (h : ¬ (lo ≤ n ∧ n ≤ hi)) : Calls Tryz.prog 125 #[.int .i64 n, .int .i64 lo, .int .i64 hi] w fun e w' => e = .returned (.bool false) ∧ w' = w := by
  rcases (show ¬ lo ≤ n ∨ (lo ≤ n ∧ ¬ n ≤ hi) by omega) with h1 | ⟨h1, h2⟩
  all_goals
    clear h
    go_enter Tryz.func125, Tryz.ntmps125
    go_wp2
    go_ret
    exact ⟨rfl, rfl⟩
theorem isIndex_yes (n hi : Int) (w : World) (h : 0 ≤ n ∧ n < hi) : Calls Tryz.prog 235 #[.int .i64 n, .int .i64 hi] w fun e w' => e = .returned (.bool true) ∧ w' = w := by
  obtain ⟨h1, h2⟩ := h
  go_enter Tryz.func235, Tryz.ntmps235
  go_wp2
  go_ret
  exact ⟨rfl, rfl⟩
theorem isIndex_no (n hi : Int) (w : World) (h : ¬ (0 ≤ n ∧ n < hi)) : Calls Tryz.prog 235 #[.int .i64 n, .int .i64 hi] w fun e w' => e = .returned (.bool false) ∧ w' = w := by
  rcases (show ¬ 0 ≤ n ∨ (0 ≤ n ∧ ¬ n < hi) by omega) with h1 | ⟨h1, h2⟩
  all_goals
    clear h
    go_enter Tryz.func235, Tryz.ntmps235
    go_wp2
    go_ret
    exact ⟨rfl, rfl⟩
theorem l03Inode_any (i f : Int) (w : World) (h : 0 ≤ i ∧ i < 16) (k : 0 ≤ f ∧ f < 11) : Calls Tryz.prog 92 #[.int .i64 i, .int .i64 f] w fun e w' => e = .returned (.int .i64 (48 + 12 * i + f)) ∧ w' = w := by
  go_enter Tryz.func92, Tryz.ntmps92
  go_wp2
  go_ret
  exact ⟨ret_int (by first | rfl | omega | (go_num; omega)), rfl⟩
theorem l03Dirent_any (i f : Int) (w : World) (h : 0 ≤ i ∧ i < 24) (k : 0 ≤ f ∧ f < 3) : Calls Tryz.prog 93 #[.int .i64 i, .int .i64 f] w fun e w' => e = .returned (.int .i64 (240 + 3 * i + f)) ∧ w' = w := by
  go_enter Tryz.func93, Tryz.ntmps93
  go_wp2
  go_ret
  exact ⟨ret_int (by first | rfl | omega | (go_num; omega)), rfl⟩
end Go.Proofs.YtmeiionabonhnaaGreatDoor

namespace Go.Proofs.YtmeiionabonhnaaGreatDoor
open Go.RowKit
theorem eight_set {w : World} {b : Nat} {t : TypeId} {xs : List Value} (h : w.heap[b]? = some (.cells xs.toArray t (0, 0))) (j : Nat) (u : Value) : (w.setCell ⟨b, j, none⟩ u).heap[b]? = some (.cells (xs.set j u).toArray t (0, 0)) := by
  simp [World.setCell, Array.getElem?_modify, h]
theorem eight_at {w : World} {b : Nat} {t : TypeId} {xs : List Value} (h : w.heap[b]? = some (.cells xs.toArray t (0, 0))) (j : Nat) : w.cell? ⟨b, j, none⟩ = xs[j]? ∧ w.frozen? ⟨b, j, none⟩ = false := by
  simp [World.cell?, World.frozen?, h]
structure Ino where
  kind : Int
  size : Int
  links : Int
  m0 : Int
  m1 : Int
  m2 : Int
  m3 : Int
  m4 : Int
  m5 : Int
  m6 : Int
  m7 : Int
def Ino.map (x : Ino) : List Int := [x.m0, x.m1, x.m2, x.m3, x.m4, x.m5, x.m6, x.m7]
def Ino.v (x : Ino) : Value := .agg #[.int .i64 x.kind, .int .i64 x.size, .int .i64 x.links, .int .i64 x.m0, .int .i64 x.m1, .int .i64 x.m2, .int .i64 x.m3, .int .i64 x.m4, .int .i64 x.m5, .int .i64 x.m6, .int .i64 x.m7]
def Ino.cs (x : Ino) : List Value := [.int .i64 x.kind, .int .i64 x.size, .int .i64 x.links, .int .i64 x.m0, .int .i64 x.m1, .int .i64 x.m2, .int .i64 x.m3, .int .i64 x.m4, .int .i64 x.m5, .int .i64 x.m6, .int .i64 x.m7]
end Go.Proofs.YtmeiionabonhnaaGreatDoor

namespace Go.Proofs.YtmeiionabonhnaaGreatDoor
open Go.RowKit
def TS (w : World) : Prop := ∃ t fr, w.heap[6]? = some (.cells #[.int .i64 1, .int .i64 24, .int .i64 32] t fr)
theorem TS.lt {w : World} (h : TS w) : 6 < w.heap.size := by
  obtain ⟨t, fr, h⟩ := h
  exact (Array.getElem?_eq_some_iff.1 h).1
theorem TS.below {w w' : World} (h : TS w) (hb : Below w.heap.size w w') : TS w' := by
  have hl := h.lt
  obtain ⟨t, fr, h⟩ := h
  exact ⟨t, fr, (hb.block _ hl).trans h⟩
theorem TS.cells {w : World} (h : TS w) : w.cell? ⟨6, 0, none⟩ = some (.int .i64 1) ∧ w.cell? ⟨6, 1, none⟩ = some (.int .i64 24) ∧ w.cell? ⟨6, 2, none⟩ = some (.int .i64 32) := by
  obtain ⟨t, fr, h⟩ := h
  simp [World.cell?, h]
def addrB (t a : Int) : Bool := decide ((t = 0 ∧ a = 0) ∨ (t = 1 ∧ 0 ≤ a ∧ a < 24) ∨ (t = 2 ∧ 0 ≤ a ∧ a < 32))
theorem addrB_of {t a : Int} (h : (t = 0 ∧ a = 0) ∨ (t = 1 ∧ 0 ≤ a ∧ a < 24) ∨ (t = 2 ∧ 0 ≤ a ∧ a < 32)) : addrB t a = true := decide_eq_true h
theorem addrB_not {t a : Int} (h : ¬ ((t = 0 ∧ a = 0) ∨ (t = 1 ∧ 0 ≤ a ∧ a < 24) ∨ (t = 2 ∧ 0 ≤ a ∧ a < 32))) : addrB t a = false := decide_eq_false h
theorem addrB_true {t a : Int} (h : addrB t a = true) : (t = 0 ∧ a = 0) ∨ (t = 1 ∧ 0 ≤ a ∧ a < 24) ∨ (t = 2 ∧ 0 ≤ a ∧ a < 32) := of_decide_eq_true h
def tieB (e : Int) : Bool := decide (0 ≤ e) && addrB (e % 4) (e / 4)
def tieT (e : Int) : Int := if tieB e = true then e % 4 else 0
def tieA (e : Int) : Int := if tieB e = true then e / 4 else 0
def tieC (e : Int) : Int := if tieB e = true then 0 else 3
theorem tie_in {e : Int} (h : tieB e = true) : tieT e = e % 4 ∧ tieA e = e / 4 ∧ tieC e = 0 := by unfold tieT tieA tieC; rw [if_pos h, if_pos h, if_pos h]; exact ⟨rfl, rfl, rfl⟩
theorem tie_out {e : Int} (h : tieB e = false) : tieT e = 0 ∧ tieA e = 0 ∧ tieC e = 3 := by unfold tieT tieA tieC; rw [h]; exact ⟨rfl, rfl, rfl⟩
theorem addrB_neg {n : Int} (h : n < 0) : addrB (n.tmod 4) (n.tdiv 4) = false := by
  apply addrB_not
  obtain ⟨m, rfl⟩ : ∃ m : Int, n = -m := ⟨-n, by omega⟩
  rw [Int.neg_tmod, Int.neg_tdiv, Int.tmod_eq_emod_of_nonneg (by omega), Int.tdiv_eq_ediv_of_nonneg (by omega)]
  omega
theorem ret_three {a b c d e f : Int} (h : a = b) (k : c = d) (l : e = f) : Ending.returned (.tuple #[.int .i64 a, .int .i64 c, .int .i64 e]) = .returned (.tuple #[.int .i64 b, .int .i64 d, .int .i64 f]) := by rw [h, k, l]
theorem isAddress_yes (t a : Int) (w : World) (hT : TS w) (h : addrB t a = true) : Calls Tryz.prog 270 #[.int .i64 t, .int .i64 a] w fun e w' => e = .returned (.bool true) ∧ w' = w := by
  obtain ⟨x0, x1, x2⟩ := hT.cells
  clear hT
  rcases addrB_true h with ⟨rfl, rfl⟩ | ⟨rfl, h1, h2⟩ | ⟨rfl, h1, h2⟩
  all_goals
    clear h
    go_enter Tryz.func270, Tryz.ntmps270
    go_wp2_with (go_at_call 235; refine (isIndex_yes _ _ _ (by omega)).mono ?_; rintro e w' ⟨rfl, rfl⟩)
    go_ret
    exact ⟨rfl, rfl⟩
theorem isAddress_no (t a : Int) (w : World) (hT : TS w) (h : addrB t a = false) : Calls Tryz.prog 270 #[.int .i64 t, .int .i64 a] w fun e w' => e = .returned (.bool false) ∧ w' = w := by
  obtain ⟨x0, x1, x2⟩ := hT.cells
  have h' : ¬ ((t = 0 ∧ a = 0) ∨ (t = 1 ∧ 0 ≤ a ∧ a < 24) ∨ (t = 2 ∧ 0 ≤ a ∧ a < 32)) := of_decide_eq_false h
  clear hT h
  rcases (show (t = 0 ∧ ¬ (0 ≤ a ∧ a < 1)) ∨ (t = 1 ∧ ¬ (0 ≤ a ∧ a < 24)) ∨ (t = 2 ∧ ¬ (0 ≤ a ∧ a < 32)) ∨ ¬ (0 ≤ t ∧ t < 3) by omega) with ⟨rfl, ha⟩ | ⟨rfl, ha⟩ | ⟨rfl, ha⟩ | ha
  all_goals
    have H := hideIt ha
    clear h' ha
    go_enter Tryz.func270, Tryz.ntmps270
    go_wp2_with (first | (go_at_call 235; refine (isIndex_yes _ _ _ (by omega)).mono ?_; rintro e w' ⟨rfl, rfl⟩) | (go_at_call 235; refine (isIndex_no _ _ _ H.out).mono ?_; rintro e w' ⟨rfl, rfl⟩))
    go_ret
    exact ⟨rfl, rfl⟩
theorem implTierOf_any (n : Int) (w : World) (hT : TS w) (h0 : -9223372036854775808 ≤ n) (h1 : n ≤ 9223372036854775807) : Calls Tryz.prog 232 #[.int .i64 n] w fun e w' => e = .returned (.tuple #[.int .i64 (tieT n), .int .i64 (tieA n), .int .i64 (tieC n)]) ∧ w' = w := by
  have T := hideIt hT
  clear hT
  by_cases c0 : 0 ≤ n
  · by_cases c : addrB (n % 4) (n / 4) = true
    · have E := hideIt (tie_in (e := n) (by unfold tieB; rw [c, decide_eq_true c0]; rfl))
      have C := hideIt c
      clear c
      go_enter Tryz.func232, Tryz.ntmps232
      go_wp2_with (go_at_call 270; refine (isAddress_yes _ _ _ T.out C.out).mono ?_; rintro e w' ⟨rfl, rfl⟩)
      go_ret3
      exact ⟨ret_three (by rw [E.out.1]) (by rw [E.out.2.1]) E.out.2.2.symm, rfl⟩
    · have c' : addrB (n % 4) (n / 4) = false := by simpa using c
      have E := hideIt (tie_out (e := n) (by unfold tieB; rw [c']; simp))
      have C := hideIt c'
      clear c c'
      go_enter Tryz.func232, Tryz.ntmps232
      go_wp2_with (go_at_call 270; refine (isAddress_no _ _ _ T.out C.out).mono ?_; rintro e w' ⟨rfl, rfl⟩)
      go_ret3
      exact ⟨ret_three E.out.1.symm E.out.2.1.symm E.out.2.2.symm, rfl⟩
  · have E := hideIt (tie_out (e := n) (by unfold tieB; rw [decide_eq_false c0]; rfl))
    go_enter Tryz.func232, Tryz.ntmps232
    go_wp2_with (go_at_call 270; refine (isAddress_no _ _ _ T.out (addrB_neg (by omega))).mono ?_; rintro e w' ⟨rfl, rfl⟩)
    go_ret3
    exact ⟨ret_three E.out.1.symm E.out.2.1.symm E.out.2.2.symm, rfl⟩
theorem l03Tier_any (n : Int) (w : World) (h0 : 0 ≤ n) (h1 : n ≤ 9223372036854775807) : Calls Tryz.prog 205 #[.int .i64 n] w fun e w' => e = .returned (.tuple #[.int .i64 (n % 4), .int .i64 (n / 4)]) ∧ w' = w := by
  go_enter Tryz.func205, Tryz.ntmps205
  go_wp2
  go_ret2
  exact ⟨rfl, rfl⟩
theorem l03Tier_neg (n : Int) (w : World) (h0 : n < 0) (h1 : -9223372036854775808 ≤ n) : Calls Tryz.prog 205 #[.int .i64 n] w fun e w' => (∃ x y : Int, e = .returned (.tuple #[.int .i64 x, .int .i64 y])) ∧ w' = w := by
  go_enter Tryz.func205, Tryz.ntmps205
  go_wp2
  go_ret2
  exact ⟨⟨_, _, rfl⟩, rfl⟩
theorem l03EntryOK_any (n : Int) (w : World) (h0 : -9223372036854775808 ≤ n) (h1 : n ≤ 9223372036854775807) : Calls Tryz.prog 184 #[.int .i64 n] w fun e w' => e = .returned (.bool (tieB n)) ∧ w' = w := by
  rcases (show n < 0 ∨ n = 0 ∨ 0 < n by omega) with c | rfl | c
  · have E := hideIt (show tieB n = false by unfold tieB; rw [decide_eq_false (by omega)]; rfl)
    have q0 : (n == 0) = false := by rw [beq_eq_false_iff_ne]; omega
    have q1 : ¬ 0 < n := by omega
    go_enter Tryz.func184, Tryz.ntmps184
    go_wp2_with fail
    refine (l03Tier_neg _ _ c h0).mono ?_
    rintro e w' ⟨⟨x, y, rfl⟩, rfl⟩
    go_wp2
    go_ret
    exact ⟨ret_bool E.out.symm, rfl⟩
  · go_enter Tryz.func184, Tryz.ntmps184
    go_wp2
    go_ret
    exact ⟨ret_bool (by decide), rfl⟩
  · have q0 : (n == 0) = false := by rw [beq_eq_false_iff_ne]; omega
    have E := hideIt (show tieB n = addrB (n % 4) (n / 4) by unfold tieB; rw [decide_eq_true (by omega)]; rfl)
    rcases (show (n % 4 = 1 ∧ n / 4 < 24) ∨ (n % 4 = 1 ∧ ¬ n / 4 < 24) ∨ (n % 4 = 2 ∧ n / 4 < 32) ∨ (n % 4 = 2 ∧ ¬ n / 4 < 32) ∨ (¬ n % 4 = 1 ∧ ¬ n % 4 = 2) by omega) with ⟨r, q⟩ | ⟨r, q⟩ | ⟨r, q⟩ | ⟨r, q⟩ | ⟨r, q⟩
    · have A := hideIt (addrB_of (t := n % 4) (a := n / 4) (by omega))
      have r1 : (n % 4 == 1) = true := by rw [beq_iff_eq]; exact r
      clear r
      go_enter Tryz.func184, Tryz.ntmps184
      go_wp2_with fail
      refine (l03Tier_any _ _ (by omega) h1).mono ?_
      rintro e w' ⟨rfl, rfl⟩
      go_wp2
      go_ret
      exact ⟨ret_bool (by rw [E.out, A.out]; first | done | exact decide_eq_false (by omega)), rfl⟩
    · have A := hideIt (addrB_not (t := n % 4) (a := n / 4) (by omega))
      have r1 : (n % 4 == 1) = true := by rw [beq_iff_eq]; exact r
      have r2 : (n % 4 == 2) = false := by rw [beq_eq_false_iff_ne]; omega
      clear r
      go_enter Tryz.func184, Tryz.ntmps184
      go_wp2_with fail
      refine (l03Tier_any _ _ (by omega) h1).mono ?_
      rintro e w' ⟨rfl, rfl⟩
      go_wp2
      go_ret
      exact ⟨ret_bool (by rw [E.out, A.out]; first | done | exact decide_eq_false (by omega)), rfl⟩
    · have A := hideIt (addrB_of (t := n % 4) (a := n / 4) (by omega))
      have r1 : (n % 4 == 1) = false := by rw [beq_eq_false_iff_ne]; omega
      have r2 : (n % 4 == 2) = true := by rw [beq_iff_eq]; exact r
      clear r
      go_enter Tryz.func184, Tryz.ntmps184
      go_wp2_with fail
      refine (l03Tier_any _ _ (by omega) h1).mono ?_
      rintro e w' ⟨rfl, rfl⟩
      go_wp2
      go_ret
      exact ⟨ret_bool (by rw [E.out, A.out]; first | done | exact decide_eq_false (by omega)), rfl⟩
    · have A := hideIt (addrB_not (t := n % 4) (a := n / 4) (by omega))
      have r1 : (n % 4 == 1) = false := by rw [beq_eq_false_iff_ne]; omega
      have r2 : (n % 4 == 2) = true := by rw [beq_iff_eq]; exact r
      clear r
      go_enter Tryz.func184, Tryz.ntmps184
      go_wp2_with fail
      refine (l03Tier_any _ _ (by omega) h1).mono ?_
      rintro e w' ⟨rfl, rfl⟩
      go_wp2
      go_ret
      exact ⟨ret_bool (by rw [E.out, A.out]; first | done | exact decide_eq_false (by omega)), rfl⟩
    · have A := hideIt (addrB_not (t := n % 4) (a := n / 4) (by omega))
      have r1 : (n % 4 == 1) = false := by rw [beq_eq_false_iff_ne]; exact r
      have r2 : (n % 4 == 2) = false := by rw [beq_eq_false_iff_ne]; exact q
      clear r q
      go_enter Tryz.func184, Tryz.ntmps184
      go_wp2_with fail
      refine (l03Tier_any _ _ (by omega) h1).mono ?_
      rintro e w' ⟨rfl, rfl⟩
      go_wp2
      go_ret
      exact ⟨ret_bool (by rw [E.out, A.out]; first | done | exact decide_eq_false (by omega)), rfl⟩
end Go.Proofs.YtmeiionabonhnaaGreatDoor

namespace Go.Proofs.YtmeiionabonhnaaGreatDoor
open Go.RowKit
def entB (i : Nat) (z size : Int) : Bool := tieB z && (z == 0 || decide ((i : Int) < size))
def mapTo (zs : List Int) (size : Int) (k : Nat) : Prop := ∀ i, i < k → entB i (zs.getD i 0) size = true
def mapB (zs : List Int) (size : Int) : Bool := (List.range 8).all fun i => entB i (zs.getD i 0) size
theorem mapB_of {zs : List Int} {size : Int} (h : mapTo zs size 8) : mapB zs size = true := by
  unfold mapB
  rw [List.all_eq_true]
  intro i hi
  exact h i (List.mem_range.1 hi)
theorem mapB_to {zs : List Int} {size : Int} (h : mapB zs size = true) : mapTo zs size 8 := by
  unfold mapB at h
  rw [List.all_eq_true] at h
  intro i hi
  exact h i (List.mem_range.2 hi)
theorem mapB_not {zs : List Int} {size : Int} {k : Nat} (hk : k < 8) (h : entB k (zs.getD k 0) size = false) : mapB zs size = false := by
  rw [Bool.eq_false_iff]
  intro e
  rw [mapB_to e k hk] at h
  exact absurd h (by decide)
theorem mapTo_succ {zs : List Int} {size : Int} {k : Nat} (h : mapTo zs size k) (g : entB k (zs.getD k 0) size = true) : mapTo zs size (k + 1) := by
  intro i hi
  by_cases e : i = k
  · rw [e]; exact g
  · exact h i (by omega)
def kindB (x : Ino) : Bool := if x.kind = 0 then decide (x.size = 0 ∧ x.links = 0 ∧ x.map = [0, 0, 0, 0, 0, 0, 0, 0]) else if x.kind = 2 then x.size == 0 && x.links == 1 else decide (0 < x.links)
def inoB (x : Ino) : Bool := decide (0 ≤ x.kind ∧ x.kind ≤ 2) && (decide (0 ≤ x.size ∧ x.size ≤ 8) && (decide (0 ≤ x.links ∧ x.links ≤ 24) && (mapB x.map x.size && kindB x)))
def Ino.R (x : Ino) : Prop := ∀ z ∈ x.map, -9223372036854775808 ≤ z ∧ z ≤ 9223372036854775807
theorem Ino.len (x : Ino) : x.map.length = 8 := rfl
theorem Ino.at (x : Ino) (k : Nat) (hk : k < 8) : x.cs[3 + k]? = some (.int .i64 (x.map.getD k 0)) := by
  rcases (show k = 0 ∨ k = 1 ∨ k = 2 ∨ k = 3 ∨ k = 4 ∨ k = 5 ∨ k = 6 ∨ k = 7 by omega) with rfl | rfl | rfl | rfl | rfl | rfl | rfl | rfl <;> rfl
theorem Ino.R.at {x : Ino} (h : x.R) (k : Nat) (hk : k < 8) : -9223372036854775808 ≤ x.map.getD k 0 ∧ x.map.getD k 0 ≤ 9223372036854775807 := by
  have e : x.map.getD k 0 = x.map[k]'(by rw [x.len]; exact hk) := by rw [List.getD_eq_getElem?_getD, List.getElem?_eq_getElem (by rw [x.len]; exact hk)]; rfl
  rw [e]
  exact h _ (List.getElem_mem _)
set_option maxRecDepth 100000 in
set_option maxHeartbeats 2000000 in
@[go_sem] theorem eqZero8 (m0 m1 m2 m3 m4 m5 m6 m7 : Int) (w : World) : (Op.equalIn 9999 148 (.agg #[.int .i64 m0, .int .i64 m1, .int .i64 m2, .int .i64 m3, .int .i64 m4, .int .i64 m5, .int .i64 m6, .int .i64 m7]) (.agg #[.int .i64 0, .int .i64 0, .int .i64 0, .int .i64 0, .int .i64 0, .int .i64 0, .int .i64 0, .int .i64 0])).run Tryz.prog w = .ok (decide ([m0, m1, m2, m3, m4, m5, m6, m7] = [0, 0, 0, 0, 0, 0, 0, 0])) w := by
  have u3 := Tryz.underlying3
  have a3 := Tryz.isAgg3
  have z3 := Tryz.sizeOf3
  rw [show (9999 : Nat) = 9998 + 1 from rfl, Op.equalIn]
  simp only [Sem.run_bind, run_underlying Tryz.underlying148, Result.andThen_ok]
  simp only [Std.Legacy.Range.forIn_eq_forIn_range', Std.Legacy.Range.size, Nat.sub_zero, Nat.add_sub_cancel, Nat.div_one, List.range'_succ, List.range'_zero, List.forIn_cons, List.forIn_nil]
  go_simp
  by_cases h0 : m0 = 0
  case neg => simp [h0]
  by_cases h1 : m1 = 0
  case neg => simp [h0, h1]
  by_cases h2 : m2 = 0
  case neg => simp [h0, h1, h2]
  by_cases h3 : m3 = 0
  case neg => simp [h0, h1, h2, h3]
  by_cases h4 : m4 = 0
  case neg => simp [h0, h1, h2, h3, h4]
  by_cases h5 : m5 = 0
  case neg => simp [h0, h1, h2, h3, h4, h5]
  by_cases h6 : m6 = 0
  case neg => simp [h0, h1, h2, h3, h4, h5, h6]
  by_cases h7 : m7 = 0
  case neg => simp [h0, h1, h2, h3, h4, h5, h6, h7]
  simp [h0, h1, h2, h3, h4, h5, h6, h7]
set_option maxRecDepth 100000 in
set_option maxHeartbeats 2000000 in
theorem l05Inode_any (x : Ino) (w : World) (hr : x.R) : Calls Tryz.prog 126 #[x.v] w fun e w' => e = .returned (.bool (inoB x)) ∧ Below w.heap.size w w' := by
  have hv : x.v = .agg x.cs.toArray := rfl
  have c0 : (w.alloc (.cells x.cs.toArray 150)).cell? ⟨w.heap.size, 0, none⟩ = some (.int .i64 x.kind) := (eight_at (xs := x.cs) (at_new rfl) 0).1
  have c1 : (w.alloc (.cells x.cs.toArray 150)).cell? ⟨w.heap.size, 1, none⟩ = some (.int .i64 x.size) := (eight_at (xs := x.cs) (at_new rfl) 1).1
  have c2 : (w.alloc (.cells x.cs.toArray 150)).cell? ⟨w.heap.size, 2, none⟩ = some (.int .i64 x.links) := (eight_at (xs := x.cs) (at_new rfl) 2).1
  have CM := hideIt (show ∀ k, k < 8 → (w.alloc (.cells x.cs.toArray 150)).cell? ⟨w.heap.size, 3 + k, none⟩ = some (.int .i64 (x.map.getD k 0)) from fun k hk => ((eight_at (xs := x.cs) (at_new rfl) (3 + k)).1).trans (x.at k hk))
  have B := hideIt ((Below.refl w.heap.size w).alloc (Nat.le_refl _) (.cells x.cs.toArray 150))
  rw [hv]
  by_cases h0 : 0 ≤ x.kind ∧ x.kind ≤ 2
  · by_cases h1 : 0 ≤ x.size ∧ x.size ≤ 8
    · by_cases h2 : 0 ≤ x.links ∧ x.links ≤ 24
      · have E := hideIt (show inoB x = (mapB x.map x.size && kindB x) by unfold inoB; rw [decide_eq_true h0, decide_eq_true h1, decide_eq_true h2]; rfl)
        have H := hideIt (And.intro h0 (And.intro h1 h2))
        clear h0 h1 h2
        go_enter Tryz.func126, Tryz.ntmps126
        go_wp2_with fail
        refine (l01In_yes _ _ _ _ H.out.1).mono ?_
        rintro e w' ⟨rfl, rfl⟩
        go_wp2_with fail
        refine (l01In_yes _ _ _ _ H.out.2.1).mono ?_
        rintro e w' ⟨rfl, rfl⟩
        go_wp2_with fail
        refine (l01In_yes _ _ _ _ H.out.2.2).mono ?_
        rintro e w' ⟨rfl, rfl⟩
        go_wp2
        obtain ⟨wa, hwa⟩ : ∃ wa, wa = w.alloc (.cells x.cs.toArray 150) := ⟨_, rfl⟩
        rw [← hwa] at c0 c1 c2 CM B ⊢
        have CA := hideIt (show ∀ j, wa.cell? ⟨w.heap.size, j, none⟩ = x.cs[j]? by rw [hwa]; exact fun j => (eight_at (xs := x.cs) (at_new rfl) j).1)
        clear hwa
        go_loopw [3] (fun i wr => ∃ k : Nat, k ≤ 8 ∧ i = .int .i64 k ∧ wr = wa ∧ Hid (mapTo x.map x.size k)) (fun i _ => 8 - (intOf i).toNat)
        case atStart => exact ⟨0, by omega, rfl, rfl, fun i hi => absurd hi (by omega)⟩
        case round =>
          obtain ⟨k, hk, rfl, rfl, M⟩ := hrel
          by_cases hlt : k < 8
          · have c3 := CM.out k hlt
            obtain ⟨r0, r1⟩ := hr.at k hlt
            have k0 : (0 : Int) ≤ (k : Int) := by omega
            have k1 : (k : Int) < 8 := by omega
            have MN := hideIt (fun e => mapB_not (zs := x.map) (size := x.size) hlt e)
            have MS := hideIt (fun e => mapTo_succ (k := k) M.out e)
            generalize x.map.getD k 0 = z at c3 r0 r1 MN MS
            clear CM CA M
            cases ht : tieB z with
            | false =>
              have F := hideIt (show inoB x = false by rw [E.out, MN.out (by unfold entB; rw [ht]; rfl), Bool.false_and])
              have T := hideIt ht
              clear ht MN MS E
              go_wp2_with fail
              refine (l03EntryOK_any _ _ r0 r1).mono ?_
              rintro e w' ⟨rfl, rfl⟩
              rw [T.out]
              go_wp2
              go_ret
              exact ⟨ret_bool F.out.symm, B.out⟩
            | true =>
              by_cases hz : z = 0
              · have q : (z != 0) = false := by rw [hz]; rfl
                have G := hideIt (MS.out (by unfold entB; rw [ht, hz]; rfl))
                have T := hideIt ht
                clear ht MN MS hz
                go_wp2_with fail
                refine (l03EntryOK_any _ _ r0 r1).mono ?_
                rintro e w' ⟨rfl, rfl⟩
                rw [T.out]
                go_wp2
                go_roundw
                case rel => exact ⟨k + 1, by omega, by go_num, trivial, G⟩
                case measure => simp [intOf]; omega
              · have q : (z != 0) = true := by rw [bne_iff_ne]; exact hz
                have qz : (z == 0) = false := by rw [beq_eq_false_iff_ne]; exact hz
                by_cases hs : (k : Int) < x.size
                · have q2 : ¬ x.size ≤ (k : Int) := by omega
                  have G := hideIt (MS.out (by unfold entB; rw [ht, qz, decide_eq_true hs]; rfl))
                  have T := hideIt ht
                  clear ht MN MS hz hs qz
                  go_wp2_with fail
                  refine (l03EntryOK_any _ _ r0 r1).mono ?_
                  rintro e w' ⟨rfl, rfl⟩
                  rw [T.out]
                  go_wp2
                  go_roundw
                  case rel => exact ⟨k + 1, by omega, by go_num, trivial, G⟩
                  case measure => simp [intOf]; omega
                · have q2 : x.size ≤ (k : Int) := by omega
                  have F := hideIt (show inoB x = false by rw [E.out, MN.out (by unfold entB; rw [ht, qz, decide_eq_false hs]; rfl), Bool.false_and])
                  have T := hideIt ht
                  clear ht MN MS hz hs qz E
                  go_wp2_with fail
                  refine (l03EntryOK_any _ _ r0 r1).mono ?_
                  rintro e w' ⟨rfl, rfl⟩
                  rw [T.out]
                  go_wp2
                  go_ret
                  exact ⟨ret_bool F.out.symm, B.out⟩
          · obtain rfl : k = 8 := by omega
            have F := hideIt (show inoB x = kindB x by rw [E.out, mapB_of M.out, Bool.true_and])
            clear E M CM
            rcases (show x.kind = 0 ∨ x.kind = 1 ∨ x.kind = 2 by have := H.out; omega) with hz | hz | hz
            · have K := hideIt (show kindB x = decide (x.size = 0 ∧ x.links = 0 ∧ x.map = [0, 0, 0, 0, 0, 0, 0, 0]) by unfold kindB; rw [if_pos hz])
              rw [hz] at c0
              have c3 : wr.cell? ⟨w.heap.size, 3, none⟩ = some (.int .i64 x.m0) := CA.out 3
              have c4 : wr.cell? ⟨w.heap.size, 4, none⟩ = some (.int .i64 x.m1) := CA.out 4
              have c5 : wr.cell? ⟨w.heap.size, 5, none⟩ = some (.int .i64 x.m2) := CA.out 5
              have c6 : wr.cell? ⟨w.heap.size, 6, none⟩ = some (.int .i64 x.m3) := CA.out 6
              have c7 : wr.cell? ⟨w.heap.size, 7, none⟩ = some (.int .i64 x.m4) := CA.out 7
              have c8 : wr.cell? ⟨w.heap.size, 8, none⟩ = some (.int .i64 x.m5) := CA.out 8
              have c9 : wr.cell? ⟨w.heap.size, 9, none⟩ = some (.int .i64 x.m6) := CA.out 9
              have c10 : wr.cell? ⟨w.heap.size, 10, none⟩ = some (.int .i64 x.m7) := CA.out 10
              clear CA
              go_wp2
              all_goals
                go_ret
                refine ⟨ret_bool ?_, B.out⟩
                rw [F.out, K.out, eq_comm]
                clear c0 c1 c2 c3 c4 c5 c6 c7 c8 c9 c10
                rename_i h9
                simp_all [Ino.map]
            · have K := hideIt (show kindB x = decide (0 < x.links) by unfold kindB; rw [if_neg (by omega), if_neg (by omega)])
              rw [hz] at c0
              clear CA
              go_wp2
              go_ret
              exact ⟨ret_bool (by rw [F.out, K.out]), B.out⟩
            · have K := hideIt (show kindB x = (x.size == 0 && x.links == 1) by unfold kindB; rw [if_neg (by omega), if_pos hz])
              rw [hz] at c0
              clear CA
              cases hq : (x.size == 0)
              all_goals
                rw [hq] at K
                go_wp2
                go_ret
                exact ⟨ret_bool (by rw [F.out, K.out]; rfl), B.out⟩
      · have E := hideIt (show inoB x = false by unfold inoB; rw [decide_eq_false h2, Bool.false_and, Bool.and_false, Bool.and_false])
        go_enter Tryz.func126, Tryz.ntmps126
        go_wp2_with fail
        refine (l01In_yes _ _ _ _ h0).mono ?_
        rintro e w' ⟨rfl, rfl⟩
        go_wp2_with fail
        refine (l01In_yes _ _ _ _ h1).mono ?_
        rintro e w' ⟨rfl, rfl⟩
        go_wp2_with fail
        refine (l01In_no _ _ _ _ h2).mono ?_
        rintro e w' ⟨rfl, rfl⟩
        go_wp2
        go_ret
        exact ⟨ret_bool E.out.symm, B.out⟩
    · have E := hideIt (show inoB x = false by unfold inoB; rw [decide_eq_false h1, Bool.false_and, Bool.and_false])
      go_enter Tryz.func126, Tryz.ntmps126
      go_wp2_with fail
      refine (l01In_yes _ _ _ _ h0).mono ?_
      rintro e w' ⟨rfl, rfl⟩
      go_wp2_with fail
      refine (l01In_no _ _ _ _ h1).mono ?_
      rintro e w' ⟨rfl, rfl⟩
      go_wp2
      go_ret
      exact ⟨ret_bool E.out.symm, B.out⟩
  · have E := hideIt (show inoB x = false by unfold inoB; rw [decide_eq_false h0, Bool.false_and])
    go_enter Tryz.func126, Tryz.ntmps126
    go_wp2_with fail
    refine (l01In_no _ _ _ _ h0).mono ?_
    rintro e w' ⟨rfl, rfl⟩
    go_wp2
    go_ret
    exact ⟨ret_bool E.out.symm, B.out⟩
end Go.Proofs.YtmeiionabonhnaaGreatDoor
