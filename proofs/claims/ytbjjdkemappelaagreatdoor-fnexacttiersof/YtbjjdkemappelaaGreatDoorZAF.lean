/- Several texts laid together: WdM, Nm. -/
import Derived.WalkKit
import Derived.Test.YtbjjdkemappelaaGreatDoorMem
import Derived.Laws.IdiomStrings
import Derived.Laws.BytesArg
import Derived.Deep.OwnRows
namespace Go.Proofs.YtbjjdkemappelaaGreatDoor
def digs (n : Nat) : List Nat := if _h : n = 0 then [] else digs (n / 27) ++ [n % 27]
termination_by n
decreasing_by omega
theorem digs_zero : digs 0 = [] := by rw [digs]; simp
theorem digs_pos {n : Nat} (h : 0 < n) : digs n = digs (n / 27) ++ [n % 27] := by rw [digs]; simp [show n ≠ 0 by omega]
def val (ds : List Nat) : Nat := ds.foldl (fun a d => 27 * a + d) 0
theorem val_snoc (ds : List Nat) (d : Nat) : val (ds ++ [d]) = 27 * val ds + d := by simp [val]
theorem digs_ne {n : Nat} (h : 0 < n) : 1 ≤ (digs n).length := by rw [digs_pos h]; simp
theorem snoc_ind {α : Type} {P : List α → Prop} (h0 : P []) (h1 : ∀ l x, P l → P (l ++ [x])) : ∀ l, P l := by
  intro l
  have : ∀ n (l : List α), l.length = n → P l := by
    intro n
    induction n with
    | zero => intro l hl; rw [List.length_eq_zero_iff.1 hl]; exact h0
    | succ n ih =>
      intro l hl
      have hne : l ≠ [] := by intro h; subst h; simp at hl
      rw [← List.dropLast_concat_getLast hne]
      exact h1 _ _ (ih _ (by simp [hl]))
  exact this _ l rfl
theorem val_lt (ds : List Nat) : (∀ d ∈ ds, d < 27) → val ds < 27 ^ ds.length := by
  refine snoc_ind (P := fun ds => (∀ d ∈ ds, d < 27) → val ds < 27 ^ ds.length) (fun _ => by simp [val]) (fun l x ih h => ?_) ds
  have hx := h x (by simp)
  have := ih (fun d hd => h d (by simp [hd]))
  rw [val_snoc, List.length_append, List.length_singleton, Nat.pow_succ]
  omega
theorem digs_len (k : Nat) : ∀ n, n < 27 ^ k → (digs n).length ≤ k := by
  induction k with
  | zero =>
    intro n h
    have : n = 0 := by simpa using h
    subst this
    rw [digs_zero]
    simp
  | succ k ih =>
    intro n h
    by_cases h0 : n = 0
    · subst h0; rw [digs_zero]; simp
    · rw [digs_pos (by omega), List.length_append, List.length_singleton]
      have := ih (n / 27) (by rw [Nat.pow_succ] at h; omega)
      omega
structure Dg (n m : Nat) (ds : List Nat) : Prop where
  eq : digs n = digs m ++ ds
  ok : ∀ d ∈ ds, 1 ≤ d ∧ d < 27
theorem Dg.start (n : Nat) : Dg n n [] := ⟨by simp, fun d h => by cases h⟩
theorem Dg.step {n m : Nat} {ds : List Nat} (h : Dg n m ds) (hm : 0 < m) (h1 : m % 27 ≠ 0) : Dg n (m / 27) (m % 27 :: ds) :=
  ⟨by rw [h.eq, digs_pos hm]; simp, fun d hd => by
    rcases List.mem_cons.1 hd with rfl | hd
    · omega
    · exact h.ok d hd⟩
theorem Dg.zero {n m : Nat} {ds : List Nat} (h : Dg n m ds) (hm : 0 < m) (h0 : m % 27 = 0) : ¬ ∀ d ∈ digs n, 1 ≤ d := fun x => by
  have := x (m % 27) (by rw [h.eq, digs_pos hm]; simp)
  omega
theorem Dg.many {n m : Nat} {ds : List Nat} (h : Dg n m ds) (hm : 0 < m) : ds.length < (digs n).length := by
  rw [h.eq, digs_pos hm]; simp; omega
theorem Dg.len {n m : Nat} {ds : List Nat} (h : Dg n m ds) : ds.length ≤ (digs n).length := by rw [h.eq]; simp
theorem Dg.done {n : Nat} {ds : List Nat} (h : Dg n 0 ds) : digs n = ds := by rw [h.eq, digs_zero]; simp
def nmB (s : ByteArray) : Bool := decide (1 ≤ s.size ∧ s.size ≤ 6 ∧ ∀ j (h : j < s.size), 97 ≤ s[j].toNat ∧ s[j].toNat ≤ 122)
theorem nmB_short {s : ByteArray} (h : s.size < 1) : nmB s = false := decide_eq_false (fun x => by omega)
theorem nmB_long {s : ByteArray} (h : 6 < s.size) : nmB s = false := decide_eq_false (fun x => by omega)
theorem nmB_other {s : ByteArray} {k : Nat} (h : k < s.size) (hb : ¬ (97 ≤ s[k].toNat ∧ s[k].toNat ≤ 122)) : nmB s = false := decide_eq_false (fun x => hb (x.2.2 k h))
theorem nmB_all {s : ByteArray} (h0 : 1 ≤ s.size) (h6 : s.size ≤ 6) (h : ∀ j (h : j < s.size), 97 ≤ s[j].toNat ∧ s[j].toNat ≤ 122) : nmB s = true := decide_eq_true ⟨h0, h6, h⟩
theorem nmB_true {s : ByteArray} (h : nmB s = true) : 1 ≤ s.size ∧ s.size ≤ 6 ∧ ∀ j (h : j < s.size), 97 ≤ s[j].toNat ∧ s[j].toNat ≤ 122 := of_decide_eq_true h
def letD (b : UInt8) : Nat := b.toNat - 96
def ltrs (s : ByteArray) : List Nat := s.data.toList.map letD
def pk (s : ByteArray) (k : Nat) : Nat := val ((ltrs s).take k)
theorem ltrs_len (s : ByteArray) : (ltrs s).length = s.size := by unfold ltrs; rw [List.length_map, Array.length_toList]; rfl
theorem ltrs_at (s : ByteArray) (j : Nat) (h : j < s.size) : (ltrs s)[j]'(by rw [ltrs_len]; exact h) = s[j].toNat - 96 := by
  simp only [ltrs, List.getElem_map, letD, Array.getElem_toList]
  rfl
theorem pk_zero (s : ByteArray) : pk s 0 = 0 := by simp [pk, val]
theorem pk_succ (s : ByteArray) (k : Nat) (h : k < s.size) : pk s (k + 1) = 27 * pk s k + (s[k].toNat - 96) := by
  unfold pk
  rw [List.take_succ_eq_append_getElem (by rw [ltrs_len]; exact h), val_snoc, ltrs_at s k h]
theorem pk_lt {s : ByteArray} {k : Nat} (hl : ∀ j (h : j < s.size), j < k → 97 ≤ s[j].toNat ∧ s[j].toNat ≤ 122) (h6 : k ≤ 6) : pk s k < 387420489 := by
  have h1 : pk s k < 27 ^ ((ltrs s).take k).length := by
    unfold pk
    apply val_lt
    intro d hd
    obtain ⟨i, hi, rfl⟩ := List.getElem_of_mem hd
    simp only [List.length_take, ltrs_len] at hi
    rw [List.getElem_take, ltrs_at s i (by omega)]
    have := hl i (by omega) (by omega)
    omega
  have h2 : ((ltrs s).take k).length ≤ 6 := by simp only [List.length_take]; omega
  have h3 : 27 ^ ((ltrs s).take k).length ≤ 27 ^ 6 := Nat.pow_le_pow_right (by omega) h2
  omega
def bytesOf (ds : List Nat) : ByteArray := ⟨(ds.map fun d => UInt8.ofNat (96 + d)).toArray⟩
theorem bytesOf_size (ds : List Nat) : (bytesOf ds).size = ds.length := by simp [bytesOf, ByteArray.size]
theorem bytesOf_at (ds : List Nat) (j : Nat) (h : j < (bytesOf ds).size) (hd : ∀ d ∈ ds, d < 27) : (bytesOf ds)[j].toNat = 96 + ds[j]'(by rw [bytesOf_size] at h; exact h) := by
  have hj : j < ds.length := by rw [bytesOf_size] at h; exact h
  have := hd _ (List.getElem_mem hj)
  have e : (bytesOf ds)[j] = UInt8.ofNat (96 + ds[j]) := by
    have e1 : (bytesOf ds)[j] = ((ds.map fun d => UInt8.ofNat (96 + d)).toArray)[j]'(by simpa using hj) := rfl
    rw [e1, List.getElem_toArray, List.getElem_map]
  rw [e, UInt8.toNat_ofNat']
  omega
theorem bytesOf_cons (d : Nat) (ds : List Nat) : (⟨#[UInt8.ofNat (96 + d)]⟩ : ByteArray) ++ bytesOf ds = bytesOf (d :: ds) := by
  apply ByteArray.ext
  simp [bytesOf]
theorem nmB_bytesOf {ds : List Nat} (hd : ∀ d ∈ ds, 1 ≤ d ∧ d < 27) (h1 : 1 ≤ ds.length) (h6 : ds.length ≤ 6) : nmB (bytesOf ds) = true := by
  refine nmB_all (by rw [bytesOf_size]; exact h1) (by rw [bytesOf_size]; exact h6) (fun j h => ?_)
  rw [bytesOf_at ds j h (fun d x => (hd d x).2)]
  have := hd _ (List.getElem_mem (by rw [bytesOf_size] at h; exact h))
  omega
def goodN (n : Int) : Bool := decide (0 < n ∧ (∀ d ∈ digs n.toNat, 1 ≤ d) ∧ (digs n.toNat).length ≤ 6)
def unpS (n : Int) : ByteArray := if goodN n = true then bytesOf (digs n.toNat) else ⟨#[]⟩
def unpC (n : Int) : Int := if goodN n = true then 0 else 3
def packV (s : ByteArray) : Int := if nmB s = true then (pk s s.size : Nat) else 0
def packC (s : ByteArray) : Int := if 65536 < s.size then 2 else if nmB s = true then 0 else 12
theorem unp_bad {n : Int} (h : goodN n = false) : unpS n = ⟨#[]⟩ ∧ unpC n = 3 := by unfold unpS unpC; rw [h]; exact ⟨rfl, rfl⟩
theorem unp_low {n : Int} (h : ¬ 0 < n) : goodN n = false := decide_eq_false (fun x => h x.1)
theorem unp_zero {n : Nat} {m : Nat} {ds : List Nat} (h : Dg n m ds) (hm : 0 < m) (h0 : m % 27 = 0) : goodN (n : Int) = false := decide_eq_false (fun x => h.zero hm h0 x.2.1)
theorem unp_many {n : Nat} {m : Nat} {ds : List Nat} (h : Dg n m ds) (hm : 0 < m) (h6 : 6 ≤ ds.length) : goodN (n : Int) = false := decide_eq_false (fun x => by have := h.many hm; have := x.2.2; simp only [Int.toNat_natCast] at this; omega)
theorem unp_done {n : Nat} {ds : List Nat} (h : Dg n 0 ds) (hn : 0 < n) (h6 : ds.length ≤ 6) : unpS (n : Int) = bytesOf ds ∧ unpC (n : Int) = 0 := by
  have g : goodN (n : Int) = true := decide_eq_true ⟨by omega, by rw [Int.toNat_natCast, h.done]; exact fun d x => (h.ok d x).1, by rw [Int.toNat_natCast, h.done]; exact h6⟩
  unfold unpS unpC
  rw [if_pos g, if_pos g, Int.toNat_natCast, h.done]
  exact ⟨rfl, rfl⟩
end Go.Proofs.YtbjjdkemappelaaGreatDoor

namespace Go.Proofs.YtbjjdkemappelaaGreatDoor
open Go.RowKit
theorem ret_si {a b : ByteArray} {c d : Int} (h : a = b) (k : c = d) : Ending.returned (.tuple #[.string a, .int .i64 c]) = .returned (.tuple #[.string b, .int .i64 d]) := by rw [h, k]
theorem ret_sb {a b : ByteArray} {c d : Bool} (h : a = b) (k : c = d) : Ending.returned (.tuple #[.string a, .bool c]) = .returned (.tuple #[.string b, .bool d]) := by rw [h, k]
theorem l01Six_yes (n : Int) (w : World) (h : 1 ≤ n ∧ n ≤ 6) : Calls Tryz.prog 84 #[.int .i64 n, .int .i64 1, .int .i64 6] w fun e w' => e = .returned (.bool true) ∧ w' = w := by
  obtain ⟨h1, h2⟩ := h
  go_enter Tryz.func84, Tryz.ntmps84
  go_wp2
  go_ret
  exact ⟨rfl, rfl⟩
theorem l01Six_no (n : Int) (w : World) (h : ¬ (1 ≤ n ∧ n ≤ 6)) : Calls Tryz.prog 84 #[.int .i64 n, .int .i64 1, .int .i64 6] w fun e w' => e = .returned (.bool false) ∧ w' = w := by
  rcases (show ¬ 1 ≤ n ∨ (1 ≤ n ∧ ¬ n ≤ 6) by omega) with h1 | ⟨h1, h2⟩
  all_goals
    clear h
    go_enter Tryz.func84, Tryz.ntmps84
    go_wp2
    go_ret
    exact ⟨rfl, rfl⟩
set_option maxHeartbeats 1000000 in
theorem l03Name_any (s : ByteArray) (w : World) (hs : s.size ≤ maxLen) : Calls Tryz.prog 149 #[.string s] w fun e w' => e = .returned (.bool (nmB s)) ∧ w' = w := by
  unfold maxLen at hs
  by_cases c : 1 ≤ s.size ∧ s.size ≤ 6
  · have c' : 1 ≤ (s.size : Int) ∧ (s.size : Int) ≤ 6 := by omega
    have C := hideIt c'
    obtain ⟨c1, c2⟩ := c
    clear c'
    go_enter Tryz.func149, Tryz.ntmps149
    go_wp2_with (go_at_call 84; refine (l01Six_yes _ _ C.out).mono ?_; rintro e w' ⟨rfl, rfl⟩)
    go_loop [3] (fun i => ∃ k : Nat, k ≤ s.size ∧ i = .int .i64 k ∧ Hid (∀ j (h : j < s.size), j < k → 97 ≤ s[j].toNat ∧ s[j].toNat ≤ 122)) (fun i => s.size - (intOf i).toNat)
    case atStart => exact ⟨0, by omega, rfl, fun j h b => absurd b (by omega)⟩
    case round =>
      obtain ⟨k, hk, rfl, H⟩ := hrel
      by_cases hlt : k < s.size
      · rcases (show ((s[k].toNat : Int) < 97) ∨ (¬ ((s[k].toNat : Int) < 97) ∧ (122 : Int) < (s[k].toNat : Int)) ∨ (¬ ((s[k].toNat : Int) < 97) ∧ ¬ (122 : Int) < (s[k].toNat : Int)) by omega) with d | ⟨d, d'⟩ | ⟨d, d'⟩
        · have E := hideIt (nmB_other hlt (by omega))
          go_wp2
          go_ret
          exact ⟨ret_bool E.out.symm, rfl⟩
        · have E := hideIt (nmB_other hlt (by omega))
          go_wp2
          go_ret
          exact ⟨ret_bool E.out.symm, rfl⟩
        · go_wp2
          go_round
          case rel =>
            refine ⟨k + 1, by omega, by go_num, fun j h b => ?_⟩
            by_cases e : j = k
            · subst e; omega
            · exact H.out j h (by omega)
          case measure => simp [intOf]; omega
      · have E := hideIt (nmB_all c1 c2 (fun j h => H.out j h (by omega)))
        go_wp2
        go_ret
        exact ⟨ret_bool E.out.symm, rfl⟩
  · have c' : ¬ (1 ≤ (s.size : Int) ∧ (s.size : Int) ≤ 6) := by omega
    have C := hideIt c'
    have E := hideIt (show nmB s = false from decide_eq_false (fun x => c ⟨x.1, x.2.1⟩))
    clear c c'
    go_enter Tryz.func149, Tryz.ntmps149
    go_wp2_with (go_at_call 84; refine (l01Six_no _ _ C.out).mono ?_; rintro e w' ⟨rfl, rfl⟩)
    go_ret
    exact ⟨ret_bool E.out.symm, rfl⟩
theorem pack_long {s : ByteArray} (h : 65536 < s.size) : packV s = 0 ∧ packC s = 2 := by
  unfold packV packC
  rw [if_neg (by rw [nmB_long (by omega)]; simp), if_pos h]
  exact ⟨rfl, rfl⟩
theorem pack_not {s : ByteArray} (h : ¬ 65536 < s.size) (h2 : nmB s = false) : packV s = 0 ∧ packC s = 12 := by
  unfold packV packC
  rw [h2, if_neg h]
  exact ⟨rfl, rfl⟩
theorem pack_yes {s : ByteArray} (h : nmB s = true) : packV s = ((pk s s.size : Nat) : Int) ∧ packC s = 0 := by
  unfold packV packC
  have := (nmB_true h).2.1
  rw [if_pos h, if_neg (by omega), if_pos h]
  exact ⟨rfl, rfl⟩
set_option maxRecDepth 100000 in
set_option maxHeartbeats 4000000 in
theorem implPackName_any (s : ByteArray) (w : World) (hs : s.size ≤ maxLen) : Calls Tryz.prog 163 #[.string s] w fun e w' => e = .returned (.tuple #[.int .i64 (packV s), .int .i64 (packC s)]) ∧ Below w.heap.size w w' := by
  unfold maxLen at hs
  by_cases c0 : 65536 < s.size
  · have E := hideIt (pack_long c0)
    go_enter Tryz.func163, Tryz.ntmps163
    go_wp2
    go_ret2
    exact ⟨ret_two E.out.1.symm E.out.2.symm, Below.refl _ _⟩
  by_cases c1 : s.size < 1
  · have E := hideIt (pack_not c0 (nmB_short c1))
    go_enter Tryz.func163, Tryz.ntmps163
    go_wp2
    go_ret2
    exact ⟨ret_two E.out.1.symm E.out.2.symm, Below.refl _ _⟩
  by_cases c2 : 6 < s.size
  · have E := hideIt (pack_not c0 (nmB_long c2))
    go_enter Tryz.func163, Tryz.ntmps163
    go_wp2
    go_ret2
    exact ⟨ret_two E.out.1.symm E.out.2.symm, Below.refl _ _⟩
  have hconv := run_bytes_of_string (P := Tryz.prog) w 9 200 5 s Tryz.underlying9 Tryz.underlying200 Tryz.underlying5
  generalize hcap : grownCap w s.size 0 5 = cap at hconv
  have CELL : Hid (∀ k (h : k < s.size), (w.drew.alloc (.cells (bytesRow s cap) 5 ((bytesRow s cap).size, (bytesRow s cap).size + 1))).cell? ⟨w.heap.size, k, none⟩ = some (.int .u8 (s[k].toNat : Int))) := fun k h => by
    have e := World.cell?_alloc_mark w.drew (bytesRow s cap) 5 ((bytesRow s cap).size, (bytesRow s cap).size + 1) k
    rw [bytesRow_at s cap k h] at e
    exact e
  have BB : Hid (Below w.heap.size w (w.drew.alloc (.cells (bytesRow s cap) 5 ((bytesRow s cap).size, (bytesRow s cap).size + 1)))) := ((Below.refl _ _).drew).alloc (Nat.le_refl _) _
  clear hcap
  generalize w.drew.alloc (.cells (bytesRow s cap) 5 ((bytesRow s cap).size, (bytesRow s cap).size + 1)) = w1 at hconv CELL BB
  go_enter Tryz.func163, Tryz.ntmps163
  go_wp2
  go_loop [4, 6, 21] (fun n _ i => ∃ k : Nat, k ≤ s.size ∧ i = .int .i64 k ∧ n = .int .i64 ((pk s k : Nat) : Int) ∧ Hid (∀ j (h : j < s.size), j < k → 97 ≤ s[j].toNat ∧ s[j].toNat ≤ 122)) (fun _ _ i => s.size - (intOf i).toNat)
  case atStart => exact ⟨0, by omega, rfl, by rw [pk_zero]; rfl, fun j h b => absurd b (by omega)⟩
  case round =>
    obtain ⟨k, hk, rfl, rfl, H⟩ := hrel
    by_cases hlt : k < s.size
    · have x0 := CELL.out k hlt
      have bd : pk s k < 387420489 := pk_lt H.out (by omega)
      have SU := hideIt (pk_succ s k hlt)
      have b255 : s[k].toNat < 256 := s[k].toNat_lt
      have NO := hideIt (nmB_other (s := s) hlt)
      have NX : Hid (97 ≤ s[k].toNat ∧ s[k].toNat ≤ 122 → ∀ j (h : j < s.size), j < k + 1 → 97 ≤ s[j].toNat ∧ s[j].toNat ≤ 122) := fun hx j h b => by
        by_cases e : j = k
        · subst e; exact hx
        · exact H.out j h (by omega)
      generalize s[k].toNat = x at x0 SU b255 NO NX
      rcases (show ((x : Int) < 97) ∨ (¬ ((x : Int) < 97) ∧ (122 : Int) < (x : Int)) ∨ (¬ ((x : Int) < 97) ∧ ¬ (122 : Int) < (x : Int)) by omega) with d | ⟨d, d'⟩ | ⟨d, d'⟩
      · have E := hideIt (pack_not c0 (NO.out (by omega)))
        go_wp2
        go_ret2
        exact ⟨ret_two E.out.1.symm E.out.2.symm, BB.out⟩
      · have E := hideIt (pack_not c0 (NO.out (by omega)))
        go_wp2
        go_ret2
        exact ⟨ret_two E.out.1.symm E.out.2.symm, BB.out⟩
      · go_wp2
        go_round
        case rel => exact ⟨k + 1, by omega, by go_num, by rw [SU.out]; congr 1; omega, NX.out (by omega)⟩
        case measure => simp [intOf]; omega
    · have ek : k = s.size := by omega
      subst ek
      have E := hideIt (pack_yes (nmB_all (s := s) (by omega) (by omega) (fun j h => H.out j h h)))
      go_wp2
      go_ret2
      exact ⟨ret_two E.out.1.symm E.out.2.symm, BB.out⟩
end Go.Proofs.YtbjjdkemappelaaGreatDoor
