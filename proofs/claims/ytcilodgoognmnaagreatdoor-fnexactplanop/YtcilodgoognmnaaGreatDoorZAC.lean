/- Several texts laid together: WdM, Nm, ImD, ImH, StoreS, ImE, ImF, ImJ. -/
import Derived.WalkKit
import Derived.Test.YtcilodgoognmnaaGreatDoorZAA
import Derived.Laws.IdiomStrings
import Derived.Laws.BytesArg
import Derived.Deep.OwnRows
import Derived.Test.YtcilodgoognmnaaGreatDoorZAB
import Derived.Deep.RegionWith
namespace Go.Proofs.YtcilodgoognmnaaGreatDoor
def ztq (n : Nat) : List Nat := if _h : n = 0 then [] else ztq (n / 27) ++ [n % 27]
termination_by n
decreasing_by omega
theorem zov : ztq 0 = [] := by rw [ztq]; simp
theorem zjy {n : Nat} (h : 0 < n) : ztq n = ztq (n / 27) ++ [n % 27] := by rw [ztq]; simp [show n ≠ 0 by omega]
def val (ds : List Nat) : Nat := ds.foldl (fun a d => 27 * a + d) 0
theorem val_snoc (ds : List Nat) (d : Nat) : val (ds ++ [d]) = 27 * val ds + d := by simp [val]
theorem digs_ne {n : Nat} (h : 0 < n) : 1 ≤ (ztq n).length := by rw [zjy h]; simp
theorem snoc_ind {α : Type} {P : List α → Prop} (h0 : P []) (h1 : ∀ l x, P l → P (l ++ [x])) : ∀ l, P l := by
 intro l
 have : ∀ n (l : List α), l.length = n → P l := by
  intro n
  induction n with
  | zero => intro l hl; rw [List.length_eq_zero_iff.1 hl]; exact h0
  | succ n ih =>
   intro l hl
   have hne : l ≠ [] := by intro h; subst h; simp at hl
   rw [← List.dropLast_concat_getLast hne]
   exact h1 _ _ (ih _ (by simp [hl]))
 exact this _ l rfl
theorem val_lt (ds : List Nat) : (∀ d ∈ ds, d < 27) → val ds < 27 ^ ds.length := by
 refine snoc_ind (P := fun ds => (∀ d ∈ ds, d < 27) → val ds < 27 ^ ds.length) (fun _ => by simp [val]) (fun l x ih h => ?_) ds
 have hx := h x (by simp)
 have := ih (fun d hd => h d (by simp [hd]))
 rw [val_snoc, List.length_append, List.length_singleton, Nat.pow_succ]
 omega
theorem digs_len (k : Nat) : ∀ n, n < 27 ^ k → (ztq n).length ≤ k := by
 induction k with
 | zero =>
  intro n h
  have : n = 0 := by simpa using h
  subst this
  rw [zov]
  simp
 | succ k ih =>
  intro n h
  by_cases h0 : n = 0
  ·subst h0; rw [zov]; simp
  ·rw [zjy (by omega), List.length_append, List.length_singleton]
   have := ih (n / 27) (by rw [Nat.pow_succ] at h; omega)
   omega
structure Dg (n m : Nat) (ds : List Nat) : Prop where
 eq : ztq n = ztq m ++ ds
 ok : ∀ d ∈ ds, 1 ≤ d ∧ d < 27
theorem Dg.start (n : Nat) : Dg n n [] := ⟨by simp, fun d h => by cases h⟩
theorem Dg.step {n m : Nat} {ds : List Nat} (h : Dg n m ds) (hm : 0 < m) (h1 : m % 27 ≠ 0) : Dg n (m / 27) (m % 27 :: ds) :=
 ⟨by rw [h.eq, zjy hm]; simp, fun d hd => by
  rcases List.mem_cons.1 hd with rfl | hd
  ·omega
  ·exact h.ok d hd⟩
theorem Dg.zero {n m : Nat} {ds : List Nat} (h : Dg n m ds) (hm : 0 < m) (h0 : m % 27 = 0) : ¬ ∀ d ∈ ztq n, 1 ≤ d := fun x => by
 have := x (m % 27) (by rw [h.eq, zjy hm]; simp)
 omega
theorem Dg.many {n m : Nat} {ds : List Nat} (h : Dg n m ds) (hm : 0 < m) : ds.length < (ztq n).length := by
 rw [h.eq, zjy hm]; simp; omega
theorem Dg.len {n m : Nat} {ds : List Nat} (h : Dg n m ds) : ds.length ≤ (ztq n).length := by rw [h.eq]; simp
theorem Dg.done {n : Nat} {ds : List Nat} (h : Dg n 0 ds) : ztq n = ds := by rw [h.eq, zov]; simp
def nmB (s : ByteArray) : Bool := decide (1 ≤ s.size ∧ s.size ≤ 6 ∧ ∀ j (h : j < s.size), 97 ≤ s[j].toNat ∧ s[j].toNat ≤ 122)
theorem zvz {s : ByteArray} (h : s.size < 1) : nmB s = false := decide_eq_false (fun x => by omega)
theorem zsx {s : ByteArray} (h : 6 < s.size) : nmB s = false := decide_eq_false (fun x => by omega)
theorem zns {s : ByteArray} {k : Nat} (h : k < s.size) (hb : ¬ (97 ≤ s[k].toNat ∧ s[k].toNat ≤ 122)) : nmB s = false := decide_eq_false (fun x => hb (x.2.2 k h))
theorem nmB_all {s : ByteArray} (h0 : 1 ≤ s.size) (h6 : s.size ≤ 6) (h : ∀ j (h : j < s.size), 97 ≤ s[j].toNat ∧ s[j].toNat ≤ 122) : nmB s = true := decide_eq_true ⟨h0, h6, h⟩
theorem zcz {s : ByteArray} (h : nmB s = true) : 1 ≤ s.size ∧ s.size ≤ 6 ∧ ∀ j (h : j < s.size), 97 ≤ s[j].toNat ∧ s[j].toNat ≤ 122 := of_decide_eq_true h
def letD (b : UInt8) : Nat := b.toNat - 96
def ltrs (s : ByteArray) : List Nat := s.data.toList.map letD
def pk (s : ByteArray) (k : Nat) : Nat := val ((ltrs s).take k)
theorem zsh (s : ByteArray) : (ltrs s).length = s.size := by unfold ltrs; rw [List.length_map, Array.length_toList]; rfl
theorem ltrs_at (s : ByteArray) (j : Nat) (h : j < s.size) : (ltrs s)[j]'(by rw [zsh]; exact h) = s[j].toNat - 96 := by
 simp only [ltrs, List.getElem_map, letD, Array.getElem_toList]
 rfl
theorem pk_zero (s : ByteArray) : pk s 0 = 0 := by simp [pk, val]
theorem pk_succ (s : ByteArray) (k : Nat) (h : k < s.size) : pk s (k + 1) = 27 * pk s k + (s[k].toNat - 96) := by
 unfold pk
 rw [List.take_succ_eq_append_getElem (by rw [zsh]; exact h), val_snoc, ltrs_at s k h]
theorem pk_lt {s : ByteArray} {k : Nat} (hl : ∀ j (h : j < s.size), j < k → 97 ≤ s[j].toNat ∧ s[j].toNat ≤ 122) (h6 : k ≤ 6) : pk s k < 387420489 := by
 have h1 : pk s k < 27 ^ ((ltrs s).take k).length := by
  unfold pk
  apply val_lt
  intro d hd
  obtain ⟨i, hi, rfl⟩ := List.getElem_of_mem hd
  simp only [List.length_take, zsh] at hi
  rw [List.getElem_take, ltrs_at s i (by omega)]
  have := hl i (by omega) (by omega)
  omega
 have h2 : ((ltrs s).take k).length ≤ 6 := by simp only [List.length_take]; omega
 have h3 : 27 ^ ((ltrs s).take k).length ≤ 27 ^ 6 := Nat.pow_le_pow_right (by omega) h2
 omega
def zch (ds : List Nat) : ByteArray := ⟨(ds.map fun d => UInt8.ofNat (96 + d)).toArray⟩
theorem zbx (ds : List Nat) : (zch ds).size = ds.length := by simp [zch, ByteArray.size]
theorem bytesOf_at (ds : List Nat) (j : Nat) (h : j < (zch ds).size) (hd : ∀ d ∈ ds, d < 27) : (zch ds)[j].toNat = 96 + ds[j]'(by rw [zbx] at h; exact h) := by
 have hj : j < ds.length := by rw [zbx] at h; exact h
 have := hd _ (List.getElem_mem hj)
 have e : (zch ds)[j] = UInt8.ofNat (96 + ds[j]) := by
  have e1 : (zch ds)[j] = ((ds.map fun d => UInt8.ofNat (96 + d)).toArray)[j]'(by simpa using hj) := rfl
  rw [e1, List.getElem_toArray, List.getElem_map]
 rw [e, UInt8.toNat_ofNat']
 omega
theorem zvc (d : Nat) (ds : List Nat) : (⟨#[UInt8.ofNat (96 + d)]⟩ : ByteArray) ++ zch ds = zch (d :: ds) := by
 apply ByteArray.ext
 simp [zch]
theorem nmB_bytesOf {ds : List Nat} (hd : ∀ d ∈ ds, 1 ≤ d ∧ d < 27) (h1 : 1 ≤ ds.length) (h6 : ds.length ≤ 6) : nmB (zch ds) = true := by
 refine nmB_all (by rw [zbx]; exact h1) (by rw [zbx]; exact h6) (fun j h => ?_)
 rw [bytesOf_at ds j h (fun d x => (hd d x).2)]
 have := hd _ (List.getElem_mem (by rw [zbx] at h; exact h))
 omega
def zgn (n : Int) : Bool := decide (0 < n ∧ (∀ d ∈ ztq n.toNat, 1 ≤ d) ∧ (ztq n.toNat).length ≤ 6)
def unpS (n : Int) : ByteArray := if zgn n = true then zch (ztq n.toNat) else ⟨#[]⟩
def unpC (n : Int) : Int := if zgn n = true then 0 else 3
def zqb (s : ByteArray) : Int := if nmB s = true then (pk s s.size : Nat) else 0
def zqp (s : ByteArray) : Int := if 65536 < s.size then 2 else if nmB s = true then 0 else 12
theorem unp_bad {n : Int} (h : zgn n = false) : unpS n = ⟨#[]⟩ ∧ unpC n = 3 := by unfold unpS unpC; rw [h]; exact ⟨rfl, rfl⟩
theorem unp_low {n : Int} (h : ¬ 0 < n) : zgn n = false := decide_eq_false (fun x => h x.1)
theorem unp_zero {n : Nat} {m : Nat} {ds : List Nat} (h : Dg n m ds) (hm : 0 < m) (h0 : m % 27 = 0) : zgn (n : Int) = false := decide_eq_false (fun x => h.zero hm h0 x.2.1)
theorem unp_many {n : Nat} {m : Nat} {ds : List Nat} (h : Dg n m ds) (hm : 0 < m) (h6 : 6 ≤ ds.length) : zgn (n : Int) = false := decide_eq_false (fun x => by have := h.many hm; have := x.2.2; simp only [Int.toNat_natCast] at this; omega)
theorem unp_done {n : Nat} {ds : List Nat} (h : Dg n 0 ds) (hn : 0 < n) (h6 : ds.length ≤ 6) : unpS (n : Int) = zch ds ∧ unpC (n : Int) = 0 := by
 have g : zgn (n : Int) = true := decide_eq_true ⟨by omega, by rw [Int.toNat_natCast, h.done]; exact fun d x => (h.ok d x).1, by rw [Int.toNat_natCast, h.done]; exact h6⟩
 unfold unpS unpC
 rw [if_pos g, if_pos g, Int.toNat_natCast, h.done]
 exact ⟨rfl, rfl⟩
end Go.Proofs.YtcilodgoognmnaaGreatDoor

namespace Go.Proofs.YtcilodgoognmnaaGreatDoor
open Go.RowKit
theorem ret_si {a b : ByteArray} {c d : Int} (h : a = b) (k : c = d) : Ending.returned (.tuple #[.string a, .int .i64 c]) = .returned (.tuple #[.string b, .int .i64 d]) := by rw [h, k]
theorem ret_sb {a b : ByteArray} {c d : Bool} (h : a = b) (k : c = d) : Ending.returned (.tuple #[.string a, .bool c]) = .returned (.tuple #[.string b, .bool d]) := by rw [h, k]
theorem l01Six_yes (n : Int) (w : World) (h : 1 ≤ n ∧ n ≤ 6) : Calls Tryz.prog 91 #[.int .i64 n, .int .i64 1, .int .i64 6] w fun e w' => e = .returned (.bool true) ∧ w' = w := by
 obtain ⟨h1, h2⟩ := h
 go_enter Tryz.func91, Tryz.ntmps91
 go_wp2
 go_ret
 exact ⟨rfl, rfl⟩
theorem l01Six_no (n : Int) (w : World) (h : ¬ (1 ≤ n ∧ n ≤ 6)) : Calls Tryz.prog 91 #[.int .i64 n, .int .i64 1, .int .i64 6] w fun e w' => e = .returned (.bool false) ∧ w' = w := by
 rcases (show ¬ 1 ≤ n ∨ (1 ≤ n ∧ ¬ n ≤ 6) by omega) with h1 | ⟨h1, h2⟩
 all_goals
  clear h
  go_enter Tryz.func91, Tryz.ntmps91
  go_wp2
  go_ret
  exact ⟨rfl, rfl⟩
set_option maxHeartbeats 1000000 in
theorem zdn (s : ByteArray) (w : World) (hs : s.size ≤ maxLen) : Calls Tryz.prog 181 #[.string s] w fun e w' => e = .returned (.bool (nmB s)) ∧ w' = w := by
 unfold maxLen at hs
 by_cases c : 1 ≤ s.size ∧ s.size ≤ 6
 ·have c' : 1 ≤ (s.size : Int) ∧ (s.size : Int) ≤ 6 := by omega
  have C := zaa c'
  obtain ⟨c1, c2⟩ := c
  clear c'
  go_enter Tryz.func181, Tryz.ntmps181
  go_wp2_with (go_at_call 91; refine (l01Six_yes _ _ C.out).mono ?_; rintro e w' ⟨rfl, rfl⟩)
  go_loop [3] (fun i => ∃ k : Nat, k ≤ s.size ∧ i = .int .i64 k ∧ Hid (∀ j (h : j < s.size), j < k → 97 ≤ s[j].toNat ∧ s[j].toNat ≤ 122)) (fun i => s.size - (intOf i).toNat)
  case atStart => exact ⟨0, by omega, rfl, fun j h b => absurd b (by omega)⟩
  case round =>
   obtain ⟨k, hk, rfl, H⟩ := hrel
   by_cases hlt : k < s.size
   ·rcases (show ((s[k].toNat : Int) < 97) ∨ (¬ ((s[k].toNat : Int) < 97) ∧ (122 : Int) < (s[k].toNat : Int)) ∨ (¬ ((s[k].toNat : Int) < 97) ∧ ¬ (122 : Int) < (s[k].toNat : Int)) by omega) with d | ⟨d, d'⟩ | ⟨d, d'⟩
    ·have E := zaa (zns hlt (by omega))
     go_wp2
     go_ret
     exact ⟨zaf E.out.symm, rfl⟩
    ·have E := zaa (zns hlt (by omega))
     go_wp2
     go_ret
     exact ⟨zaf E.out.symm, rfl⟩
    ·go_wp2
     go_round
     case rel =>
      refine ⟨k + 1, by omega, by go_num, fun j h b => ?_⟩
      by_cases e : j = k
      ·subst e; omega
      ·exact H.out j h (by omega)
     case measure => simp [intOf]; omega
   ·have E := zaa (nmB_all c1 c2 (fun j h => H.out j h (by omega)))
    go_wp2
    go_ret
    exact ⟨zaf E.out.symm, rfl⟩
 ·have c' : ¬ (1 ≤ (s.size : Int) ∧ (s.size : Int) ≤ 6) := by omega
  have C := zaa c'
  have E := zaa (show nmB s = false from decide_eq_false (fun x => c ⟨x.1, x.2.1⟩))
  clear c c'
  go_enter Tryz.func181, Tryz.ntmps181
  go_wp2_with (go_at_call 91; refine (l01Six_no _ _ C.out).mono ?_; rintro e w' ⟨rfl, rfl⟩)
  go_ret
  exact ⟨zaf E.out.symm, rfl⟩
theorem pack_long {s : ByteArray} (h : 65536 < s.size) : zqb s = 0 ∧ zqp s = 2 := by
 unfold zqb zqp
 rw [if_neg (by rw [zsx (by omega)]; simp), if_pos h]
 exact ⟨rfl, rfl⟩
theorem znc {s : ByteArray} (h : ¬ 65536 < s.size) (h2 : nmB s = false) : zqb s = 0 ∧ zqp s = 12 := by
 unfold zqb zqp
 rw [h2, if_neg h]
 exact ⟨rfl, rfl⟩
theorem pack_yes {s : ByteArray} (h : nmB s = true) : zqb s = ((pk s s.size : Nat) : Int) ∧ zqp s = 0 := by
 unfold zqb zqp
 have := (zcz h).2.1
 rw [if_pos h, if_neg (by omega), if_pos h]
 exact ⟨rfl, rfl⟩
set_option maxRecDepth 100000 in
set_option maxHeartbeats 4000000 in
theorem zgy (s : ByteArray) (w : World) (hs : s.size ≤ maxLen) : Calls Tryz.prog 245 #[.string s] w fun e w' => e = .returned (.tuple #[.int .i64 (zqb s), .int .i64 (zqp s)]) ∧ Below w.heap.size w w' := by
 unfold maxLen at hs
 by_cases c0 : 65536 < s.size
 ·have E := zaa (pack_long c0)
  go_enter Tryz.func245, Tryz.ntmps245
  go_wp2
  go_ret2
  exact ⟨zbt E.out.1.symm E.out.2.symm, Below.refl _ _⟩
 by_cases c1 : s.size < 1
 ·have E := zaa (znc c0 (zvz c1))
  go_enter Tryz.func245, Tryz.ntmps245
  go_wp2
  go_ret2
  exact ⟨zbt E.out.1.symm E.out.2.symm, Below.refl _ _⟩
 by_cases c2 : 6 < s.size
 ·have E := zaa (znc c0 (zsx c2))
  go_enter Tryz.func245, Tryz.ntmps245
  go_wp2
  go_ret2
  exact ⟨zbt E.out.1.symm E.out.2.symm, Below.refl _ _⟩
 have hconv := run_bytes_of_string (P := Tryz.prog) w 9 228 5 s Tryz.underlying9 Tryz.underlying228 Tryz.underlying5
 generalize hcap : grownCap w s.size 0 5 = cap at hconv
 have CELL : Hid (∀ k (h : k < s.size), (w.drew.alloc (.cells (bytesRow s cap) 5 ((bytesRow s cap).size, (bytesRow s cap).size + 1))).cell? ⟨w.heap.size, k, none⟩ = some (.int .u8 (s[k].toNat : Int))) := fun k h => by
  have e := World.cell?_alloc_mark w.drew (bytesRow s cap) 5 ((bytesRow s cap).size, (bytesRow s cap).size + 1) k
  rw [bytesRow_at s cap k h] at e
  exact e
 have BB : Hid (Below w.heap.size w (w.drew.alloc (.cells (bytesRow s cap) 5 ((bytesRow s cap).size, (bytesRow s cap).size + 1)))) := ((Below.refl _ _).drew).alloc (Nat.le_refl _) _
 clear hcap
 generalize w.drew.alloc (.cells (bytesRow s cap) 5 ((bytesRow s cap).size, (bytesRow s cap).size + 1)) = w1 at hconv CELL BB
 go_enter Tryz.func245, Tryz.ntmps245
 go_wp2
 go_loop [4, 6, 21] (fun n _ i => ∃ k : Nat, k ≤ s.size ∧ i = .int .i64 k ∧ n = .int .i64 ((pk s k : Nat) : Int) ∧ Hid (∀ j (h : j < s.size), j < k → 97 ≤ s[j].toNat ∧ s[j].toNat ≤ 122)) (fun _ _ i => s.size - (intOf i).toNat)
 case atStart => exact ⟨0, by omega, rfl, by rw [pk_zero]; rfl, fun j h b => absurd b (by omega)⟩
 case round =>
  obtain ⟨k, hk, rfl, rfl, H⟩ := hrel
  by_cases hlt : k < s.size
  ·have x0 := CELL.out k hlt
   have bd : pk s k < 387420489 := pk_lt H.out (by omega)
   have SU := zaa (pk_succ s k hlt)
   have b255 : s[k].toNat < 256 := s[k].toNat_lt
   have NO := zaa (zns (s := s) hlt)
   have NX : Hid (97 ≤ s[k].toNat ∧ s[k].toNat ≤ 122 → ∀ j (h : j < s.size), j < k + 1 → 97 ≤ s[j].toNat ∧ s[j].toNat ≤ 122) := fun hx j h b => by
    by_cases e : j = k
    ·subst e; exact hx
    ·exact H.out j h (by omega)
   generalize s[k].toNat = x at x0 SU b255 NO NX
   rcases (show ((x : Int) < 97) ∨ (¬ ((x : Int) < 97) ∧ (122 : Int) < (x : Int)) ∨ (¬ ((x : Int) < 97) ∧ ¬ (122 : Int) < (x : Int)) by omega) with d | ⟨d, d'⟩ | ⟨d, d'⟩
   ·have E := zaa (znc c0 (NO.out (by omega)))
    go_wp2
    go_ret2
    exact ⟨zbt E.out.1.symm E.out.2.symm, BB.out⟩
   ·have E := zaa (znc c0 (NO.out (by omega)))
    go_wp2
    go_ret2
    exact ⟨zbt E.out.1.symm E.out.2.symm, BB.out⟩
   ·go_wp2
    go_round
    case rel => exact ⟨k + 1, by omega, by go_num, by rw [SU.out]; congr 1; omega, NX.out (by omega)⟩
    case measure => simp [intOf]; omega
  ·have ek : k = s.size := by omega
   subst ek
   have E := zaa (pack_yes (nmB_all (s := s) (by omega) (by omega) (fun j h => H.out j h h)))
   go_wp2
   go_ret2
   exact ⟨zbt E.out.1.symm E.out.2.symm, BB.out⟩
set_option maxRecDepth 100000 in
set_option maxHeartbeats 4000000 in
theorem l03Pack_any (s : ByteArray) (w : World) (hs : nmB s = true) : Calls Tryz.prog 243 #[.string s] w fun e w' => e = .returned (.int .i64 ((pk s s.size : Nat) : Int)) ∧ w' = w := by
 have N := zaa (zcz hs)
 have h6 : s.size ≤ 6 := (zcz hs).2.1
 clear hs
 go_enter Tryz.func243, Tryz.ntmps243
 go_wp2
 go_loop [3, 4] (fun n i => ∃ k : Nat, k ≤ s.size ∧ i = .int .i64 k ∧ n = .int .i64 ((pk s k : Nat) : Int)) (fun _ i => s.size - (intOf i).toNat)
 case atStart => exact ⟨0, by omega, rfl, by rw [pk_zero]; rfl⟩
 case round =>
  obtain ⟨k, hk, rfl, rfl⟩ := hrel
  by_cases hlt : k < s.size
  ·have bd : pk s k < 387420489 := pk_lt (fun j h _ => N.out.2.2 j h) (by omega)
   have SU := zaa (pk_succ s k hlt)
   have b1 := N.out.2.2 k hlt
   go_wp2
   go_round
   case rel => exact ⟨k + 1, by omega, by go_num, by rw [SU.out]; congr 1; omega⟩
   case measure => simp [intOf]; omega
  ·have ek : k = s.size := by omega
   subst ek
   go_wp2
   go_ret
   exact ⟨rfl, rfl⟩
end Go.Proofs.YtcilodgoognmnaaGreatDoor

namespace Go.Proofs.YtcilodgoognmnaaGreatDoor
open Go.RowKit
def iuC (i : Int) (x : Ino) : Int := if 0 ≤ i ∧ i ≤ 15 then (if zep x = true then 0 else 1) else 4
def iuL (i : Int) (x : Ino) : List Se := if 0 ≤ i ∧ i ≤ 15 then (if zep x = true then wrL i x 8 else []) else []
theorem iu_cases (i : Int) (x : Ino) : (¬ (0 ≤ i ∧ i ≤ 15) ∧ iuC i x = 4 ∧ iuL i x = []) ∨ ((0 ≤ i ∧ i ≤ 15) ∧ zep x = false ∧ iuC i x = 1 ∧ iuL i x = []) ∨ ((0 ≤ i ∧ i ≤ 15) ∧ zep x = true ∧ iuC i x = 0 ∧ iuL i x = wrL i x 8) := by
 unfold iuC iuL
 by_cases h : 0 ≤ i ∧ i ≤ 15
 ·cases q : zep x
  ·exact .inr (.inl ⟨h, rfl, by rw [if_pos h, if_neg (by decide)], by rw [if_pos h, if_neg (by decide)]⟩)
  ·exact .inr (.inr ⟨h, rfl, by rw [if_pos h, if_pos rfl], by rw [if_pos h, if_pos rfl]⟩)
 ·exact .inl ⟨h, by rw [if_neg h], by rw [if_neg h]⟩
theorem zkc (w : World) (t : TypeId) (size : Nat) : Row (w.alloc (.cells #[] t)) t size w.heap.size (w.alloc (.cells #[] t)).heap.size (.slice (some ⟨w.heap.size, 0, none⟩) 0 0) 0 [] :=
 zad (World.ownsRow_lit w #[] 0 (Nat.le_refl _) (by simp [maxLen]) (by simp))
theorem Ino.all {x : Ino} {w' : World} {b : Nat} (h : ∀ j, w'.cell? ⟨b, j, none⟩ = x.cs[j]?) : w'.cell? ⟨b, 0, none⟩ = some (.int .i64 x.kind) ∧ w'.cell? ⟨b, 1, none⟩ = some (.int .i64 x.size) ∧ w'.cell? ⟨b, 2, none⟩ = some (.int .i64 x.links) ∧ w'.cell? ⟨b, 3, none⟩ = some (.int .i64 x.m0) ∧ w'.cell? ⟨b, 4, none⟩ = some (.int .i64 x.m1) ∧ w'.cell? ⟨b, 5, none⟩ = some (.int .i64 x.m2) ∧ w'.cell? ⟨b, 6, none⟩ = some (.int .i64 x.m3) ∧ w'.cell? ⟨b, 7, none⟩ = some (.int .i64 x.m4) ∧ w'.cell? ⟨b, 8, none⟩ = some (.int .i64 x.m5) ∧ w'.cell? ⟨b, 9, none⟩ = some (.int .i64 x.m6) ∧ w'.cell? ⟨b, 10, none⟩ = some (.int .i64 x.m7) := ⟨h 0, h 1, h 2, h 3, h 4, h 5, h 6, h 7, h 8, h 9, h 10⟩
end Go.Proofs.YtcilodgoognmnaaGreatDoor

namespace Go.Proofs.YtcilodgoognmnaaGreatDoor
open Go.RowKit
def inos (ps : List Ino) : List Value := ps.flatMap Ino.cs
theorem Ino.cs_len (x : Ino) : x.cs.length = 11 := rfl
theorem zes (ps : List Ino) (k i : Nat) (h : k < ps.length) (hi : i < 11) : (inos ps)[k * 11 + i]? = ps[k].cs[i]? := (zbr _ 11 Ino.cs_len ps k i h hi).trans (by rw [List.getElem?_eq_getElem (show i < ps[k].cs.length by rw [Ino.cs_len]; exact hi)])
def RdN (w : World) (v : Value) (ps : List Ino) : Prop := Rd w 11 v ps.length (inos ps)
theorem RdN.shape {w : World} {v : Value} {ps : List Ino} (h : RdN w v ps) : ∃ ao cap, v = .slice ao ps.length cap ∧ ps.length ≤ cap ∧ (0 < ps.length → ∃ b o, ao = some ⟨b, o, none⟩ ∧ b < w.heap.size ∧
  ∀ k (h : k < ps.length), w.cell? ⟨b, o + k * 11, none⟩ = some (.int .i64 ps[k].kind) ∧ w.cell? ⟨b, o + k * 11 + 1, none⟩ = some (.int .i64 ps[k].size) ∧ w.cell? ⟨b, o + k * 11 + 2, none⟩ = some (.int .i64 ps[k].links) ∧ w.cell? ⟨b, o + k * 11 + 3, none⟩ = some (.int .i64 ps[k].m0) ∧ w.cell? ⟨b, o + k * 11 + 4, none⟩ = some (.int .i64 ps[k].m1) ∧ w.cell? ⟨b, o + k * 11 + 5, none⟩ = some (.int .i64 ps[k].m2) ∧ w.cell? ⟨b, o + k * 11 + 6, none⟩ = some (.int .i64 ps[k].m3) ∧ w.cell? ⟨b, o + k * 11 + 7, none⟩ = some (.int .i64 ps[k].m4) ∧ w.cell? ⟨b, o + k * 11 + 8, none⟩ = some (.int .i64 ps[k].m5) ∧ w.cell? ⟨b, o + k * 11 + 9, none⟩ = some (.int .i64 ps[k].m6) ∧ w.cell? ⟨b, o + k * 11 + 10, none⟩ = some (.int .i64 ps[k].m7)) := by
 obtain ⟨_, ao, cap, rfl, h2, h3⟩ := h
 refine ⟨ao, cap, rfl, h2.1, fun hn => ?_⟩
 obtain ⟨b, o, rfl, hb, hc⟩ := h3 hn
 exact ⟨b, o, rfl, hb, fun k hk => ⟨(hc (k * 11) (by omega)).trans (zes ps k 0 hk (by omega)), (hc (k * 11 + 1) (by omega)).trans (zes ps k 1 hk (by omega)), (hc (k * 11 + 2) (by omega)).trans (zes ps k 2 hk (by omega)), (hc (k * 11 + 3) (by omega)).trans (zes ps k 3 hk (by omega)), (hc (k * 11 + 4) (by omega)).trans (zes ps k 4 hk (by omega)), (hc (k * 11 + 5) (by omega)).trans (zes ps k 5 hk (by omega)), (hc (k * 11 + 6) (by omega)).trans (zes ps k 6 hk (by omega)), (hc (k * 11 + 7) (by omega)).trans (zes ps k 7 hk (by omega)), (hc (k * 11 + 8) (by omega)).trans (zes ps k 8 hk (by omega)), (hc (k * 11 + 9) (by omega)).trans (zes ps k 9 hk (by omega)), (hc (k * 11 + 10) (by omega)).trans (zes ps k 10 hk (by omega))⟩⟩
theorem infoIno : (Tryz.prog.info? 97).map (fun i => (i.zero, i.size, i.bytes)) = some (some (.agg #[.int .i64 0, .int .i64 0, .int .i64 0, .int .i64 0, .int .i64 0, .int .i64 0, .int .i64 0, .int .i64 0, .int .i64 0, .int .i64 0, .int .i64 0]), 11, 88) := by kernel_rfl
end Go.Proofs.YtcilodgoognmnaaGreatDoor

namespace Go.Proofs.YtcilodgoognmnaaGreatDoor
open Go.RowKit
structure St where
 at_ : Int
 val : Int
 fl : Bool
deriving DecidableEq
def St.cells (s : St) : List Value := [.int .i64 s.at_, .int .i64 s.val, .bool s.fl]
def sts (ps : List St) : List Value := ps.flatMap St.cells
theorem St.cells_len (s : St) : s.cells.length = 3 := rfl
theorem sts_len (ps : List St) : (sts ps).length = ps.length * 3 := zgu _ 3 St.cells_len ps
theorem ztn (ps : List St) (k : Nat) (h : k < ps.length) : (sts ps)[k * 3]? = some (.int .i64 ps[k].at_) := zbr _ 3 St.cells_len ps k 0 h (by omega)
theorem zry (ps : List St) (k : Nat) (h : k < ps.length) : (sts ps)[k * 3 + 1]? = some (.int .i64 ps[k].val) := zbr _ 3 St.cells_len ps k 1 h (by omega)
theorem ztv (ps : List St) (k : Nat) (h : k < ps.length) : (sts ps)[k * 3 + 2]? = some (.bool ps[k].fl) := zbr _ 3 St.cells_len ps k 2 h (by omega)
def RdS (w : World) (v : Value) (ps : List St) : Prop := Rd w 3 v ps.length (sts ps)
theorem RdS.shape {w : World} {v : Value} {ps : List St} (h : RdS w v ps) : ∃ ao cap, v = .slice ao ps.length cap ∧ ps.length ≤ cap ∧ (0 < ps.length → ∃ b o, ao = some ⟨b, o, none⟩ ∧ b < w.heap.size ∧
  ∀ k (h : k < ps.length), w.cell? ⟨b, o + k * 3, none⟩ = some (.int .i64 ps[k].at_) ∧ w.cell? ⟨b, o + k * 3 + 1, none⟩ = some (.int .i64 ps[k].val) ∧ w.cell? ⟨b, o + k * 3 + 2, none⟩ = some (.bool ps[k].fl)) := by
 obtain ⟨_, ao, cap, rfl, h2, h3⟩ := h
 refine ⟨ao, cap, rfl, h2.1, fun hn => ?_⟩
 obtain ⟨b, o, rfl, hb, hc⟩ := h3 hn
 exact ⟨b, o, rfl, hb, fun k hk => ⟨(hc (k * 3) (by omega)).trans (ztn ps k hk), (hc (k * 3 + 1) (by omega)).trans (zry ps k hk), (hc (k * 3 + 2) (by omega)).trans (ztv ps k hk)⟩⟩
theorem info52 : (Tryz.prog.info? 197).map (fun i => (i.zero, i.size, i.bytes)) = some (some (.agg #[.int .i64 0, .int .i64 0, .bool false]), 3, 24) := by kernel_rfl
set_option maxHeartbeats 1000000 in
theorem toStore_any (a v : Int) (f : Bool) (w : World) : Calls Tryz.prog 154 #[.agg #[.int .i64 a, .int .i64 v, .bool f]] w fun e w' => e = .returned (.agg #[.int .i64 a, .int .i64 v, .bool f]) ∧ Below w.heap.size w w' := by
 go_enter Tryz.func154, Tryz.ntmps154
 go_wp2
 refine bodyPost_ret (v := .agg #[.int .i64 a, .int .i64 v, .bool f]) (by simp [results, Tryz.results154, go_sem]) rfl ⟨rfl, ?_⟩
 repeat (refine Below.alloc ?_ (by simp <;> omega) _)
 exact Below.refl _ _
def put3 (ys : List Value) (k : Nat) (a b c : Value) : List Value := ((ys.set (k * 3) a).set (k * 3 + 1) b).set (k * 3 + 2) c
theorem zhy {ys : List Value} {k : Nat} {a b c : Value} {j : Nat} (hj : j < ys.length) : (put3 ys k a b c)[j]? = if j = k * 3 + 2 then some c else if j = k * 3 + 1 then some b else if j = k * 3 then some a else ys[j]? := by
 unfold put3
 rw [zor (by simpa using hj), zor (by simpa using hj), zor hj]
theorem zuz {ys : List Value} {ps : List St} {k : Nat} (hk : k < ps.length) (hl : ys.length = ps.length * 3) (h : ∀ j, j < k * 3 → ys[j]? = (sts ps)[j]?) :
  ∀ j, j < (k + 1) * 3 → (put3 ys k (.int .i64 ps[k].at_) (.int .i64 ps[k].val) (.bool ps[k].fl))[j]? = (sts ps)[j]? := by
 intro j hj
 rw [zhy (by omega)]
 split
 ·rename_i e; rw [e, ztv ps k hk]
 ·split
  ·rename_i e; rw [e, zry ps k hk]
  ·split
   ·rename_i e; rw [e, ztn ps k hk]
   ·exact h j (by omega)
theorem sts_all {ys : List Value} {ps : List St} (hl : ys.length = ps.length * 3) (h : ∀ j, j < ps.length * 3 → ys[j]? = (sts ps)[j]?) : ys = sts ps := by
 apply List.ext_getElem?
 intro j
 by_cases hj : j < ps.length * 3
 ·exact h j hj
 ·rw [List.getElem?_eq_none (by omega), List.getElem?_eq_none (by rw [sts_len]; omega)]
theorem Row.put3 {w : World} {e : TypeId} {lo hi : Nat} {b n cap : Nat} {ys : List Value} (h : Row w e 3 lo hi (.slice (some ⟨b, 0, none⟩) n cap) n ys) (k : Nat) (x y z : Value) :
  Row (((w.setCell ⟨b, k * 3, none⟩ x).setCell ⟨b, k * 3 + 1, none⟩ y).setCell ⟨b, k * 3 + 2, none⟩ z) e 3 lo hi (.slice (some ⟨b, 0, none⟩) n cap) n (put3 ys k x y z) :=
 ((h.stored (k * 3) x).stored (k * 3 + 1) y).stored (k * 3 + 2) z
set_option maxHeartbeats 1000000 in
theorem zvu (v : Value) (ps : List St) (w : World) (h : RdS w v ps) (hn : ps.length ≤ 1048576) :
  Calls Tryz.prog 94 #[v] w fun e w' => ∃ v', e = .returned v' ∧ Row w' 197 3 w.heap.size w'.heap.size v' ps.length (sts ps) ∧ Below w.heap.size w w' := by
 obtain ⟨ao, cap, rfl, hcap, hc⟩ := h.shape
 clear h
 have hmk := zkg (P := Tryz.prog) 34 197 (.agg #[.int .i64 0, .int .i64 0, .bool false]) 3 24 Tryz.underlying34 info52 .i64 .i64 ps.length (by omega) (by omega)
 go_enter Tryz.func94, Tryz.ntmps94
 go_wp2
 go_loopw [4] (fun i wr => ∃ k : Nat, k ≤ ps.length ∧ i = .int .i64 k ∧ (∃ ys, Row wr 197 3 w.heap.size (w.heap.size + 1) (.slice (some ⟨w.heap.size, 0, none⟩) ps.length ps.length) ps.length ys ∧ ∀ j, j < k * 3 → ys[j]? = (sts ps)[j]?) ∧ Below w.heap.size w wr ∧ w.heap.size + 1 ≤ wr.heap.size) (fun i _ => ps.length - (intOf i).toNat)
 case atStart =>
  refine ⟨0, by omega, rfl, ⟨_, row_made w (.agg #[.int .i64 0, .int .i64 0, .bool false]) 3 ps.length 197 (by simp [maxLen]; omega), fun j hj => absurd hj (by omega)⟩, (Below.refl _ _).alloc (Nat.le_refl _) _, by simp⟩
 case round =>
  obtain ⟨k, hk, rfl, ⟨ys, hrow, hys⟩, hb, hz⟩ := hrel
  by_cases hlt : k < ps.length
  ·obtain ⟨b, o, rfl, hbl, hcell⟩ := hc (by omega)
   obtain ⟨c0, c1, c2⟩ := hcell k hlt
   have d0 := (hb.cell (p := ⟨b, o + k * 3, none⟩) hbl).trans c0
   have d1 := (hb.cell (p := ⟨b, o + k * 3 + 1, none⟩) hbl).trans c1
   have d2 := (hb.cell (p := ⟨b, o + k * 3 + 2, none⟩) hbl).trans c2
   have RH := zaa hrow
   have YH := zaa hys
   clear hcell hc c0 c1 c2 hrow hys
   go_wp2_with fail
   refine (toStore_any _ _ _ _).mono ?_
   rintro e w1 ⟨rfl, hb1⟩
   have R1 := zaa (RH.out.below hb1 (by omega))
   obtain ⟨_, _, _, hsz, hfr, hcl⟩ := R1.out.at
   have hl := RH.out.len
   have f0 := hfr (k * 3)
   have f1 := hfr (k * 3 + 1)
   have f2 := hfr (k * 3 + 2)
   have e0 : w1.cell? ⟨w.heap.size, k * 3, none⟩ = some (ys[k * 3]'(by omega)) := by rw [hcl _ (by omega)]; simp
   have e1 : w1.cell? ⟨w.heap.size, k * 3 + 1, none⟩ = some (ys[k * 3 + 1]'(by omega)) := by rw [hcl _ (by omega)]; simp
   have e2 : w1.cell? ⟨w.heap.size, k * 3 + 2, none⟩ = some (ys[k * 3 + 2]'(by omega)) := by rw [hcl _ (by omega)]; simp
   have BH := zaa (hb.trans (hb1.mono (show w.heap.size ≤ wr.heap.size by omega)))
   have hz1 := hb1.size
   clear hfr hcl hb1 hb d0 d1 d2
   have P1 := zaa (R1.out.put3 k (.int .i64 ps[k].at_) (.int .i64 ps[k].val) (.bool ps[k].fl))
   have B1 := zaa (((BH.out.setCell (p := ⟨w.heap.size, k * 3, none⟩) (Nat.le_refl _) (.int .i64 ps[k].at_)).setCell (p := ⟨w.heap.size, k * 3 + 1, none⟩) (Nat.le_refl _) (.int .i64 ps[k].val)).setCell (p := ⟨w.heap.size, k * 3 + 2, none⟩) (Nat.le_refl _) (.bool ps[k].fl))
   go_wp2
   go_roundw
   case rel => exact ⟨k + 1, by omega, by go_num, ⟨_, P1.out, zuz hlt hl YH.out⟩, B1.out, by simp; omega⟩
   case measure => simp [intOf]; omega
  ·have e : k = ps.length := by omega
   subst e
   have hl := hrow.len
   have RH := zaa hrow
   have YH := zaa hys
   clear hrow hys hc
   go_wp2
   go_ret
   have e := sts_all hl YH.out
   refine ⟨_, rfl, ?_, hb⟩
   rw [← e]
   exact RH.out.wide (Nat.le_refl _) hz
theorem zmp (ao : Option Addr) (n cap : Nat) (left : Int) (w : World) (hn : n ≤ maxLen) (h0 : 0 ≤ left) (h1 : left ≤ 1048576) :
  Calls Tryz.prog 87 #[.slice ao n cap, .int .i64 left] w fun e w' => e = .returned (.int .i64 (zjf left n)) ∧ w' = w := by
 unfold maxLen at hn
 by_cases h : left < n
 ·have e : zjf left n = -1 := by unfold zjf; rw [if_pos h]
  rw [e]; clear e
  go_enter Tryz.func87, Tryz.ntmps87
  go_wp2
  go_ret
  exact ⟨rfl, rfl⟩
 ·have e : zjf left n = left - n := by unfold zjf; rw [if_neg h]
  rw [e]; clear e
  go_enter Tryz.func87, Tryz.ntmps87
  go_wp2
  go_ret
  exact ⟨rfl, rfl⟩
set_option maxHeartbeats 1000000 in
theorem zum (a v : Int) (f : Bool) (w : World) : Calls Tryz.prog 167 #[.agg #[.int .i64 a, .int .i64 v, .bool f], .agg #[.int .i64 a, .int .i64 v, .bool f]] w fun e w' => e = .returned (.bool true) ∧ Below w.heap.size w w' := by
 go_enter Tryz.func167, Tryz.ntmps167
 go_wp2
 go_ret
 refine ⟨rfl, ?_⟩
 repeat (refine Below.alloc ?_ (by simp <;> omega) _)
 exact Below.refl _ _
end Go.Proofs.YtcilodgoognmnaaGreatDoor

namespace Go.Proofs.YtcilodgoognmnaaGreatDoor
open Go.RowKit
structure Den where
 dir : Int
 name : ByteArray
 child : Int
def Den.v (x : Den) : Value := .agg #[.int .i64 x.dir, .string x.name, .int .i64 x.child]
def Den.freeB (x : Den) : Bool := x.dir == 0 && (x.name.size == 0 && x.child == -1)
def Den.okB (x : Den) : Bool := x.freeB || (decide (1 ≤ x.child ∧ x.child ≤ 15) && (decide (0 ≤ x.dir ∧ x.dir ≤ 15) && nmB x.name))
def enL (k : Int) (x : Den) : List Se := [⟨240 + 3 * k, x.dir⟩, ⟨240 + 3 * k + 1, ((pk x.name x.name.size : Nat) : Int)⟩, ⟨240 + 3 * k + 2, x.child + 1⟩]
set_option maxRecDepth 100000 in
set_option maxHeartbeats 2000000 in
theorem zww (s : ByteArray) (w : World) (hs : s.size = 0) : Calls Tryz.prog 243 #[.string s] w fun e w' => e = .returned (.int .i64 ((pk s s.size : Nat) : Int)) ∧ w' = w := by
 have E := zaa (show ((pk s s.size : Nat) : Int) = 0 by rw [hs, pk_zero]; rfl)
 rw [E.out]
 go_enter Tryz.func243, Tryz.ntmps243
 go_wp2
 go_loop [3, 4] (fun n i => i = .int .i64 0 ∧ n = .int .i64 0) (fun _ i => 0)
 case atStart => exact ⟨rfl, rfl⟩
 case round =>
  obtain ⟨rfl, rfl⟩ := hrel
  go_wp2
  go_ret
  exact ⟨rfl, rfl⟩
set_option maxRecDepth 100000 in
set_option maxHeartbeats 2000000 in
theorem zfa (k : Int) (x : Den) (w : World) (hk : 0 ≤ k ∧ k < 24) (hc : -1 ≤ x.child ∧ x.child ≤ 15) (hn : x.name.size = 0 ∨ nmB x.name = true) :
  Calls Tryz.prog 220 #[.int .i64 k, x.v] w fun e w' => ∃ v', e = .returned v' ∧ Row w' 130 2 w.heap.size w'.heap.size v' (enL k x).length (ses (enL k x)) ∧ Below w.heap.size w w' := by
 have LP := zaa (fun w1 => show Calls Tryz.prog 243 #[.string x.name] w1 fun e w' => e = .returned (.int .i64 ((pk x.name x.name.size : Nat) : Int)) ∧ w' = w1 by
  rcases hn with h | h
  ·exact zww _ _ h
  ·exact l03Pack_any _ _ h)
 clear hn
 have EL := zaa (show enL k x = [⟨240 + 3 * k, x.dir⟩, ⟨240 + 3 * k + 1, ((pk x.name x.name.size : Nat) : Int)⟩, ⟨240 + 3 * k + 2, x.child + 1⟩] from rfl)
 generalize ((pk x.name x.name.size : Nat) : Int) = p at LP EL
 obtain ⟨W, hW⟩ : ∃ W, W = w.alloc (.cells #[.int .i64 x.dir, .string x.name, .int .i64 x.child] 180) := ⟨_, rfl⟩
 have SK : Hid (∀ w', Below W.heap.size W w' → w'.cell? ⟨w.heap.size, 0, none⟩ = some (.int .i64 x.dir) ∧ w'.cell? ⟨w.heap.size, 1, none⟩ = some (.string x.name) ∧ w'.cell? ⟨w.heap.size, 2, none⟩ = some (.int .i64 x.child)) := fun w' hb => by
  have : w'.heap[w.heap.size]? = some (.cells #[.int .i64 x.dir, .string x.name, .int .i64 x.child] 180 (0, 0)) := (hb.block _ (by rw [hW]; simp)).trans (by rw [hW]; exact zah rfl)
  exact zay this
 have BW : Hid (Below w.heap.size w W) := by rw [hW]; exact (Below.refl _ _).alloc (Nat.le_refl _) _
 have hz : w.heap.size ≤ W.heap.size := BW.out.size
 unfold Den.v
 go_enter Tryz.func220, Tryz.ntmps220
 go_wp2_with fail
 rw [← hW]
 clear hW
 go_region_held3 (fun w' => w'.cell? ⟨w.heap.size, 0, none⟩ = some (.int .i64 x.dir) ∧ w'.cell? ⟨w.heap.size, 1, none⟩ = some (.string x.name) ∧ w'.cell? ⟨w.heap.size, 2, none⟩ = some (.int .i64 x.child))
  (exact SK.out _ (by repeat (first | exact Below.refl _ _ | refine Below.drew ?_ | refine Below.alloc ?_ (by simp) _)))
  (first | (go_at_call 205; refine (zdg _ _ _ hk (by omega)).mono ?_; rintro e w' ⟨rfl, hw'⟩; subst w') | (go_at_call 243; refine (LP.out _).mono ?_; rintro e w' ⟨rfl, hw'⟩; subst w'))
 have wp1 : IntKind.i64.wrap (x.child + 1) = x.child + 1 := by rw [IntKind.wrap_i64]; omega
 rw [wp1]
 have R : Hid (UpI W (W.alloc (.cells #[.int .i64 (240 + 3 * k), .int .i64 x.dir, .int .i64 (240 + 3 * k + 1), .int .i64 p, .int .i64 (240 + 3 * k + 2), .int .i64 (x.child + 1)] 130)).drew (.slice (some ⟨W.heap.size, 0, none⟩) 3 3) (enL k x)) := by
  show UpI _ _ _ _
  rw [EL.out]
  exact UpI.below (w := W.alloc (.cells #[.int .i64 (240 + 3 * k), .int .i64 x.dir, .int .i64 (240 + 3 * k + 1), .int .i64 p, .int .i64 (240 + 3 * k + 2), .int .i64 (x.child + 1)] 130)) ⟨World.ownsRow_lit W _ 3 (Nat.le_refl _) (by simp [maxLen]) rfl, (Below.refl _ _).alloc (Nat.le_refl _) _⟩ ((Below.refl _ _).drew)
 go_wp2
 go_ret
 exact ⟨_, rfl, (zad R.out.l).wide hz (Nat.le_refl _), zab BW.out R.out.b hz⟩
theorem zpm (s : ByteArray) : s.toList = [] ↔ s.size = 0 := by
 rw [ByteArray.toList_eq]
 obtain ⟨⟨x⟩⟩ := s
 show x = [] ↔ x.length = 0
 exact List.length_eq_zero_iff.symm
def duC (k : Int) (x : Den) : Int := if 0 ≤ k ∧ k ≤ 23 then (if x.okB = true then 0 else 1) else 4
def duL (k : Int) (x : Den) : List Se := if 0 ≤ k ∧ k ≤ 23 then (if x.okB = true then enL k x else []) else []
theorem du_cases (k : Int) (x : Den) : (¬ (0 ≤ k ∧ k ≤ 23) ∧ duC k x = 4 ∧ duL k x = []) ∨ ((0 ≤ k ∧ k ≤ 23) ∧ x.okB = false ∧ duC k x = 1 ∧ duL k x = []) ∨ ((0 ≤ k ∧ k ≤ 23) ∧ x.okB = true ∧ duC k x = 0 ∧ duL k x = enL k x) := by
 unfold duC duL
 by_cases h : 0 ≤ k ∧ k ≤ 23
 ·cases q : x.okB
  ·exact .inr (.inl ⟨h, rfl, by rw [if_pos h, if_neg (by decide)], by rw [if_pos h, if_neg (by decide)]⟩)
  ·exact .inr (.inr ⟨h, rfl, by rw [if_pos h, if_pos rfl], by rw [if_pos h, if_pos rfl]⟩)
 ·exact .inl ⟨h, by rw [if_neg h], by rw [if_neg h]⟩
end Go.Proofs.YtcilodgoognmnaaGreatDoor

namespace Go.Proofs.YtcilodgoognmnaaGreatDoor
open Go.RowKit
def Den.cells (s : Den) : List Value := [.int .i64 s.dir, .string s.name, .int .i64 s.child]
def zhc (ps : List Den) : List Value := ps.flatMap Den.cells
theorem Den.cells_len (s : Den) : s.cells.length = 3 := rfl
theorem dens_len (ps : List Den) : (zhc ps).length = ps.length * 3 := zgu _ 3 Den.cells_len ps
theorem dens_at0 (ps : List Den) (k : Nat) (h : k < ps.length) : (zhc ps)[k * 3]? = some (.int .i64 ps[k].dir) := zbr _ 3 Den.cells_len ps k 0 h (by omega)
theorem dens_at1 (ps : List Den) (k : Nat) (h : k < ps.length) : (zhc ps)[k * 3 + 1]? = some (.string ps[k].name) := zbr _ 3 Den.cells_len ps k 1 h (by omega)
theorem dens_at2 (ps : List Den) (k : Nat) (h : k < ps.length) : (zhc ps)[k * 3 + 2]? = some (.int .i64 ps[k].child) := zbr _ 3 Den.cells_len ps k 2 h (by omega)
def RdD (w : World) (v : Value) (ps : List Den) : Prop := Rd w 3 v ps.length (zhc ps)
theorem RdD.shape {w : World} {v : Value} {ps : List Den} (h : RdD w v ps) : ∃ ao cap, v = .slice ao ps.length cap ∧ ps.length ≤ cap ∧ (0 < ps.length → ∃ b o, ao = some ⟨b, o, none⟩ ∧ b < w.heap.size ∧
  ∀ k (h : k < ps.length), w.cell? ⟨b, o + k * 3, none⟩ = some (.int .i64 ps[k].dir) ∧ w.cell? ⟨b, o + k * 3 + 1, none⟩ = some (.string ps[k].name) ∧ w.cell? ⟨b, o + k * 3 + 2, none⟩ = some (.int .i64 ps[k].child)) := by
 obtain ⟨_, ao, cap, rfl, h2, h3⟩ := h
 refine ⟨ao, cap, rfl, h2.1, fun hn => ?_⟩
 obtain ⟨b, o, rfl, hb, hc⟩ := h3 hn
 exact ⟨b, o, rfl, hb, fun k hk => ⟨(hc (k * 3) (by omega)).trans (dens_at0 ps k hk), (hc (k * 3 + 1) (by omega)).trans (dens_at1 ps k hk), (hc (k * 3 + 2) (by omega)).trans (dens_at2 ps k hk)⟩⟩
theorem zot : (Tryz.prog.info? 180).map (fun i => (i.zero, i.size, i.bytes)) = some (some (.agg #[.int .i64 0, .string ⟨#[]⟩, .int .i64 0]), 3, 32) := by kernel_rfl
end Go.Proofs.YtcilodgoognmnaaGreatDoor

namespace Go.Proofs.YtcilodgoognmnaaGreatDoor
open Go.RowKit
def RdIm (w : World) (v : Value) (ws : List Ino) (ps : List Den) : Prop := ∃ vW vP, v = .agg #[vW, vP] ∧ RdN w vW ws ∧ RdD w vP ps
def RowIm (w : World) (lo hi : Nat) (v : Value) (ws : List Ino) (ps : List Den) : Prop := ∃ vW vP, v = .agg #[vW, vP] ∧ Row w 97 11 lo hi vW ws.length (inos ws) ∧ Row w 180 3 lo hi vP ps.length (zhc ps)
theorem RowIm.rd {w : World} {lo hi : Nat} {v : Value} {ws : List Ino} {ps : List Den} (h : RowIm w lo hi v ws ps) : RdIm w v ws ps := by
 obtain ⟨vW, vP, rfl, h1, h2⟩ := h
 exact ⟨vW, vP, rfl, h1.rd, h2.rd⟩
theorem RdIm.below {w w' : World} {v : Value} {ws : List Ino} {ps : List Den} (h : RdIm w v ws ps) (hb : Below w.heap.size w w') : RdIm w' v ws ps := by
 obtain ⟨vW, vP, rfl, h1, h2⟩ := h
 exact ⟨vW, vP, rfl, Rd.below h1 hb, Rd.below h2 hb⟩
theorem RowIm.below {w w' : World} {lo hi : Nat} {v : Value} {ws : List Ino} {ps : List Den} (h : RowIm w lo hi v ws ps) {B : Nat} (hb : Below B w w') (hB : hi ≤ B) : RowIm w' lo hi v ws ps := by
 obtain ⟨vW, vP, rfl, h1, h2⟩ := h
 exact ⟨vW, vP, rfl, h1.below hb hB, h2.below hb hB⟩
end Go.Proofs.YtcilodgoognmnaaGreatDoor
