/- Several texts laid together: WdM, Nm, ImA, Wt. -/
import Derived.WalkKit
import Derived.Test.YtbbmljakfbhnpaaGreatDoorZAA
import Derived.Laws.IdiomStrings
import Derived.Laws.BytesArg
import Derived.Deep.OwnRows
import Derived.Test.YtbbmljakfbhnpaaGreatDoorZAB
import Derived.BigQuiet
import Derived.Deep.QuietTactic
namespace Go.Proofs.YtbbmljakfbhnpaaGreatDoor

/-- The digits of a number base 27, the first one first. -/
def zos (n : Nat) : List Nat := if _h : n = 0 then [] else zos (n / 27) ++ [n % 27]
termination_by n
decreasing_by omega
theorem ziy : zos 0 = [] := by rw [zos]; simp
theorem zho {n : Nat} (h : 0 < n) : zos n = zos (n / 27) ++ [n % 27] := by rw [zos]; simp [show n ≠ 0 by omega]

def val (ds : List Nat) : Nat := ds.foldl (fun a d => 27 * a + d) 0
theorem zlm (ds : List Nat) (d : Nat) : val (ds ++ [d]) = 27 * val ds + d := by simp [val]
theorem digs_ne {n : Nat} (h : 0 < n) : 1 ≤ (zos n).length := by rw [zho h]; simp
theorem snoc_ind {α : Type} {P : List α → Prop} (h0 : P []) (h1 : ∀ l x, P l → P (l ++ [x])) : ∀ l, P l := by
 intro l
 have : ∀ n (l : List α), l.length = n → P l := by
  intro n
  induction n with
  | zero => intro l hl; rw [List.length_eq_zero_iff.1 hl]; exact h0
  | succ n ih =>
   intro l hl
   have hne : l ≠ [] := by intro h; subst h; simp at hl
   rw [← List.dropLast_concat_getLast hne]
   exact h1 _ _ (ih _ (by simp [hl]))
 exact this _ l rfl
theorem val_pos {ds : List Nat} (h : ∀ d ∈ ds, 1 ≤ d ∧ d < 27) (hn : ds ≠ []) : 0 < val ds := by
 rw [← List.dropLast_concat_getLast hn, zlm]
 have := (h _ (List.getLast_mem hn)).1
 omega
theorem digs_val (ds : List Nat) : (∀ d ∈ ds, 1 ≤ d ∧ d < 27) → zos (val ds) = ds := by
 refine snoc_ind (P := fun ds => (∀ d ∈ ds, 1 ≤ d ∧ d < 27) → zos (val ds) = ds) (fun _ => ziy) (fun l x ih h => ?_) ds
 have hx := h x (by simp)
 rw [zlm, zho (by omega), show (27 * val l + x) / 27 = val l by omega, show (27 * val l + x) % 27 = x by omega, ih (fun d hd => h d (by simp [hd]))]
theorem val_lt (ds : List Nat) : (∀ d ∈ ds, d < 27) → val ds < 27 ^ ds.length := by
 refine snoc_ind (P := fun ds => (∀ d ∈ ds, d < 27) → val ds < 27 ^ ds.length) (fun _ => by simp [val]) (fun l x ih h => ?_) ds
 have hx := h x (by simp)
 have := ih (fun d hd => h d (by simp [hd]))
 rw [zlm, List.length_append, List.length_singleton, Nat.pow_succ]
 omega
theorem digs_len (k : Nat) : ∀ n, n < 27 ^ k → (zos n).length ≤ k := by
 induction k with
 | zero =>
  intro n h
  have : n = 0 := by simpa using h
  subst this
  rw [ziy]
  simp
 | succ k ih =>
  intro n h
  by_cases h0 : n = 0
  ·subst h0; rw [ziy]; simp
  ·rw [zho (by omega), List.length_append, List.length_singleton]
   have := ih (n / 27) (by rw [Nat.pow_succ] at h; omega)
   omega
/-- In the midst of reading digits: m is left, ds are read. -/
structure Dg (n m : Nat) (ds : List Nat) : Prop where
 eq : zos n = zos m ++ ds
 ok : ∀ d ∈ ds, 1 ≤ d ∧ d < 27
theorem Dg.start (n : Nat) : Dg n n [] := ⟨by simp, fun d h => by cases h⟩
theorem Dg.step {n m : Nat} {ds : List Nat} (h : Dg n m ds) (hm : 0 < m) (h1 : m % 27 ≠ 0) : Dg n (m / 27) (m % 27 :: ds) :=
 ⟨by rw [h.eq, zho hm]; simp, fun d hd => by
  rcases List.mem_cons.1 hd with rfl | hd
  ·omega
  ·exact h.ok d hd⟩
theorem Dg.zero {n m : Nat} {ds : List Nat} (h : Dg n m ds) (hm : 0 < m) (h0 : m % 27 = 0) : ¬ ∀ d ∈ zos n, 1 ≤ d := fun x => by
 have := x (m % 27) (by rw [h.eq, zho hm]; simp)
 omega
theorem Dg.many {n m : Nat} {ds : List Nat} (h : Dg n m ds) (hm : 0 < m) : ds.length < (zos n).length := by
 rw [h.eq, zho hm]; simp; omega
theorem Dg.len {n m : Nat} {ds : List Nat} (h : Dg n m ds) : ds.length ≤ (zos n).length := by rw [h.eq]; simp
theorem Dg.done {n : Nat} {ds : List Nat} (h : Dg n 0 ds) : zos n = ds := by rw [h.eq, ziy]; simp

def nmB (s : ByteArray) : Bool := decide (1 ≤ s.size ∧ s.size ≤ 6 ∧ ∀ j (h : j < s.size), 97 ≤ s[j].toNat ∧ s[j].toNat ≤ 122)
theorem zud {s : ByteArray} (h : s.size < 1) : nmB s = false := decide_eq_false (fun x => by omega)
theorem zsb {s : ByteArray} (h : 6 < s.size) : nmB s = false := decide_eq_false (fun x => by omega)
theorem zmq {s : ByteArray} {k : Nat} (h : k < s.size) (hb : ¬ (97 ≤ s[k].toNat ∧ s[k].toNat ≤ 122)) : nmB s = false := decide_eq_false (fun x => hb (x.2.2 k h))
theorem zws {s : ByteArray} (h0 : 1 ≤ s.size) (h6 : s.size ≤ 6) (h : ∀ j (h : j < s.size), 97 ≤ s[j].toNat ∧ s[j].toNat ≤ 122) : nmB s = true := decide_eq_true ⟨h0, h6, h⟩
theorem zfj {s : ByteArray} (h : nmB s = true) : 1 ≤ s.size ∧ s.size ≤ 6 ∧ ∀ j (h : j < s.size), 97 ≤ s[j].toNat ∧ s[j].toNat ≤ 122 := of_decide_eq_true h

/-- The number of the first k bytes. -/
def letD (b : UInt8) : Nat := b.toNat - 96
def zvg (s : ByteArray) : List Nat := s.data.toList.map letD
def pk (s : ByteArray) (k : Nat) : Nat := val ((zvg s).take k)
theorem zgq (s : ByteArray) : (zvg s).length = s.size := by unfold zvg; rw [List.length_map, Array.length_toList]; rfl
theorem zwc (s : ByteArray) (j : Nat) (h : j < s.size) : (zvg s)[j]'(by rw [zgq]; exact h) = s[j].toNat - 96 := by
 simp only [zvg, List.getElem_map, letD, Array.getElem_toList]
 rfl
theorem pk_zero (s : ByteArray) : pk s 0 = 0 := by simp [pk, val]
theorem pk_succ (s : ByteArray) (k : Nat) (h : k < s.size) : pk s (k + 1) = 27 * pk s k + (s[k].toNat - 96) := by
 unfold pk
 rw [List.take_succ_eq_append_getElem (by rw [zgq]; exact h), zlm, zwc s k h]
theorem ltrs_ok {s : ByteArray} (h : nmB s = true) : ∀ d ∈ zvg s, 1 ≤ d ∧ d < 27 := by
 intro d hd
 obtain ⟨i, hi, rfl⟩ := List.getElem_of_mem hd
 rw [zgq] at hi
 rw [zwc s i hi]
 have := (zfj h).2.2 i hi
 omega
theorem pk_all {s : ByteArray} : pk s s.size = val (zvg s) := by unfold pk; rw [← zgq, List.take_length]
theorem pk_lt {s : ByteArray} {k : Nat} (hl : ∀ j (h : j < s.size), j < k → 97 ≤ s[j].toNat ∧ s[j].toNat ≤ 122) (h6 : k ≤ 6) : pk s k < 387420489 := by
 have h1 : pk s k < 27 ^ ((zvg s).take k).length := by
  unfold pk
  apply val_lt
  intro d hd
  obtain ⟨i, hi, rfl⟩ := List.getElem_of_mem hd
  simp only [List.length_take, zgq] at hi
  rw [List.getElem_take, zwc s i (by omega)]
  have := hl i (by omega) (by omega)
  omega
 have h2 : ((zvg s).take k).length ≤ 6 := by simp only [List.length_take]; omega
 have h3 : 27 ^ ((zvg s).take k).length ≤ 27 ^ 6 := Nat.pow_le_pow_right (by omega) h2
 omega

/-- The bytes of digits. -/
def zcf (ds : List Nat) : ByteArray := ⟨(ds.map fun d => UInt8.ofNat (96 + d)).toArray⟩
theorem zcc (ds : List Nat) : (zcf ds).size = ds.length := by simp [zcf, ByteArray.size]
theorem bytesOf_at (ds : List Nat) (j : Nat) (h : j < (zcf ds).size) (hd : ∀ d ∈ ds, d < 27) : (zcf ds)[j].toNat = 96 + ds[j]'(by rw [zcc] at h; exact h) := by
 have hj : j < ds.length := by rw [zcc] at h; exact h
 have := hd _ (List.getElem_mem hj)
 have e : (zcf ds)[j] = UInt8.ofNat (96 + ds[j]) := by
  have e1 : (zcf ds)[j] = ((ds.map fun d => UInt8.ofNat (96 + d)).toArray)[j]'(by simpa using hj) := rfl
  rw [e1, List.getElem_toArray, List.getElem_map]
 rw [e, UInt8.toNat_ofNat']
 omega
theorem zug {s : ByteArray} (h : nmB s = true) : zcf (zvg s) = s := by
 obtain ⟨⟨l⟩⟩ := s
 simp only [zcf, zvg, List.map_map]
 congr 2
 have hh := (zfj h).2.2
 apply List.ext_getElem
 ·simp
 ·intro i h1 h2
  simp only [List.getElem_map, Function.comp, letD]
  have := hh i h2
  have e : (ByteArray.mk ⟨l⟩)[i]'h2 = l[i]'h2 := rfl
  rw [e] at this
  have e2 : 96 + (l[i].toNat - 96) = l[i].toNat := by omega
  rw [e2, UInt8.ofNat_toNat]
theorem zte (d : Nat) (ds : List Nat) : (⟨#[UInt8.ofNat (96 + d)]⟩ : ByteArray) ++ zcf ds = zcf (d :: ds) := by
 apply ByteArray.ext
 simp [zcf]
theorem nmB_bytesOf {ds : List Nat} (hd : ∀ d ∈ ds, 1 ≤ d ∧ d < 27) (h1 : 1 ≤ ds.length) (h6 : ds.length ≤ 6) : nmB (zcf ds) = true := by
 refine zws (by rw [zcc]; exact h1) (by rw [zcc]; exact h6) (fun j h => ?_)
 rw [bytesOf_at ds j h (fun d x => (hd d x).2)]
 have := hd _ (List.getElem_mem (by rw [zcc] at h; exact h))
 omega

/-- What a number is the name of. -/
def zfm (n : Int) : Bool := decide (0 < n ∧ (∀ d ∈ zos n.toNat, 1 ≤ d) ∧ (zos n.toNat).length ≤ 6)
def zsc (n : Int) : ByteArray := if zfm n = true then zcf (zos n.toNat) else ⟨#[]⟩
def unpC (n : Int) : Int := if zfm n = true then 0 else 3
def zjz (s : ByteArray) : Int := if nmB s = true then (pk s s.size : Nat) else 0
def zov (s : ByteArray) : Int := if 65536 < s.size then 2 else if nmB s = true then 0 else 12
theorem unp_bad {n : Int} (h : zfm n = false) : zsc n = ⟨#[]⟩ ∧ unpC n = 3 := by unfold zsc unpC; rw [h]; exact ⟨rfl, rfl⟩
theorem unp_low {n : Int} (h : ¬ 0 < n) : zfm n = false := decide_eq_false (fun x => h x.1)
theorem unp_zero {n : Nat} {m : Nat} {ds : List Nat} (h : Dg n m ds) (hm : 0 < m) (h0 : m % 27 = 0) : zfm (n : Int) = false := decide_eq_false (fun x => h.zero hm h0 x.2.1)
theorem unp_many {n : Nat} {m : Nat} {ds : List Nat} (h : Dg n m ds) (hm : 0 < m) (h6 : 6 ≤ ds.length) : zfm (n : Int) = false := decide_eq_false (fun x => by have := h.many hm; have := x.2.2; simp only [Int.toNat_natCast] at this; omega)
theorem unp_done {n : Nat} {ds : List Nat} (h : Dg n 0 ds) (hn : 0 < n) (h6 : ds.length ≤ 6) : zsc (n : Int) = zcf ds ∧ unpC (n : Int) = 0 := by
 have g : zfm (n : Int) = true := decide_eq_true ⟨by omega, by rw [Int.toNat_natCast, h.done]; exact fun d x => (h.ok d x).1, by rw [Int.toNat_natCast, h.done]; exact h6⟩
 unfold zsc unpC
 rw [if_pos g, if_pos g, Int.toNat_natCast, h.done]
 exact ⟨rfl, rfl⟩
theorem unp_pack {s : ByteArray} (h : nmB s = true) : zfm (zjz s) = true ∧ zsc (zjz s) = s := by
 have e : zjz s = ((val (zvg s) : Nat) : Int) := by unfold zjz; rw [if_pos h, pk_all]
 have hl := ltrs_ok h
 have hd : zos (val (zvg s)) = zvg s := digs_val _ hl
 have hn := zfj h
 have hne : zvg s ≠ [] := by intro x; have := zgq s; rw [x] at this; simp at this; omega
 have hp := val_pos hl hne
 have g : zfm (zjz s) = true := by
  rw [e]
  refine decide_eq_true ⟨by omega, ?_, ?_⟩
  ·rw [Int.toNat_natCast, hd]; exact fun d x => (hl d x).1
  ·rw [Int.toNat_natCast, hd, zgq]; exact hn.2.1
 refine ⟨g, ?_⟩
 unfold zsc
 rw [if_pos g, e, Int.toNat_natCast, hd, zug h]
end Go.Proofs.YtbbmljakfbhnpaaGreatDoor

namespace Go.Proofs.YtbbmljakfbhnpaaGreatDoor
open Go.RowKit

theorem ret_si {a b : ByteArray} {c d : Int} (h : a = b) (k : c = d) : Ending.returned (.tuple #[.string a, .int .i64 c]) = .returned (.tuple #[.string b, .int .i64 d]) := by rw [h, k]
theorem ret_sb {a b : ByteArray} {c d : Bool} (h : a = b) (k : c = d) : Ending.returned (.tuple #[.string a, .bool c]) = .returned (.tuple #[.string b, .bool d]) := by rw [h, k]

theorem l01Six_yes (n : Int) (w : World) (h : 1 ≤ n ∧ n ≤ 6) : Calls Tryz.prog 45 #[.int .i64 n, .int .i64 1, .int .i64 6] w fun e w' => e = .returned (.bool true) ∧ w' = w := by
 obtain ⟨h1, h2⟩ := h
 go_enter Tryz.func45, Tryz.ntmps45
 go_wp2
 go_ret
 exact ⟨rfl, rfl⟩

theorem l01Six_no (n : Int) (w : World) (h : ¬ (1 ≤ n ∧ n ≤ 6)) : Calls Tryz.prog 45 #[.int .i64 n, .int .i64 1, .int .i64 6] w fun e w' => e = .returned (.bool false) ∧ w' = w := by
 rcases (show ¬ 1 ≤ n ∨ (1 ≤ n ∧ ¬ n ≤ 6) by omega) with h1 | ⟨h1, h2⟩
 all_goals
  clear h
  go_enter Tryz.func45, Tryz.ntmps45
  go_wp2
  go_ret
  exact ⟨rfl, rfl⟩

set_option maxHeartbeats 1000000 in
theorem zdz (s : ByteArray) (w : World) (hs : s.size ≤ maxLen) : Calls Tryz.prog 51 #[.string s] w fun e w' => e = .returned (.bool (nmB s)) ∧ w' = w := by
 unfold maxLen at hs
 by_cases c : 1 ≤ s.size ∧ s.size ≤ 6
 ·have c' : 1 ≤ (s.size : Int) ∧ (s.size : Int) ≤ 6 := by omega
  have C := zaa c'
  obtain ⟨c1, c2⟩ := c
  clear c'
  go_enter Tryz.func51, Tryz.ntmps51
  go_wp2_with (go_at_call 45; refine (l01Six_yes _ _ C.out).mono ?_; rintro e w' ⟨rfl, rfl⟩)
  go_loop [3] (fun i => ∃ k : Nat, k ≤ s.size ∧ i = .int .i64 k ∧ Hid (∀ j (h : j < s.size), j < k → 97 ≤ s[j].toNat ∧ s[j].toNat ≤ 122)) (fun i => s.size - (intOf i).toNat)
  case atStart => exact ⟨0, by omega, rfl, fun j h b => absurd b (by omega)⟩
  case round =>
   obtain ⟨k, hk, rfl, H⟩ := hrel
   by_cases hlt : k < s.size
   ·rcases (show ((s[k].toNat : Int) < 97) ∨ (¬ ((s[k].toNat : Int) < 97) ∧ (122 : Int) < (s[k].toNat : Int)) ∨ (¬ ((s[k].toNat : Int) < 97) ∧ ¬ (122 : Int) < (s[k].toNat : Int)) by omega) with d | ⟨d, d'⟩ | ⟨d, d'⟩
    ·have E := zaa (zmq hlt (by omega))
     go_wp2
     go_ret
     exact ⟨zag E.out.symm, rfl⟩
    ·have E := zaa (zmq hlt (by omega))
     go_wp2
     go_ret
     exact ⟨zag E.out.symm, rfl⟩
    ·go_wp2
     go_round
     case rel =>
      refine ⟨k + 1, by omega, by go_num, fun j h b => ?_⟩
      by_cases e : j = k
      ·subst e; omega
      ·exact H.out j h (by omega)
     case measure => simp [intOf]; omega
   ·have E := zaa (zws c1 c2 (fun j h => H.out j h (by omega)))
    go_wp2
    go_ret
    exact ⟨zag E.out.symm, rfl⟩
 ·have c' : ¬ (1 ≤ (s.size : Int) ∧ (s.size : Int) ≤ 6) := by omega
  have C := zaa c'
  have E := zaa (show nmB s = false from decide_eq_false (fun x => c ⟨x.1, x.2.1⟩))
  clear c c'
  go_enter Tryz.func51, Tryz.ntmps51
  go_wp2_with (go_at_call 45; refine (l01Six_no _ _ C.out).mono ?_; rintro e w' ⟨rfl, rfl⟩)
  go_ret
  exact ⟨zag E.out.symm, rfl⟩

theorem pack_long {s : ByteArray} (h : 65536 < s.size) : zjz s = 0 ∧ zov s = 2 := by
 unfold zjz zov
 rw [if_neg (by rw [zsb (by omega)]; simp), if_pos h]
 exact ⟨rfl, rfl⟩
theorem zma {s : ByteArray} (h : ¬ 65536 < s.size) (h2 : nmB s = false) : zjz s = 0 ∧ zov s = 12 := by
 unfold zjz zov
 rw [h2, if_neg h]
 exact ⟨rfl, rfl⟩
theorem pack_yes {s : ByteArray} (h : nmB s = true) : zjz s = ((pk s s.size : Nat) : Int) ∧ zov s = 0 := by
 unfold zjz zov
 have := (zfj h).2.1
 rw [if_pos h, if_neg (by omega), if_pos h]
 exact ⟨rfl, rfl⟩

set_option maxRecDepth 100000 in
set_option maxHeartbeats 4000000 in
theorem zlg (s : ByteArray) (w : World) (hs : s.size ≤ maxLen) : Calls Tryz.prog 50 #[.string s] w fun e w' => e = .returned (.tuple #[.int .i64 (zjz s), .int .i64 (zov s)]) ∧ Below w.heap.size w w' := by
 unfold maxLen at hs
 by_cases c0 : 65536 < s.size
 ·have E := zaa (pack_long c0)
  go_enter Tryz.func50, Tryz.ntmps50
  go_wp2
  go_ret2
  exact ⟨zey E.out.1.symm E.out.2.symm, Below.refl _ _⟩
 by_cases c1 : s.size < 1
 ·have E := zaa (zma c0 (zud c1))
  go_enter Tryz.func50, Tryz.ntmps50
  go_wp2
  go_ret2
  exact ⟨zey E.out.1.symm E.out.2.symm, Below.refl _ _⟩
 by_cases c2 : 6 < s.size
 ·have E := zaa (zma c0 (zsb c2))
  go_enter Tryz.func50, Tryz.ntmps50
  go_wp2
  go_ret2
  exact ⟨zey E.out.1.symm E.out.2.symm, Below.refl _ _⟩
 have hconv := run_bytes_of_string (P := Tryz.prog) w 9 22 5 s Tryz.underlying9 Tryz.underlying22 Tryz.underlying5
 generalize hcap : grownCap w s.size 0 5 = cap at hconv
 have CELL : Hid (∀ k (h : k < s.size), (w.drew.alloc (.cells (bytesRow s cap) 5 ((bytesRow s cap).size, (bytesRow s cap).size + 1))).cell? ⟨w.heap.size, k, none⟩ = some (.int .u8 (s[k].toNat : Int))) := fun k h => by
  have e := World.cell?_alloc_mark w.drew (bytesRow s cap) 5 ((bytesRow s cap).size, (bytesRow s cap).size + 1) k
  rw [bytesRow_at s cap k h] at e
  exact e
 have BB : Hid (Below w.heap.size w (w.drew.alloc (.cells (bytesRow s cap) 5 ((bytesRow s cap).size, (bytesRow s cap).size + 1)))) := ((Below.refl _ _).drew).alloc (Nat.le_refl _) _
 clear hcap
 generalize w.drew.alloc (.cells (bytesRow s cap) 5 ((bytesRow s cap).size, (bytesRow s cap).size + 1)) = w1 at hconv CELL BB
 go_enter Tryz.func50, Tryz.ntmps50
 go_wp2
 go_loop [4, 6, 21] (fun n _ i => ∃ k : Nat, k ≤ s.size ∧ i = .int .i64 k ∧ n = .int .i64 ((pk s k : Nat) : Int) ∧ Hid (∀ j (h : j < s.size), j < k → 97 ≤ s[j].toNat ∧ s[j].toNat ≤ 122)) (fun _ _ i => s.size - (intOf i).toNat)
 case atStart => exact ⟨0, by omega, rfl, by rw [pk_zero]; rfl, fun j h b => absurd b (by omega)⟩
 case round =>
  obtain ⟨k, hk, rfl, rfl, H⟩ := hrel
  by_cases hlt : k < s.size
  ·have x0 := CELL.out k hlt
   have bd : pk s k < 387420489 := pk_lt H.out (by omega)
   have SU := zaa (pk_succ s k hlt)
   have b255 : s[k].toNat < 256 := s[k].toNat_lt
   have NO := zaa (zmq (s := s) hlt)
   have NX : Hid (97 ≤ s[k].toNat ∧ s[k].toNat ≤ 122 → ∀ j (h : j < s.size), j < k + 1 → 97 ≤ s[j].toNat ∧ s[j].toNat ≤ 122) := fun hx j h b => by
    by_cases e : j = k
    ·subst e; exact hx
    ·exact H.out j h (by omega)
   generalize s[k].toNat = x at x0 SU b255 NO NX
   rcases (show ((x : Int) < 97) ∨ (¬ ((x : Int) < 97) ∧ (122 : Int) < (x : Int)) ∨ (¬ ((x : Int) < 97) ∧ ¬ (122 : Int) < (x : Int)) by omega) with d | ⟨d, d'⟩ | ⟨d, d'⟩
   ·have E := zaa (zma c0 (NO.out (by omega)))
    go_wp2
    go_ret2
    exact ⟨zey E.out.1.symm E.out.2.symm, BB.out⟩
   ·have E := zaa (zma c0 (NO.out (by omega)))
    go_wp2
    go_ret2
    exact ⟨zey E.out.1.symm E.out.2.symm, BB.out⟩
   ·go_wp2
    go_round
    case rel => exact ⟨k + 1, by omega, by go_num, by rw [SU.out]; congr 1; omega, NX.out (by omega)⟩
    case measure => simp [intOf]; omega
  ·have ek : k = s.size := by omega
   subst ek
   have E := zaa (pack_yes (zws (s := s) (by omega) (by omega) (fun j h => H.out j h h)))
   go_wp2
   go_ret2
   exact ⟨zey E.out.1.symm E.out.2.symm, BB.out⟩

set_option maxRecDepth 100000 in
set_option maxHeartbeats 4000000 in
theorem zwb (s : ByteArray) (w : World) (hs : nmB s = true) : Calls Tryz.prog 89 #[.string s] w fun e w' => e = .returned (.int .i64 ((pk s s.size : Nat) : Int)) ∧ w' = w := by
 have N := zaa (zfj hs)
 have h6 : s.size ≤ 6 := (zfj hs).2.1
 clear hs
 go_enter Tryz.func89, Tryz.ntmps89
 go_wp2
 go_loop [3, 4] (fun n i => ∃ k : Nat, k ≤ s.size ∧ i = .int .i64 k ∧ n = .int .i64 ((pk s k : Nat) : Int)) (fun _ i => s.size - (intOf i).toNat)
 case atStart => exact ⟨0, by omega, rfl, by rw [pk_zero]; rfl⟩
 case round =>
  obtain ⟨k, hk, rfl, rfl⟩ := hrel
  by_cases hlt : k < s.size
  ·have bd : pk s k < 387420489 := pk_lt (fun j h _ => N.out.2.2 j h) (by omega)
   have SU := zaa (pk_succ s k hlt)
   have b1 := N.out.2.2 k hlt
   go_wp2
   go_round
   case rel => exact ⟨k + 1, by omega, by go_num, by rw [SU.out]; congr 1; omega⟩
   case measure => simp [intOf]; omega
  ·have ek : k = s.size := by omega
   subst ek
   go_wp2
   go_ret
   exact ⟨rfl, rfl⟩

end Go.Proofs.YtbbmljakfbhnpaaGreatDoor

namespace Go.Proofs.YtbbmljakfbhnpaaGreatDoor
open Go.RowKit

theorem zbj {w : World} {b : Nat} {t : TypeId} {xs : List Value} (h : w.heap[b]? = some (.cells xs.toArray t (0, 0))) (j : Nat) (u : Value) : (w.setCell ⟨b, j, none⟩ u).heap[b]? = some (.cells (xs.set j u).toArray t (0, 0)) := by
 simp [World.setCell, Array.getElem?_modify, h]
theorem zas {w : World} {b : Nat} {t : TypeId} {xs : List Value} (h : w.heap[b]? = some (.cells xs.toArray t (0, 0))) (j : Nat) : w.cell? ⟨b, j, none⟩ = xs[j]? ∧ w.frozen? ⟨b, j, none⟩ = false := by
 simp [World.cell?, World.frozen?, h]
/-- An inode. -/
structure Ino where
 kind : Int
 size : Int
 links : Int
 m0 : Int
 m1 : Int
 m2 : Int
 m3 : Int
 m4 : Int
 m5 : Int
 m6 : Int
 m7 : Int
/-- The map of an inode, as a list. -/
def Ino.map (x : Ino) : List Int := [x.m0, x.m1, x.m2, x.m3, x.m4, x.m5, x.m6, x.m7]
/-- An inode as a value. -/
def Ino.v (x : Ino) : Value := .agg #[.int .i64 x.kind, .int .i64 x.size, .int .i64 x.links, .int .i64 x.m0, .int .i64 x.m1, .int .i64 x.m2, .int .i64 x.m3, .int .i64 x.m4, .int .i64 x.m5, .int .i64 x.m6, .int .i64 x.m7]
/-- An inode's cells. -/
def Ino.cs (x : Ino) : List Value := [.int .i64 x.kind, .int .i64 x.size, .int .i64 x.links, .int .i64 x.m0, .int .i64 x.m1, .int .i64 x.m2, .int .i64 x.m3, .int .i64 x.m4, .int .i64 x.m5, .int .i64 x.m6, .int .i64 x.m7]

end Go.Proofs.YtbbmljakfbhnpaaGreatDoor

namespace Go.Proofs.YtbbmljakfbhnpaaGreatDoor
open Go.RowKit

/-- The variable that counts the addresses lies as the program's start has laid it. -/
def TS (w : World) : Prop := ∃ t fr, w.heap[2]? = some (.cells #[.int .i64 1, .int .i64 24, .int .i64 32] t fr)
theorem TS.lt {w : World} (h : TS w) : 2 < w.heap.size := by
 obtain ⟨t, fr, h⟩ := h
 exact (Array.getElem?_eq_some_iff.1 h).1
theorem TS.below {w w' : World} (h : TS w) (hb : Below w.heap.size w w') : TS w' := by
 have hl := h.lt
 obtain ⟨t, fr, h⟩ := h
 exact ⟨t, fr, (hb.block _ hl).trans h⟩
theorem TS.cells {w : World} (h : TS w) : w.cell? ⟨2, 0, none⟩ = some (.int .i64 1) ∧ w.cell? ⟨2, 1, none⟩ = some (.int .i64 24) ∧ w.cell? ⟨2, 2, none⟩ = some (.int .i64 32) := by
 obtain ⟨t, fr, h⟩ := h
 simp [World.cell?, h]

/-- A tier and an address of it. -/
def zgv (t a : Int) : Bool := decide ((t = 0 ∧ a = 0) ∨ (t = 1 ∧ 0 ≤ a ∧ a < 24) ∨ (t = 2 ∧ 0 ≤ a ∧ a < 32))
theorem addrB_of {t a : Int} (h : (t = 0 ∧ a = 0) ∨ (t = 1 ∧ 0 ≤ a ∧ a < 24) ∨ (t = 2 ∧ 0 ≤ a ∧ a < 32)) : zgv t a = true := decide_eq_true h
theorem zji {t a : Int} (h : ¬ ((t = 0 ∧ a = 0) ∨ (t = 1 ∧ 0 ≤ a ∧ a < 24) ∨ (t = 2 ∧ 0 ≤ a ∧ a < 32))) : zgv t a = false := decide_eq_false h
theorem addrB_true {t a : Int} (h : zgv t a = true) : (t = 0 ∧ a = 0) ∨ (t = 1 ∧ 0 ≤ a ∧ a < 24) ∨ (t = 2 ∧ 0 ≤ a ∧ a < 32) := of_decide_eq_true h
/-- Of an entry: the tier, the address, the code. -/
def zej (e : Int) : Bool := decide (0 ≤ e) && zgv (e % 4) (e / 4)
def tieT (e : Int) : Int := if zej e = true then e % 4 else 0
def tieA (e : Int) : Int := if zej e = true then e / 4 else 0
def tieC (e : Int) : Int := if zej e = true then 0 else 3
theorem tie_in {e : Int} (h : zej e = true) : tieT e = e % 4 ∧ tieA e = e / 4 ∧ tieC e = 0 := by unfold tieT tieA tieC; rw [if_pos h, if_pos h, if_pos h]; exact ⟨rfl, rfl, rfl⟩
theorem zwn {e : Int} (h : zej e = false) : tieT e = 0 ∧ tieA e = 0 ∧ tieC e = 3 := by unfold tieT tieA tieC; rw [h]; exact ⟨rfl, rfl, rfl⟩
theorem addrB_neg {n : Int} (h : n < 0) : zgv (n.tmod 4) (n.tdiv 4) = false := by
 apply zji
 obtain ⟨m, rfl⟩ : ∃ m : Int, n = -m := ⟨-n, by omega⟩
 rw [Int.neg_tmod, Int.neg_tdiv, Int.tmod_eq_emod_of_nonneg (by omega), Int.tdiv_eq_ediv_of_nonneg (by omega)]
 omega
theorem znv {a b c d e f : Int} (h : a = b) (k : c = d) (l : e = f) : Ending.returned (.tuple #[.int .i64 a, .int .i64 c, .int .i64 e]) = .returned (.tuple #[.int .i64 b, .int .i64 d, .int .i64 f]) := by rw [h, k, l]

theorem zro (t a : Int) (w : World) (hT : TS w) (h : zgv t a = true) : Calls Tryz.prog 91 #[.int .i64 t, .int .i64 a] w fun e w' => e = .returned (.bool true) ∧ w' = w := by
 obtain ⟨x0, x1, x2⟩ := hT.cells
 clear hT
 rcases addrB_true h with ⟨rfl, rfl⟩ | ⟨rfl, h1, h2⟩ | ⟨rfl, h1, h2⟩
 all_goals
  clear h
  go_enter Tryz.func91, Tryz.ntmps91
  go_wp2_with (go_at_call 61; refine (zbq _ _ _ (by omega)).mono ?_; rintro e w' ⟨rfl, rfl⟩)
  go_ret
  exact ⟨rfl, rfl⟩

theorem zkv (t a : Int) (w : World) (hT : TS w) (h : zgv t a = false) : Calls Tryz.prog 91 #[.int .i64 t, .int .i64 a] w fun e w' => e = .returned (.bool false) ∧ w' = w := by
 obtain ⟨x0, x1, x2⟩ := hT.cells
 have h' : ¬ ((t = 0 ∧ a = 0) ∨ (t = 1 ∧ 0 ≤ a ∧ a < 24) ∨ (t = 2 ∧ 0 ≤ a ∧ a < 32)) := of_decide_eq_false h
 clear hT h
 rcases (show (t = 0 ∧ ¬ (0 ≤ a ∧ a < 1)) ∨ (t = 1 ∧ ¬ (0 ≤ a ∧ a < 24)) ∨ (t = 2 ∧ ¬ (0 ≤ a ∧ a < 32)) ∨ ¬ (0 ≤ t ∧ t < 3) by omega) with ⟨rfl, ha⟩ | ⟨rfl, ha⟩ | ⟨rfl, ha⟩ | ha
 all_goals
  have H := zaa ha
  clear h' ha
  go_enter Tryz.func91, Tryz.ntmps91
  go_wp2_with (first | (go_at_call 61; refine (zbq _ _ _ (by omega)).mono ?_; rintro e w' ⟨rfl, rfl⟩) | (go_at_call 61; refine (zdl _ _ _ H.out).mono ?_; rintro e w' ⟨rfl, rfl⟩))
  go_ret
  exact ⟨rfl, rfl⟩

theorem zfr (n : Int) (w : World) (hT : TS w) (h0 : -9223372036854775808 ≤ n) (h1 : n ≤ 9223372036854775807) : Calls Tryz.prog 56 #[.int .i64 n] w fun e w' => e = .returned (.tuple #[.int .i64 (tieT n), .int .i64 (tieA n), .int .i64 (tieC n)]) ∧ w' = w := by
 have T := zaa hT
 clear hT
 by_cases c0 : 0 ≤ n
 ·by_cases c : zgv (n % 4) (n / 4) = true
  ·have E := zaa (tie_in (e := n) (by unfold zej; rw [c, decide_eq_true c0]; rfl))
   have C := zaa c
   clear c
   go_enter Tryz.func56, Tryz.ntmps56
   go_wp2_with (go_at_call 91; refine (zro _ _ _ T.out C.out).mono ?_; rintro e w' ⟨rfl, rfl⟩)
   go_ret3
   exact ⟨znv (by rw [E.out.1]) (by rw [E.out.2.1]) E.out.2.2.symm, rfl⟩
  ·have c' : zgv (n % 4) (n / 4) = false := by simpa using c
   have E := zaa (zwn (e := n) (by unfold zej; rw [c']; simp))
   have C := zaa c'
   clear c c'
   go_enter Tryz.func56, Tryz.ntmps56
   go_wp2_with (go_at_call 91; refine (zkv _ _ _ T.out C.out).mono ?_; rintro e w' ⟨rfl, rfl⟩)
   go_ret3
   exact ⟨znv E.out.1.symm E.out.2.1.symm E.out.2.2.symm, rfl⟩
 ·have E := zaa (zwn (e := n) (by unfold zej; rw [decide_eq_false c0]; rfl))
  go_enter Tryz.func56, Tryz.ntmps56
  go_wp2_with (go_at_call 91; refine (zkv _ _ _ T.out (addrB_neg (by omega))).mono ?_; rintro e w' ⟨rfl, rfl⟩)
  go_ret3
  exact ⟨znv E.out.1.symm E.out.2.1.symm E.out.2.2.symm, rfl⟩

theorem zfh (t a : Int) (w : World) (h : 0 ≤ t ∧ t < 3) (k : 0 ≤ a ∧ a < 32) : Calls Tryz.prog 190 #[.int .i64 t, .int .i64 a] w fun e w' => e = .returned (.int .i64 (4 * a + t)) ∧ w' = w := by
 go_enter Tryz.func190, Tryz.ntmps190
 go_wp2
 go_ret
 exact ⟨rfl, rfl⟩

theorem zed (n : Int) (w : World) (h0 : 0 ≤ n) (h1 : n ≤ 9223372036854775807) : Calls Tryz.prog 124 #[.int .i64 n] w fun e w' => e = .returned (.tuple #[.int .i64 (n % 4), .int .i64 (n / 4)]) ∧ w' = w := by
 go_enter Tryz.func124, Tryz.ntmps124
 go_wp2
 go_ret2
 exact ⟨rfl, rfl⟩

theorem zwe (n : Int) (w : World) (h0 : n < 0) (h1 : -9223372036854775808 ≤ n) : Calls Tryz.prog 124 #[.int .i64 n] w fun e w' => (∃ x y : Int, e = .returned (.tuple #[.int .i64 x, .int .i64 y])) ∧ w' = w := by
 go_enter Tryz.func124, Tryz.ntmps124
 go_wp2
 go_ret2
 exact ⟨⟨_, _, rfl⟩, rfl⟩

theorem zeg (n : Int) (w : World) (h0 : -9223372036854775808 ≤ n) (h1 : n ≤ 9223372036854775807) : Calls Tryz.prog 86 #[.int .i64 n] w fun e w' => e = .returned (.bool (zej n)) ∧ w' = w := by
 rcases (show n < 0 ∨ n = 0 ∨ 0 < n by omega) with c | rfl | c
 ·have E := zaa (show zej n = false by unfold zej; rw [decide_eq_false (by omega)]; rfl)
  have q0 : (n == 0) = false := by rw [beq_eq_false_iff_ne]; omega
  have q1 : ¬ 0 < n := by omega
  go_enter Tryz.func86, Tryz.ntmps86
  go_wp2_with fail
  refine (zwe _ _ c h0).mono ?_
  rintro e w' ⟨⟨x, y, rfl⟩, rfl⟩
  go_wp2
  go_ret
  exact ⟨zag E.out.symm, rfl⟩
 ·go_enter Tryz.func86, Tryz.ntmps86
  go_wp2
  go_ret
  exact ⟨zag (by decide), rfl⟩
 ·have q0 : (n == 0) = false := by rw [beq_eq_false_iff_ne]; omega
  have E := zaa (show zej n = zgv (n % 4) (n / 4) by unfold zej; rw [decide_eq_true (by omega)]; rfl)
  rcases (show (n % 4 = 1 ∧ n / 4 < 24) ∨ (n % 4 = 1 ∧ ¬ n / 4 < 24) ∨ (n % 4 = 2 ∧ n / 4 < 32) ∨ (n % 4 = 2 ∧ ¬ n / 4 < 32) ∨ (¬ n % 4 = 1 ∧ ¬ n % 4 = 2) by omega) with ⟨r, q⟩ | ⟨r, q⟩ | ⟨r, q⟩ | ⟨r, q⟩ | ⟨r, q⟩
  ·have A := zaa (addrB_of (t := n % 4) (a := n / 4) (by omega))
   have r1 : (n % 4 == 1) = true := by rw [beq_iff_eq]; exact r
   clear r
   go_enter Tryz.func86, Tryz.ntmps86
   go_wp2_with fail
   refine (zed _ _ (by omega) h1).mono ?_
   rintro e w' ⟨rfl, rfl⟩
   go_wp2
   go_ret
   exact ⟨zag (by rw [E.out, A.out]; first | done | exact decide_eq_false (by omega)), rfl⟩
  ·have A := zaa (zji (t := n % 4) (a := n / 4) (by omega))
   have r1 : (n % 4 == 1) = true := by rw [beq_iff_eq]; exact r
   have r2 : (n % 4 == 2) = false := by rw [beq_eq_false_iff_ne]; omega
   clear r
   go_enter Tryz.func86, Tryz.ntmps86
   go_wp2_with fail
   refine (zed _ _ (by omega) h1).mono ?_
   rintro e w' ⟨rfl, rfl⟩
   go_wp2
   go_ret
   exact ⟨zag (by rw [E.out, A.out]; first | done | exact decide_eq_false (by omega)), rfl⟩
  ·have A := zaa (addrB_of (t := n % 4) (a := n / 4) (by omega))
   have r1 : (n % 4 == 1) = false := by rw [beq_eq_false_iff_ne]; omega
   have r2 : (n % 4 == 2) = true := by rw [beq_iff_eq]; exact r
   clear r
   go_enter Tryz.func86, Tryz.ntmps86
   go_wp2_with fail
   refine (zed _ _ (by omega) h1).mono ?_
   rintro e w' ⟨rfl, rfl⟩
   go_wp2
   go_ret
   exact ⟨zag (by rw [E.out, A.out]; first | done | exact decide_eq_false (by omega)), rfl⟩
  ·have A := zaa (zji (t := n % 4) (a := n / 4) (by omega))
   have r1 : (n % 4 == 1) = false := by rw [beq_eq_false_iff_ne]; omega
   have r2 : (n % 4 == 2) = true := by rw [beq_iff_eq]; exact r
   clear r
   go_enter Tryz.func86, Tryz.ntmps86
   go_wp2_with fail
   refine (zed _ _ (by omega) h1).mono ?_
   rintro e w' ⟨rfl, rfl⟩
   go_wp2
   go_ret
   exact ⟨zag (by rw [E.out, A.out]; first | done | exact decide_eq_false (by omega)), rfl⟩
  ·have A := zaa (zji (t := n % 4) (a := n / 4) (by omega))
   have r1 : (n % 4 == 1) = false := by rw [beq_eq_false_iff_ne]; exact r
   have r2 : (n % 4 == 2) = false := by rw [beq_eq_false_iff_ne]; exact q
   clear r q
   go_enter Tryz.func86, Tryz.ntmps86
   go_wp2_with fail
   refine (zed _ _ (by omega) h1).mono ?_
   rintro e w' ⟨rfl, rfl⟩
   go_wp2
   go_ret
   exact ⟨zag (by rw [E.out, A.out]; first | done | exact decide_eq_false (by omega)), rfl⟩

end Go.Proofs.YtbbmljakfbhnpaaGreatDoor
