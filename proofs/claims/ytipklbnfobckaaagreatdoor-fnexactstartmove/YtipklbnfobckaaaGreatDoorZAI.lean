/- Several texts laid together: JiM, WdM, Nm, MkT, ImA. -/
import Derived.Test.YtipklbnfobckaaaGreatDoorZAH
import Derived.WalkKit
import Derived.Test.YtipklbnfobckaaaGreatDoorMem
import Derived.Laws.IdiomStrings
import Derived.Laws.BytesArg
import Derived.Deep.OwnRows
import Derived.Test.YtipklbnfobckaaaGreatDoorZAB
import Derived.Test.YtipklbnfobckaaaGreatDoorZAE
import Derived.BigQuiet
import Derived.Deep.QuietTactic
namespace Go.Proofs.YtipklbnfobckaaaGreatDoor
open Go.RowKit

/-- A code, and the devices beside it. -/
structure MR where
 c : Int
 W : List Int
 P : List St
 E : List Int
 Q : List Se
/-- Steps one by one, up to the first one without room. -/
def mr : List Mi → List Int → List St → List Int → List Se → MR
 | [], ws, ps, es, qs => ⟨0, ws, ps, es, qs⟩
 | m :: l, ws, ps, es, qs => if fullB m ps qs = true then ⟨7, ws, ps, es, qs⟩ else mr l (doW m ws ps) (doP m ps) (doE m es qs) (doQ m qs)
theorem zlv {ws : List Int} {ps : List St} : pmB ws ps = true ↔ ws.length = 336 ∧ ps.length ≤ 400 ∧ (∀ x ∈ ws, zat x = true) ∧ ∀ p ∈ ps, zbb p.at_ = true ∧ zat p.val = true := by
 constructor
 ·intro h
  refine ⟨(zee h).1, (zee h).2, fun x hx => ?_, fun p hp => ?_⟩
  ·obtain ⟨i, hi, rfl⟩ := List.getElem_of_mem hx; exact pmB_word h i hi
  ·obtain ⟨i, hi, rfl⟩ := List.getElem_of_mem hp; exact zlu h i hi
 ·rintro ⟨h1, h2, h3, h4⟩
  exact pmB_mk h1 h2 (fun k hk => h3 _ (List.getElem_mem hk)) (fun k hk => h4 _ (List.getElem_mem hk))
theorem zko {ws : List Int} {ps : List Se} : zeh ws ps = true ↔ ws.length = 32 ∧ ps.length ≤ 400 ∧ (∀ x ∈ ws, zat x = true) ∧ ∀ p ∈ ps, zij p.at_ = true ∧ zat p.val = true := by
 constructor
 ·intro h
  refine ⟨(zff h).1, (zff h).2, fun x hx => ?_, fun p hp => ?_⟩
  ·obtain ⟨i, hi, rfl⟩ := List.getElem_of_mem hx; exact blkB_word h i hi
  ·obtain ⟨i, hi, rfl⟩ := List.getElem_of_mem hp; exact blkB_store h i hi
 ·rintro ⟨h1, h2, h3, h4⟩
  exact zvx h1 h2 (fun k hk => h3 _ (List.getElem_mem hk)) (fun k hk => h4 _ (List.getElem_mem hk))
theorem ztu : ∀ (ps : List St) (ws : List Int), (∀ x ∈ ws, zat x = true) → (∀ p ∈ ps, zat p.val = true) → ∀ x ∈ fenW ws ps, zat x = true
 | [], ws, h, _ => h
 | p :: ps, ws, h, k => by
   show ∀ x ∈ fenW (if p.fl then ws.set p.at_.toNat p.val else ws) ps, zat x = true
   refine ztu ps _ ?_ (fun q hq => k q (List.mem_cons_of_mem _ hq))
   split
   ·intro x hx
    rcases List.mem_or_eq_of_mem_set hx with hx | rfl
    ·exact h x hx
    ·exact k p (List.mem_cons_self)
   ·exact h
theorem zra : ∀ (ps : List Se) (ws : List Int), (∀ x ∈ ws, zat x = true) → (∀ p ∈ ps, zat p.val = true) → ∀ x ∈ layE ws ps, zat x = true
 | [], ws, h, _ => h
 | p :: ps, ws, h, k => by
   show ∀ x ∈ layE (ws.set p.at_.toNat p.val) ps, zat x = true
   refine zra ps _ ?_ (fun q hq => k q (List.mem_cons_of_mem _ hq))
   intro x hx
   rcases List.mem_or_eq_of_mem_set hx with hx | rfl
   ·exact h x hx
   ·exact k p (List.mem_cons_self)
theorem do_ok {m : Mi} {ws : List Int} {ps : List St} {es : List Int} {qs : List Se} (h : pmB ws ps = true) (hb : zeh es qs = true) (hm : miB m = true) (hf : fullB m ps qs = false) : pmB (doW m ws ps) (doP m ps) = true ∧ zeh (doE m es qs) (doQ m qs) = true := by
 obtain ⟨k, a, x⟩ := m
 obtain ⟨p1, p2, p3, p4⟩ := zlv.1 h
 obtain ⟨b1, b2, b3, b4⟩ := zko.1 hb
 have hk := (zgr k a x).1 hm
 have hf' : ¬ ((k = 1 ∧ ps.length = 400) ∨ (k = 4 ∧ qs.length = 400)) := of_decide_eq_false hf
 rcases (show (k = 1 ∧ (0 ≤ a ∧ a < 336) ∧ 0 ≤ x ∧ x < 1099511627776) ∨ k = 2 ∨ k = 3 ∨ (k = 4 ∧ (0 ≤ a ∧ a < 32) ∧ 0 ≤ x ∧ x < 1099511627776) ∨ k = 5 by omega) with ⟨rfl, ha, hx⟩ | rfl | rfl | ⟨rfl, ha, hx⟩ | rfl
 ·refine ⟨zlv.2 ⟨p1, ?_, p3, ?_⟩, hb⟩
  ·show (ps ++ [(⟨a, x, false⟩ : St)]).length ≤ 400
   simp
   omega
  ·intro p hp
   rcases List.mem_append.1 (show p ∈ ps ++ [⟨a, x, false⟩] from hp) with hp | hp
   ·exact p4 p hp
   ·rw [List.mem_singleton.1 hp]; exact ⟨decide_eq_true ha, decide_eq_true hx⟩
 ·refine ⟨zlv.2 ⟨p1, ?_, p3, ?_⟩, hb⟩
  ·show (ps.map (fl1 a)).length ≤ 400
   simpa using p2
  ·intro p hp
   obtain ⟨q, hq, rfl⟩ := List.mem_map.1 (show p ∈ ps.map (fl1 a) from hp)
   have := p4 q hq
   unfold fl1
   split <;> exact this
 ·refine ⟨zlv.2 ⟨?_, ?_, ?_, ?_⟩, hb⟩
  ·show (fenW ws ps).length = 336
   rw [fenW_len]; exact p1
  ·exact Nat.le_trans (List.length_filter_le _ _) p2
  ·exact ztu ps ws p3 (fun p hp => (p4 p hp).2)
  ·intro p hp
   exact p4 p (List.mem_filter.1 (show p ∈ ps.filter (fun p => !p.fl) from hp)).1
 ·refine ⟨h, zko.2 ⟨b1, ?_, b3, ?_⟩⟩
  ·show (qs ++ [(⟨a, x⟩ : Se)]).length ≤ 400
   simp
   omega
  ·intro p hp
   rcases List.mem_append.1 (show p ∈ qs ++ [⟨a, x⟩] from hp) with hp | hp
   ·exact b4 p hp
   ·rw [List.mem_singleton.1 hp]; exact ⟨decide_eq_true ha, decide_eq_true hx⟩
 ·refine ⟨h, zko.2 ⟨?_, Nat.zero_le _, ?_, fun p hp => by cases hp⟩⟩
  ·show (layE es qs).length = 32
   rw [layE_len]; exact b1
  ·exact zra qs es b3 (fun p hp => (b4 p hp).2)
theorem mr_ok : ∀ (l : List Mi) (ws : List Int) (ps : List St) (es : List Int) (qs : List Se), pmB ws ps = true → zeh es qs = true → (∀ m ∈ l, miB m = true) → pmB (mr l ws ps es qs).W (mr l ws ps es qs).P = true ∧ zeh (mr l ws ps es qs).E (mr l ws ps es qs).Q = true
 | [], ws, ps, es, qs, h, hb, _ => ⟨h, hb⟩
 | m :: l, ws, ps, es, qs, h, hb, hm => by
   by_cases c : fullB m ps qs = true
   ·simp only [mr, if_pos c]; exact ⟨h, hb⟩
   ·simp only [mr, if_neg c]
    obtain ⟨h1, h2⟩ := do_ok h hb (hm m List.mem_cons_self) (by simpa using c)
    exact mr_ok l _ _ _ _ h1 h2 (fun q hq => hm q (List.mem_cons_of_mem _ hq))
end Go.Proofs.YtipklbnfobckaaaGreatDoor

namespace Go.Proofs.YtipklbnfobckaaaGreatDoor

/-- The digits of a number base 27, the first one first. -/
def zpv (n : Nat) : List Nat := if _h : n = 0 then [] else zpv (n / 27) ++ [n % 27]
termination_by n
decreasing_by omega
theorem zmb : zpv 0 = [] := by rw [zpv]; simp
theorem zht {n : Nat} (h : 0 < n) : zpv n = zpv (n / 27) ++ [n % 27] := by rw [zpv]; simp [show n ≠ 0 by omega]

def val (ds : List Nat) : Nat := ds.foldl (fun a d => 27 * a + d) 0
theorem val_snoc (ds : List Nat) (d : Nat) : val (ds ++ [d]) = 27 * val ds + d := by simp [val]
theorem digs_ne {n : Nat} (h : 0 < n) : 1 ≤ (zpv n).length := by rw [zht h]; simp
theorem snoc_ind {α : Type} {P : List α → Prop} (h0 : P []) (h1 : ∀ l x, P l → P (l ++ [x])) : ∀ l, P l := by
 intro l
 have : ∀ n (l : List α), l.length = n → P l := by
  intro n
  induction n with
  | zero => intro l hl; rw [List.length_eq_zero_iff.1 hl]; exact h0
  | succ n ih =>
   intro l hl
   have hne : l ≠ [] := by intro h; subst h; simp at hl
   rw [← List.dropLast_concat_getLast hne]
   exact h1 _ _ (ih _ (by simp [hl]))
 exact this _ l rfl
theorem val_lt (ds : List Nat) : (∀ d ∈ ds, d < 27) → val ds < 27 ^ ds.length := by
 refine snoc_ind (P := fun ds => (∀ d ∈ ds, d < 27) → val ds < 27 ^ ds.length) (fun _ => by simp [val]) (fun l x ih h => ?_) ds
 have hx := h x (by simp)
 have := ih (fun d hd => h d (by simp [hd]))
 rw [val_snoc, List.length_append, List.length_singleton, Nat.pow_succ]
 omega
theorem digs_len (k : Nat) : ∀ n, n < 27 ^ k → (zpv n).length ≤ k := by
 induction k with
 | zero =>
  intro n h
  have : n = 0 := by simpa using h
  subst this
  rw [zmb]
  simp
 | succ k ih =>
  intro n h
  by_cases h0 : n = 0
  ·subst h0; rw [zmb]; simp
  ·rw [zht (by omega), List.length_append, List.length_singleton]
   have := ih (n / 27) (by rw [Nat.pow_succ] at h; omega)
   omega
/-- In the midst of reading digits: m is left, ds are read. -/
structure Dg (n m : Nat) (ds : List Nat) : Prop where
 eq : zpv n = zpv m ++ ds
 ok : ∀ d ∈ ds, 1 ≤ d ∧ d < 27
theorem Dg.start (n : Nat) : Dg n n [] := ⟨by simp, fun d h => by cases h⟩
theorem Dg.step {n m : Nat} {ds : List Nat} (h : Dg n m ds) (hm : 0 < m) (h1 : m % 27 ≠ 0) : Dg n (m / 27) (m % 27 :: ds) :=
 ⟨by rw [h.eq, zht hm]; simp, fun d hd => by
  rcases List.mem_cons.1 hd with rfl | hd
  ·omega
  ·exact h.ok d hd⟩
theorem Dg.zero {n m : Nat} {ds : List Nat} (h : Dg n m ds) (hm : 0 < m) (h0 : m % 27 = 0) : ¬ ∀ d ∈ zpv n, 1 ≤ d := fun x => by
 have := x (m % 27) (by rw [h.eq, zht hm]; simp)
 omega
theorem Dg.many {n m : Nat} {ds : List Nat} (h : Dg n m ds) (hm : 0 < m) : ds.length < (zpv n).length := by
 rw [h.eq, zht hm]; simp; omega
theorem Dg.len {n m : Nat} {ds : List Nat} (h : Dg n m ds) : ds.length ≤ (zpv n).length := by rw [h.eq]; simp
theorem Dg.done {n : Nat} {ds : List Nat} (h : Dg n 0 ds) : zpv n = ds := by rw [h.eq, zmb]; simp

def nmB (s : ByteArray) : Bool := decide (1 ≤ s.size ∧ s.size ≤ 6 ∧ ∀ j (h : j < s.size), 97 ≤ s[j].toNat ∧ s[j].toNat ≤ 122)
theorem zrt {s : ByteArray} (h : s.size < 1) : nmB s = false := decide_eq_false (fun x => by omega)
theorem zps {s : ByteArray} (h : 6 < s.size) : nmB s = false := decide_eq_false (fun x => by omega)
theorem zmc {s : ByteArray} {k : Nat} (h : k < s.size) (hb : ¬ (97 ≤ s[k].toNat ∧ s[k].toNat ≤ 122)) : nmB s = false := decide_eq_false (fun x => hb (x.2.2 k h))
theorem zuy {s : ByteArray} (h0 : 1 ≤ s.size) (h6 : s.size ≤ 6) (h : ∀ j (h : j < s.size), 97 ≤ s[j].toNat ∧ s[j].toNat ≤ 122) : nmB s = true := decide_eq_true ⟨h0, h6, h⟩
theorem nmB_true {s : ByteArray} (h : nmB s = true) : 1 ≤ s.size ∧ s.size ≤ 6 ∧ ∀ j (h : j < s.size), 97 ≤ s[j].toNat ∧ s[j].toNat ≤ 122 := of_decide_eq_true h

/-- The number of the first k bytes. -/
def letD (b : UInt8) : Nat := b.toNat - 96
def ltrs (s : ByteArray) : List Nat := s.data.toList.map letD
def pk (s : ByteArray) (k : Nat) : Nat := val ((ltrs s).take k)
theorem zpo (s : ByteArray) : (ltrs s).length = s.size := by unfold ltrs; rw [List.length_map, Array.length_toList]; rfl
theorem ltrs_at (s : ByteArray) (j : Nat) (h : j < s.size) : (ltrs s)[j]'(by rw [zpo]; exact h) = s[j].toNat - 96 := by
 simp only [ltrs, List.getElem_map, letD, Array.getElem_toList]
 rfl
theorem pk_zero (s : ByteArray) : pk s 0 = 0 := by simp [pk, val]
theorem pk_succ (s : ByteArray) (k : Nat) (h : k < s.size) : pk s (k + 1) = 27 * pk s k + (s[k].toNat - 96) := by
 unfold pk
 rw [List.take_succ_eq_append_getElem (by rw [zpo]; exact h), val_snoc, ltrs_at s k h]
theorem pk_lt {s : ByteArray} {k : Nat} (hl : ∀ j (h : j < s.size), j < k → 97 ≤ s[j].toNat ∧ s[j].toNat ≤ 122) (h6 : k ≤ 6) : pk s k < 387420489 := by
 have h1 : pk s k < 27 ^ ((ltrs s).take k).length := by
  unfold pk
  apply val_lt
  intro d hd
  obtain ⟨i, hi, rfl⟩ := List.getElem_of_mem hd
  simp only [List.length_take, zpo] at hi
  rw [List.getElem_take, ltrs_at s i (by omega)]
  have := hl i (by omega) (by omega)
  omega
 have h2 : ((ltrs s).take k).length ≤ 6 := by simp only [List.length_take]; omega
 have h3 : 27 ^ ((ltrs s).take k).length ≤ 27 ^ 6 := Nat.pow_le_pow_right (by omega) h2
 omega

/-- The bytes of digits. -/
def zbs (ds : List Nat) : ByteArray := ⟨(ds.map fun d => UInt8.ofNat (96 + d)).toArray⟩
theorem zbl (ds : List Nat) : (zbs ds).size = ds.length := by simp [zbs, ByteArray.size]
theorem bytesOf_at (ds : List Nat) (j : Nat) (h : j < (zbs ds).size) (hd : ∀ d ∈ ds, d < 27) : (zbs ds)[j].toNat = 96 + ds[j]'(by rw [zbl] at h; exact h) := by
 have hj : j < ds.length := by rw [zbl] at h; exact h
 have := hd _ (List.getElem_mem hj)
 have e : (zbs ds)[j] = UInt8.ofNat (96 + ds[j]) := by
  have e1 : (zbs ds)[j] = ((ds.map fun d => UInt8.ofNat (96 + d)).toArray)[j]'(by simpa using hj) := rfl
  rw [e1, List.getElem_toArray, List.getElem_map]
 rw [e, UInt8.toNat_ofNat']
 omega
theorem zrk (d : Nat) (ds : List Nat) : (⟨#[UInt8.ofNat (96 + d)]⟩ : ByteArray) ++ zbs ds = zbs (d :: ds) := by
 apply ByteArray.ext
 simp [zbs]
theorem zvb {ds : List Nat} (hd : ∀ d ∈ ds, 1 ≤ d ∧ d < 27) (h1 : 1 ≤ ds.length) (h6 : ds.length ≤ 6) : nmB (zbs ds) = true := by
 refine zuy (by rw [zbl]; exact h1) (by rw [zbl]; exact h6) (fun j h => ?_)
 rw [bytesOf_at ds j h (fun d x => (hd d x).2)]
 have := hd _ (List.getElem_mem (by rw [zbl] at h; exact h))
 omega

/-- What a number is the name of. -/
def zfg (n : Int) : Bool := decide (0 < n ∧ (∀ d ∈ zpv n.toNat, 1 ≤ d) ∧ (zpv n.toNat).length ≤ 6)
def zuf (n : Int) : ByteArray := if zfg n = true then zbs (zpv n.toNat) else ⟨#[]⟩
def unpC (n : Int) : Int := if zfg n = true then 0 else 3
def zst (s : ByteArray) : Int := if nmB s = true then (pk s s.size : Nat) else 0
def znq (s : ByteArray) : Int := if 65536 < s.size then 2 else if nmB s = true then 0 else 12
theorem zur {n : Int} (h : zfg n = false) : zuf n = ⟨#[]⟩ ∧ unpC n = 3 := by unfold zuf unpC; rw [h]; exact ⟨rfl, rfl⟩
theorem zun {n : Int} (h : ¬ 0 < n) : zfg n = false := decide_eq_false (fun x => h x.1)
theorem unp_zero {n : Nat} {m : Nat} {ds : List Nat} (h : Dg n m ds) (hm : 0 < m) (h0 : m % 27 = 0) : zfg (n : Int) = false := decide_eq_false (fun x => h.zero hm h0 x.2.1)
theorem unp_many {n : Nat} {m : Nat} {ds : List Nat} (h : Dg n m ds) (hm : 0 < m) (h6 : 6 ≤ ds.length) : zfg (n : Int) = false := decide_eq_false (fun x => by have := h.many hm; have := x.2.2; simp only [Int.toNat_natCast] at this; omega)
theorem unp_done {n : Nat} {ds : List Nat} (h : Dg n 0 ds) (hn : 0 < n) (h6 : ds.length ≤ 6) : zuf (n : Int) = zbs ds ∧ unpC (n : Int) = 0 := by
 have g : zfg (n : Int) = true := decide_eq_true ⟨by omega, by rw [Int.toNat_natCast, h.done]; exact fun d x => (h.ok d x).1, by rw [Int.toNat_natCast, h.done]; exact h6⟩
 unfold zuf unpC
 rw [if_pos g, if_pos g, Int.toNat_natCast, h.done]
 exact ⟨rfl, rfl⟩
end Go.Proofs.YtipklbnfobckaaaGreatDoor

namespace Go.Proofs.YtipklbnfobckaaaGreatDoor
open Go.RowKit

theorem ret_si {a b : ByteArray} {c d : Int} (h : a = b) (k : c = d) : Ending.returned (.tuple #[.string a, .int .i64 c]) = .returned (.tuple #[.string b, .int .i64 d]) := by rw [h, k]
theorem ret_sb {a b : ByteArray} {c d : Bool} (h : a = b) (k : c = d) : Ending.returned (.tuple #[.string a, .bool c]) = .returned (.tuple #[.string b, .bool d]) := by rw [h, k]

theorem l01Six_yes (n : Int) (w : World) (h : 1 ≤ n ∧ n ≤ 6) : Calls Tryz.prog 94 #[.int .i64 n, .int .i64 1, .int .i64 6] w fun e w' => e = .returned (.bool true) ∧ w' = w := by
 obtain ⟨h1, h2⟩ := h
 go_enter Tryz.func94, Tryz.ntmps94
 go_wp2
 go_ret
 exact ⟨rfl, rfl⟩

theorem l01Six_no (n : Int) (w : World) (h : ¬ (1 ≤ n ∧ n ≤ 6)) : Calls Tryz.prog 94 #[.int .i64 n, .int .i64 1, .int .i64 6] w fun e w' => e = .returned (.bool false) ∧ w' = w := by
 rcases (show ¬ 1 ≤ n ∨ (1 ≤ n ∧ ¬ n ≤ 6) by omega) with h1 | ⟨h1, h2⟩
 all_goals
  clear h
  go_enter Tryz.func94, Tryz.ntmps94
  go_wp2
  go_ret
  exact ⟨rfl, rfl⟩

set_option maxHeartbeats 1000000 in
theorem zeg (s : ByteArray) (w : World) (hs : s.size ≤ maxLen) : Calls Tryz.prog 214 #[.string s] w fun e w' => e = .returned (.bool (nmB s)) ∧ w' = w := by
 unfold maxLen at hs
 by_cases c : 1 ≤ s.size ∧ s.size ≤ 6
 ·have c' : 1 ≤ (s.size : Int) ∧ (s.size : Int) ≤ 6 := by omega
  have C := zaa c'
  obtain ⟨c1, c2⟩ := c
  clear c'
  go_enter Tryz.func214, Tryz.ntmps214
  go_wp2_with (go_at_call 94; refine (l01Six_yes _ _ C.out).mono ?_; rintro e w' ⟨rfl, rfl⟩)
  go_loop [3] (fun i => ∃ k : Nat, k ≤ s.size ∧ i = .int .i64 k ∧ Hid (∀ j (h : j < s.size), j < k → 97 ≤ s[j].toNat ∧ s[j].toNat ≤ 122)) (fun i => s.size - (intOf i).toNat)
  case atStart => exact ⟨0, by omega, rfl, fun j h b => absurd b (by omega)⟩
  case round =>
   obtain ⟨k, hk, rfl, H⟩ := hrel
   by_cases hlt : k < s.size
   ·rcases (show ((s[k].toNat : Int) < 97) ∨ (¬ ((s[k].toNat : Int) < 97) ∧ (122 : Int) < (s[k].toNat : Int)) ∨ (¬ ((s[k].toNat : Int) < 97) ∧ ¬ (122 : Int) < (s[k].toNat : Int)) by omega) with d | ⟨d, d'⟩ | ⟨d, d'⟩
    ·have E := zaa (zmc hlt (by omega))
     go_wp2
     go_ret
     exact ⟨zac E.out.symm, rfl⟩
    ·have E := zaa (zmc hlt (by omega))
     go_wp2
     go_ret
     exact ⟨zac E.out.symm, rfl⟩
    ·go_wp2
     go_round
     case rel =>
      refine ⟨k + 1, by omega, by go_num, fun j h b => ?_⟩
      by_cases e : j = k
      ·subst e; omega
      ·exact H.out j h (by omega)
     case measure => simp [intOf]; omega
   ·have E := zaa (zuy c1 c2 (fun j h => H.out j h (by omega)))
    go_wp2
    go_ret
    exact ⟨zac E.out.symm, rfl⟩
 ·have c' : ¬ (1 ≤ (s.size : Int) ∧ (s.size : Int) ≤ 6) := by omega
  have C := zaa c'
  have E := zaa (show nmB s = false from decide_eq_false (fun x => c ⟨x.1, x.2.1⟩))
  clear c c'
  go_enter Tryz.func214, Tryz.ntmps214
  go_wp2_with (go_at_call 94; refine (l01Six_no _ _ C.out).mono ?_; rintro e w' ⟨rfl, rfl⟩)
  go_ret
  exact ⟨zac E.out.symm, rfl⟩

theorem pack_long {s : ByteArray} (h : 65536 < s.size) : zst s = 0 ∧ znq s = 2 := by
 unfold zst znq
 rw [if_neg (by rw [zps (by omega)]; simp), if_pos h]
 exact ⟨rfl, rfl⟩
theorem zkq {s : ByteArray} (h : ¬ 65536 < s.size) (h2 : nmB s = false) : zst s = 0 ∧ znq s = 12 := by
 unfold zst znq
 rw [h2, if_neg h]
 exact ⟨rfl, rfl⟩
theorem pack_yes {s : ByteArray} (h : nmB s = true) : zst s = ((pk s s.size : Nat) : Int) ∧ znq s = 0 := by
 unfold zst znq
 have := (nmB_true h).2.1
 rw [if_pos h, if_neg (by omega), if_pos h]
 exact ⟨rfl, rfl⟩

set_option maxRecDepth 100000 in
set_option maxHeartbeats 4000000 in
theorem zkc (s : ByteArray) (w : World) (hs : s.size ≤ maxLen) : Calls Tryz.prog 322 #[.string s] w fun e w' => e = .returned (.tuple #[.int .i64 (zst s), .int .i64 (znq s)]) ∧ Below w.heap.size w w' := by
 unfold maxLen at hs
 by_cases c0 : 65536 < s.size
 ·have E := zaa (pack_long c0)
  go_enter Tryz.func322, Tryz.ntmps322
  go_wp2
  go_ret2
  exact ⟨zbq E.out.1.symm E.out.2.symm, Below.refl _ _⟩
 by_cases c1 : s.size < 1
 ·have E := zaa (zkq c0 (zrt c1))
  go_enter Tryz.func322, Tryz.ntmps322
  go_wp2
  go_ret2
  exact ⟨zbq E.out.1.symm E.out.2.symm, Below.refl _ _⟩
 by_cases c2 : 6 < s.size
 ·have E := zaa (zkq c0 (zps c2))
  go_enter Tryz.func322, Tryz.ntmps322
  go_wp2
  go_ret2
  exact ⟨zbq E.out.1.symm E.out.2.symm, Below.refl _ _⟩
 have hconv := run_bytes_of_string (P := Tryz.prog) w 9 223 5 s Tryz.underlying9 Tryz.underlying223 Tryz.underlying5
 generalize hcap : grownCap w s.size 0 5 = cap at hconv
 have CELL : Hid (∀ k (h : k < s.size), (w.drew.alloc (.cells (bytesRow s cap) 5 ((bytesRow s cap).size, (bytesRow s cap).size + 1))).cell? ⟨w.heap.size, k, none⟩ = some (.int .u8 (s[k].toNat : Int))) := fun k h => by
  have e := World.cell?_alloc_mark w.drew (bytesRow s cap) 5 ((bytesRow s cap).size, (bytesRow s cap).size + 1) k
  rw [bytesRow_at s cap k h] at e
  exact e
 have BB : Hid (Below w.heap.size w (w.drew.alloc (.cells (bytesRow s cap) 5 ((bytesRow s cap).size, (bytesRow s cap).size + 1)))) := ((Below.refl _ _).drew).alloc (Nat.le_refl _) _
 clear hcap
 generalize w.drew.alloc (.cells (bytesRow s cap) 5 ((bytesRow s cap).size, (bytesRow s cap).size + 1)) = w1 at hconv CELL BB
 go_enter Tryz.func322, Tryz.ntmps322
 go_wp2
 go_loop [4, 6, 21] (fun n _ i => ∃ k : Nat, k ≤ s.size ∧ i = .int .i64 k ∧ n = .int .i64 ((pk s k : Nat) : Int) ∧ Hid (∀ j (h : j < s.size), j < k → 97 ≤ s[j].toNat ∧ s[j].toNat ≤ 122)) (fun _ _ i => s.size - (intOf i).toNat)
 case atStart => exact ⟨0, by omega, rfl, by rw [pk_zero]; rfl, fun j h b => absurd b (by omega)⟩
 case round =>
  obtain ⟨k, hk, rfl, rfl, H⟩ := hrel
  by_cases hlt : k < s.size
  ·have x0 := CELL.out k hlt
   have bd : pk s k < 387420489 := pk_lt H.out (by omega)
   have SU := zaa (pk_succ s k hlt)
   have b255 : s[k].toNat < 256 := s[k].toNat_lt
   have NO := zaa (zmc (s := s) hlt)
   have NX : Hid (97 ≤ s[k].toNat ∧ s[k].toNat ≤ 122 → ∀ j (h : j < s.size), j < k + 1 → 97 ≤ s[j].toNat ∧ s[j].toNat ≤ 122) := fun hx j h b => by
    by_cases e : j = k
    ·subst e; exact hx
    ·exact H.out j h (by omega)
   generalize s[k].toNat = x at x0 SU b255 NO NX
   rcases (show ((x : Int) < 97) ∨ (¬ ((x : Int) < 97) ∧ (122 : Int) < (x : Int)) ∨ (¬ ((x : Int) < 97) ∧ ¬ (122 : Int) < (x : Int)) by omega) with d | ⟨d, d'⟩ | ⟨d, d'⟩
   ·have E := zaa (zkq c0 (NO.out (by omega)))
    go_wp2
    go_ret2
    exact ⟨zbq E.out.1.symm E.out.2.symm, BB.out⟩
   ·have E := zaa (zkq c0 (NO.out (by omega)))
    go_wp2
    go_ret2
    exact ⟨zbq E.out.1.symm E.out.2.symm, BB.out⟩
   ·go_wp2
    go_round
    case rel => exact ⟨k + 1, by omega, by go_num, by rw [SU.out]; congr 1; omega, NX.out (by omega)⟩
    case measure => simp [intOf]; omega
  ·have ek : k = s.size := by omega
   subst ek
   have E := zaa (pack_yes (zuy (s := s) (by omega) (by omega) (fun j h => H.out j h h)))
   go_wp2
   go_ret2
   exact ⟨zbq E.out.1.symm E.out.2.symm, BB.out⟩

end Go.Proofs.YtipklbnfobckaaaGreatDoor

namespace Go.Proofs.YtipklbnfobckaaaGreatDoor
open Go.RowKit

/-- A number's digits ahead of a text. -/
def mkS : Nat → Nat → ByteArray → ByteArray
 | 0, _, acc => acc
 | f + 1, k, acc => if k = 0 then acc else mkS f (k / 10) (⟨#[UInt8.ofNat (48 + k % 10)]⟩ ++ acc)
theorem mkS_zero : ∀ (f : Nat) (acc : ByteArray), mkS f 0 acc = acc
 | 0, _ => rfl
 | f + 1, acc => by unfold mkS; rw [if_pos rfl]
/-- The text of a mark. -/
def mtx (k : Nat) : ByteArray := if k = 0 then ⟨#[109, 48]⟩ else ⟨#[109]⟩ ++ mkS 40 k ⟨#[]⟩

set_option maxRecDepth 100000 in
set_option maxHeartbeats 4000000 in
theorem zjo (k : Nat) (w : World) (hk : k ≤ 4611686018427387904) :
  Calls Tryz.prog 142 #[.int .i64 (k : Int)] w fun e w' => e = .returned (.string (mtx k)) ∧ Below w.heap.size w w' := by
 by_cases h0 : k = 0
 ·subst h0
  rw [show mtx 0 = ⟨#[109, 48]⟩ from rfl]
  go_enter Tryz.func142, Tryz.ntmps142
  go_wp2
  go_ret
  exact ⟨rfl, Below.refl _ _⟩
 ·have E := zaa (show mtx k = ⟨#[109]⟩ ++ mkS 40 k ⟨#[]⟩ from if_neg h0)
  have P10 : Hid (k < 10 ^ 40) := Nat.lt_of_le_of_lt hk (by decide)
  have k1 : ¬ (k : Int) ≤ 0 := by omega
  generalize mtx k = T at *
  clear h0
  go_enter Tryz.func142, Tryz.ntmps142
  go_wp2
  go_loopw [0, 3] (fun x o wr => ∃ (m f : Nat) (acc : ByteArray), x = .int .i64 m ∧ o = .string acc ∧ m ≤ k ∧ acc.size + f ≤ 40 ∧ Hid (m < 10 ^ f ∧ mkS f m acc = mkS 40 k ⟨#[]⟩ ∧ Below w.heap.size w wr)) (fun x _ _ => (intOf x).toNat)
  case atStart => exact ⟨k, 40, ⟨#[]⟩, rfl, rfl, Nat.le_refl _, Nat.le_refl 40, P10.out, rfl, Below.refl _ _⟩
  case round =>
   obtain ⟨m, f, acc, rfl, rfl, hm, hf, D⟩ := hrel
   by_cases c : m = 0
   ·subst c
    have E2 : Hid (mkS 40 k ⟨#[]⟩ = acc) := by
     show _ = _
     rw [← D.out.2.1, mkS_zero]
    have B := zaa D.out.2.2
    have had := run_string_add_sum (P := Tryz.prog) wr ⟨#[109]⟩ acc (by show 1 + acc.size ≤ _; omega)
    clear D
    go_wp2
    go_ret
    exact ⟨by rw [E.out, E2.out]; rfl, B.out⟩
   ·have m0 : 0 < (m : Int) := by omega
    have hf0 : 0 < f := by
     rcases Nat.eq_zero_or_pos f with e | e
     ·exfalso
      have := D.out.1
      rw [e] at this
      omega
     ·exact e
    obtain ⟨f', rfl⟩ : ∃ f', f = f' + 1 := ⟨f - 1, by omega⟩
    have D2 : Hid (m / 10 < 10 ^ f' ∧ mkS f' (m / 10) (⟨#[UInt8.ofNat (48 + m % 10)]⟩ ++ acc) = mkS 40 k ⟨#[]⟩) := by
     refine ⟨?_, ?_⟩
     ·have := D.out.1
      rw [Nat.pow_succ] at this
      omega
     ·rw [← D.out.2.1]
      show _ = (if m = 0 then acc else _)
      rw [if_neg c]
    have hcv := run_convert_bytes_arg (P := Tryz.prog) (wr.alloc (.cells #[.int .u8 (48 + (m : Int) % 10)] 5)) 223 5 Tryz.underlying223 Tryz.underlying5 wr.heap.size 0 1 1 [48 + (m : Int) % 10] rfl (fun i hi => by
     obtain rfl : i = 0 := by omega
     exact World.cell?_alloc_mark wr #[.int .u8 (48 + (m : Int) % 10)] 5 (0, 0) 0) 9 Tryz.underlying9
    have eb : strOfNums [48 + (m : Int) % 10] = ⟨#[UInt8.ofNat (48 + m % 10)]⟩ := by
     unfold strOfNums
     simp only [List.map_cons, List.map_nil]
     rw [show (48 + (m : Int) % 10).toNat = 48 + m % 10 by omega]
    rw [eb] at hcv
    have had := run_string_add_sum (P := Tryz.prog) (wr.alloc (.cells #[.int .u8 (48 + (m : Int) % 10)] 5)) ⟨#[UInt8.ofNat (48 + m % 10)]⟩ acc (by show 1 + acc.size ≤ _; omega)
    have B2 : Hid (Below w.heap.size w (wr.alloc (.cells #[.int .u8 (48 + (m : Int) % 10)] 5))) := D.out.2.2.alloc D.out.2.2.size _
    have sz : ((⟨#[UInt8.ofNat (48 + m % 10)]⟩ : ByteArray) ++ acc).size = 1 + acc.size := by
     rw [ByteArray.size_append]; rfl
    have SZ := zaa sz
    clear eb D sz
    generalize hbb : (⟨#[UInt8.ofNat (48 + m % 10)]⟩ : ByteArray) = bb at hcv had D2 SZ
    clear hbb
    go_wp2
    go_roundw
    case rel => exact ⟨m / 10, f', bb ++ acc, by go_num, rfl, by omega, by have := SZ.out; omega, D2.out.1, D2.out.2, B2.out⟩
    case measure => simp [intOf]; omega
end Go.Proofs.YtipklbnfobckaaaGreatDoor

namespace Go.Proofs.YtipklbnfobckaaaGreatDoor
open Go.RowKit

theorem zge {w : World} {b : Nat} {t : TypeId} {xs : List Value} (h : w.heap[b]? = some (.cells xs.toArray t (0, 0))) (j : Nat) (u : Value) : (w.setCell ⟨b, j, none⟩ u).heap[b]? = some (.cells (xs.set j u).toArray t (0, 0)) := by
 simp [World.setCell, Array.getElem?_modify, h]
theorem zay {w : World} {b : Nat} {t : TypeId} {xs : List Value} (h : w.heap[b]? = some (.cells xs.toArray t (0, 0))) (j : Nat) : w.cell? ⟨b, j, none⟩ = xs[j]? ∧ w.frozen? ⟨b, j, none⟩ = false := by
 simp [World.cell?, World.frozen?, h]
/-- An inode. -/
structure Ino where
 kind : Int
 size : Int
 links : Int
 m0 : Int
 m1 : Int
 m2 : Int
 m3 : Int
 m4 : Int
 m5 : Int
 m6 : Int
 m7 : Int
/-- The map of an inode, as a list. -/
def Ino.map (x : Ino) : List Int := [x.m0, x.m1, x.m2, x.m3, x.m4, x.m5, x.m6, x.m7]
/-- An inode as a value. -/
def Ino.v (x : Ino) : Value := .agg #[.int .i64 x.kind, .int .i64 x.size, .int .i64 x.links, .int .i64 x.m0, .int .i64 x.m1, .int .i64 x.m2, .int .i64 x.m3, .int .i64 x.m4, .int .i64 x.m5, .int .i64 x.m6, .int .i64 x.m7]
/-- An inode's cells. -/
def Ino.cs (x : Ino) : List Value := [.int .i64 x.kind, .int .i64 x.size, .int .i64 x.links, .int .i64 x.m0, .int .i64 x.m1, .int .i64 x.m2, .int .i64 x.m3, .int .i64 x.m4, .int .i64 x.m5, .int .i64 x.m6, .int .i64 x.m7]

end Go.Proofs.YtipklbnfobckaaaGreatDoor
