/- Several texts laid together: Wt, ImB, ImC, ImD, ImH, ImE. -/
import Derived.Test.YtipklbnfobckaaaGreatDoorZAE
import Derived.Test.YtipklbnfobckaaaGreatDoorZAI
import Derived.Test.YtipklbnfobckaaaGreatDoorZAC
import Derived.Deep.RegionHeld3
import Derived.Laws.OwnMore
import Derived.Deep.RegionWith
namespace Go.Proofs.YtipklbnfobckaaaGreatDoor
open Go.RowKit

/-- The variable that counts the addresses lies as the program's start has laid it. -/
def TS (w : World) : Prop := ∃ t fr, w.heap[4]? = some (.cells #[.int .i64 1, .int .i64 24, .int .i64 32] t fr)
theorem TS.lt {w : World} (h : TS w) : 4 < w.heap.size := by
 obtain ⟨t, fr, h⟩ := h
 exact (Array.getElem?_eq_some_iff.1 h).1
theorem TS.below {w w' : World} (h : TS w) (hb : Below w.heap.size w w') : TS w' := by
 have hl := h.lt
 obtain ⟨t, fr, h⟩ := h
 exact ⟨t, fr, (hb.block _ hl).trans h⟩
theorem TS.cells {w : World} (h : TS w) : w.cell? ⟨4, 0, none⟩ = some (.int .i64 1) ∧ w.cell? ⟨4, 1, none⟩ = some (.int .i64 24) ∧ w.cell? ⟨4, 2, none⟩ = some (.int .i64 32) := by
 obtain ⟨t, fr, h⟩ := h
 simp [World.cell?, h]

/-- A tier and an address of it. -/
def zdx (t a : Int) : Bool := decide ((t = 0 ∧ a = 0) ∨ (t = 1 ∧ 0 ≤ a ∧ a < 24) ∨ (t = 2 ∧ 0 ≤ a ∧ a < 32))
def entV (t a : Int) : Int := if zdx t a = true then 4 * a + t else 0
def entC (t a : Int) : Int := if zdx t a = true then 0 else 4
theorem ent_in {t a : Int} (h : zdx t a = true) : entV t a = 4 * a + t ∧ entC t a = 0 := by unfold entV entC; rw [if_pos h, if_pos h]; exact ⟨rfl, rfl⟩
theorem ent_out {t a : Int} (h : zdx t a = false) : entV t a = 0 ∧ entC t a = 4 := by unfold entV entC; rw [h]; exact ⟨rfl, rfl⟩
theorem addrB_of {t a : Int} (h : (t = 0 ∧ a = 0) ∨ (t = 1 ∧ 0 ≤ a ∧ a < 24) ∨ (t = 2 ∧ 0 ≤ a ∧ a < 32)) : zdx t a = true := decide_eq_true h
theorem zif {t a : Int} (h : ¬ ((t = 0 ∧ a = 0) ∨ (t = 1 ∧ 0 ≤ a ∧ a < 24) ∨ (t = 2 ∧ 0 ≤ a ∧ a < 32))) : zdx t a = false := decide_eq_false h
theorem zoe {t a : Int} (h : zdx t a = true) : (t = 0 ∧ a = 0) ∨ (t = 1 ∧ 0 ≤ a ∧ a < 24) ∨ (t = 2 ∧ 0 ≤ a ∧ a < 32) := of_decide_eq_true h
/-- Of an entry: the tier, the address, the code. -/
def zdl (e : Int) : Bool := decide (0 ≤ e) && zdx (e % 4) (e / 4)
def zos (e : Int) : Int := if zdl e = true then e % 4 else 0
def tieA (e : Int) : Int := if zdl e = true then e / 4 else 0
def tieC (e : Int) : Int := if zdl e = true then 0 else 3
theorem zoc {e : Int} (h : zdl e = true) : zos e = e % 4 ∧ tieA e = e / 4 ∧ tieC e = 0 := by unfold zos tieA tieC; rw [if_pos h, if_pos h, if_pos h]; exact ⟨rfl, rfl, rfl⟩
theorem zuq {e : Int} (h : zdl e = false) : zos e = 0 ∧ tieA e = 0 ∧ tieC e = 3 := by unfold zos tieA tieC; rw [h]; exact ⟨rfl, rfl, rfl⟩
theorem addrB_neg {n : Int} (h : n < 0) : zdx (n.tmod 4) (n.tdiv 4) = false := by
 apply zif
 obtain ⟨m, rfl⟩ : ∃ m : Int, n = -m := ⟨-n, by omega⟩
 rw [Int.neg_tmod, Int.neg_tdiv, Int.tmod_eq_emod_of_nonneg (by omega), Int.tdiv_eq_ediv_of_nonneg (by omega)]
 omega
theorem zmo {a b c d e f : Int} (h : a = b) (k : c = d) (l : e = f) : Ending.returned (.tuple #[.int .i64 a, .int .i64 c, .int .i64 e]) = .returned (.tuple #[.int .i64 b, .int .i64 d, .int .i64 f]) := by rw [h, k, l]

theorem zhu (t a : Int) (w : World) (hT : TS w) (h : zdx t a = true) : Calls Tryz.prog 292 #[.int .i64 t, .int .i64 a] w fun e w' => e = .returned (.bool true) ∧ w' = w := by
 obtain ⟨x0, x1, x2⟩ := hT.cells
 clear hT
 rcases zoe h with ⟨rfl, rfl⟩ | ⟨rfl, h1, h2⟩ | ⟨rfl, h1, h2⟩
 all_goals
  clear h
  go_enter Tryz.func292, Tryz.ntmps292
  go_wp2_with (go_at_call 161; refine (zal _ _ _ (by omega)).mono ?_; rintro e w' ⟨rfl, rfl⟩)
  go_ret
  exact ⟨rfl, rfl⟩

theorem zfv (t a : Int) (w : World) (hT : TS w) (h : zdx t a = false) : Calls Tryz.prog 292 #[.int .i64 t, .int .i64 a] w fun e w' => e = .returned (.bool false) ∧ w' = w := by
 obtain ⟨x0, x1, x2⟩ := hT.cells
 have h' : ¬ ((t = 0 ∧ a = 0) ∨ (t = 1 ∧ 0 ≤ a ∧ a < 24) ∨ (t = 2 ∧ 0 ≤ a ∧ a < 32)) := of_decide_eq_false h
 clear hT h
 rcases (show (t = 0 ∧ ¬ (0 ≤ a ∧ a < 1)) ∨ (t = 1 ∧ ¬ (0 ≤ a ∧ a < 24)) ∨ (t = 2 ∧ ¬ (0 ≤ a ∧ a < 32)) ∨ ¬ (0 ≤ t ∧ t < 3) by omega) with ⟨rfl, ha⟩ | ⟨rfl, ha⟩ | ⟨rfl, ha⟩ | ha
 all_goals
  have H := zaa ha
  clear h' ha
  go_enter Tryz.func292, Tryz.ntmps292
  go_wp2_with (first | (go_at_call 161; refine (zal _ _ _ (by omega)).mono ?_; rintro e w' ⟨rfl, rfl⟩) | (go_at_call 161; refine (zaq _ _ _ H.out).mono ?_; rintro e w' ⟨rfl, rfl⟩))
  go_ret
  exact ⟨rfl, rfl⟩

theorem zeu (t a : Int) (w : World) (hT : TS w) : Calls Tryz.prog 252 #[.int .i64 t, .int .i64 a] w fun e w' => e = .returned (.tuple #[.int .i64 (entV t a), .int .i64 (entC t a)]) ∧ w' = w := by
 by_cases c : zdx t a = true
 ·have E := zaa (ent_in c)
  have C := zaa c
  have b := zoe c
  have T := zaa hT
  have t0 : 0 ≤ t ∧ t < 3 := by omega
  have a0 : 0 ≤ a ∧ a < 32 := by omega
  obtain ⟨t1, t2⟩ := t0
  obtain ⟨a1, a2⟩ := a0
  clear b c hT
  go_enter Tryz.func252, Tryz.ntmps252
  go_wp2_with (go_at_call 292; refine (zhu _ _ _ T.out C.out).mono ?_; rintro e w' ⟨rfl, rfl⟩)
  go_ret2
  exact ⟨zbq (by rw [E.out.1]) E.out.2.symm, rfl⟩
 ·have c' : zdx t a = false := by simpa using c
  have E := zaa (ent_out c')
  have C := zaa c'
  have T := zaa hT
  clear c c' hT
  go_enter Tryz.func252, Tryz.ntmps252
  go_wp2_with (go_at_call 292; refine (zfv _ _ _ T.out C.out).mono ?_; rintro e w' ⟨rfl, rfl⟩)
  go_ret2
  exact ⟨zbq E.out.1.symm E.out.2.symm, rfl⟩

theorem zbm (n : Int) (w : World) (hT : TS w) (h0 : -9223372036854775808 ≤ n) (h1 : n ≤ 9223372036854775807) : Calls Tryz.prog 247 #[.int .i64 n] w fun e w' => e = .returned (.tuple #[.int .i64 (zos n), .int .i64 (tieA n), .int .i64 (tieC n)]) ∧ w' = w := by
 have T := zaa hT
 clear hT
 by_cases c0 : 0 ≤ n
 ·by_cases c : zdx (n % 4) (n / 4) = true
  ·have E := zaa (zoc (e := n) (by unfold zdl; rw [c, decide_eq_true c0]; rfl))
   have C := zaa c
   clear c
   go_enter Tryz.func247, Tryz.ntmps247
   go_wp2_with (go_at_call 292; refine (zhu _ _ _ T.out C.out).mono ?_; rintro e w' ⟨rfl, rfl⟩)
   go_ret3
   exact ⟨zmo (by rw [E.out.1]) (by rw [E.out.2.1]) E.out.2.2.symm, rfl⟩
  ·have c' : zdx (n % 4) (n / 4) = false := by simpa using c
   have E := zaa (zuq (e := n) (by unfold zdl; rw [c']; simp))
   have C := zaa c'
   clear c c'
   go_enter Tryz.func247, Tryz.ntmps247
   go_wp2_with (go_at_call 292; refine (zfv _ _ _ T.out C.out).mono ?_; rintro e w' ⟨rfl, rfl⟩)
   go_ret3
   exact ⟨zmo E.out.1.symm E.out.2.1.symm E.out.2.2.symm, rfl⟩
 ·have E := zaa (zuq (e := n) (by unfold zdl; rw [decide_eq_false c0]; rfl))
  go_enter Tryz.func247, Tryz.ntmps247
  go_wp2_with (go_at_call 292; refine (zfv _ _ _ T.out (addrB_neg (by omega))).mono ?_; rintro e w' ⟨rfl, rfl⟩)
  go_ret3
  exact ⟨zmo E.out.1.symm E.out.2.1.symm E.out.2.2.symm, rfl⟩

theorem zjr (t a : Int) (w : World) (h : 0 ≤ t ∧ t < 3) (k : 0 ≤ a ∧ a < 32) : Calls Tryz.prog 203 #[.int .i64 t, .int .i64 a] w fun e w' => e = .returned (.int .i64 (4 * a + t)) ∧ w' = w := by
 go_enter Tryz.func203, Tryz.ntmps203
 go_wp2
 go_ret
 exact ⟨rfl, rfl⟩

theorem zda (n : Int) (w : World) (h0 : 0 ≤ n) (h1 : n ≤ 9223372036854775807) : Calls Tryz.prog 265 #[.int .i64 n] w fun e w' => e = .returned (.tuple #[.int .i64 (n % 4), .int .i64 (n / 4)]) ∧ w' = w := by
 go_enter Tryz.func265, Tryz.ntmps265
 go_wp2
 go_ret2
 exact ⟨rfl, rfl⟩

theorem zul (n : Int) (w : World) (h0 : n < 0) (h1 : -9223372036854775808 ≤ n) : Calls Tryz.prog 265 #[.int .i64 n] w fun e w' => (∃ x y : Int, e = .returned (.tuple #[.int .i64 x, .int .i64 y])) ∧ w' = w := by
 go_enter Tryz.func265, Tryz.ntmps265
 go_wp2
 go_ret2
 exact ⟨⟨_, _, rfl⟩, rfl⟩

theorem zdc (n : Int) (w : World) (h0 : -9223372036854775808 ≤ n) (h1 : n ≤ 9223372036854775807) : Calls Tryz.prog 215 #[.int .i64 n] w fun e w' => e = .returned (.bool (zdl n)) ∧ w' = w := by
 rcases (show n < 0 ∨ n = 0 ∨ 0 < n by omega) with c | rfl | c
 ·have E := zaa (show zdl n = false by unfold zdl; rw [decide_eq_false (by omega)]; rfl)
  have q0 : (n == 0) = false := by rw [beq_eq_false_iff_ne]; omega
  have q1 : ¬ 0 < n := by omega
  go_enter Tryz.func215, Tryz.ntmps215
  go_wp2_with fail
  refine (zul _ _ c h0).mono ?_
  rintro e w' ⟨⟨x, y, rfl⟩, rfl⟩
  go_wp2
  go_ret
  exact ⟨zac E.out.symm, rfl⟩
 ·go_enter Tryz.func215, Tryz.ntmps215
  go_wp2
  go_ret
  exact ⟨zac (by decide), rfl⟩
 ·have q0 : (n == 0) = false := by rw [beq_eq_false_iff_ne]; omega
  have E := zaa (show zdl n = zdx (n % 4) (n / 4) by unfold zdl; rw [decide_eq_true (by omega)]; rfl)
  rcases (show (n % 4 = 1 ∧ n / 4 < 24) ∨ (n % 4 = 1 ∧ ¬ n / 4 < 24) ∨ (n % 4 = 2 ∧ n / 4 < 32) ∨ (n % 4 = 2 ∧ ¬ n / 4 < 32) ∨ (¬ n % 4 = 1 ∧ ¬ n % 4 = 2) by omega) with ⟨r, q⟩ | ⟨r, q⟩ | ⟨r, q⟩ | ⟨r, q⟩ | ⟨r, q⟩
  ·have A := zaa (addrB_of (t := n % 4) (a := n / 4) (by omega))
   have r1 : (n % 4 == 1) = true := by rw [beq_iff_eq]; exact r
   clear r
   go_enter Tryz.func215, Tryz.ntmps215
   go_wp2_with fail
   refine (zda _ _ (by omega) h1).mono ?_
   rintro e w' ⟨rfl, rfl⟩
   go_wp2
   go_ret
   exact ⟨zac (by rw [E.out, A.out]; first | done | exact decide_eq_false (by omega)), rfl⟩
  ·have A := zaa (zif (t := n % 4) (a := n / 4) (by omega))
   have r1 : (n % 4 == 1) = true := by rw [beq_iff_eq]; exact r
   have r2 : (n % 4 == 2) = false := by rw [beq_eq_false_iff_ne]; omega
   clear r
   go_enter Tryz.func215, Tryz.ntmps215
   go_wp2_with fail
   refine (zda _ _ (by omega) h1).mono ?_
   rintro e w' ⟨rfl, rfl⟩
   go_wp2
   go_ret
   exact ⟨zac (by rw [E.out, A.out]; first | done | exact decide_eq_false (by omega)), rfl⟩
  ·have A := zaa (addrB_of (t := n % 4) (a := n / 4) (by omega))
   have r1 : (n % 4 == 1) = false := by rw [beq_eq_false_iff_ne]; omega
   have r2 : (n % 4 == 2) = true := by rw [beq_iff_eq]; exact r
   clear r
   go_enter Tryz.func215, Tryz.ntmps215
   go_wp2_with fail
   refine (zda _ _ (by omega) h1).mono ?_
   rintro e w' ⟨rfl, rfl⟩
   go_wp2
   go_ret
   exact ⟨zac (by rw [E.out, A.out]; first | done | exact decide_eq_false (by omega)), rfl⟩
  ·have A := zaa (zif (t := n % 4) (a := n / 4) (by omega))
   have r1 : (n % 4 == 1) = false := by rw [beq_eq_false_iff_ne]; omega
   have r2 : (n % 4 == 2) = true := by rw [beq_iff_eq]; exact r
   clear r
   go_enter Tryz.func215, Tryz.ntmps215
   go_wp2_with fail
   refine (zda _ _ (by omega) h1).mono ?_
   rintro e w' ⟨rfl, rfl⟩
   go_wp2
   go_ret
   exact ⟨zac (by rw [E.out, A.out]; first | done | exact decide_eq_false (by omega)), rfl⟩
  ·have A := zaa (zif (t := n % 4) (a := n / 4) (by omega))
   have r1 : (n % 4 == 1) = false := by rw [beq_eq_false_iff_ne]; exact r
   have r2 : (n % 4 == 2) = false := by rw [beq_eq_false_iff_ne]; exact q
   clear r q
   go_enter Tryz.func215, Tryz.ntmps215
   go_wp2_with fail
   refine (zda _ _ (by omega) h1).mono ?_
   rintro e w' ⟨rfl, rfl⟩
   go_wp2
   go_ret
   exact ⟨zac (by rw [E.out, A.out]; first | done | exact decide_eq_false (by omega)), rfl⟩

end Go.Proofs.YtipklbnfobckaaaGreatDoor

namespace Go.Proofs.YtipklbnfobckaaaGreatDoor
open Go.RowKit

/-- One entry of a map, at its place. -/
def zqz (i : Nat) (z size : Int) : Bool := zdl z && (z == 0 || decide ((i : Int) < size))
/-- The map of an inode is right from its start on, so far. -/
def mapTo (zs : List Int) (size : Int) (k : Nat) : Prop := ∀ i, i < k → zqz i (zs.getD i 0) size = true
def mapB (zs : List Int) (size : Int) : Bool := (List.range 8).all fun i => zqz i (zs.getD i 0) size
theorem zwm {zs : List Int} {size : Int} (h : mapTo zs size 8) : mapB zs size = true := by
 unfold mapB
 rw [List.all_eq_true]
 intro i hi
 exact h i (List.mem_range.1 hi)
theorem zio {zs : List Int} {size : Int} (h : mapB zs size = true) : mapTo zs size 8 := by
 unfold mapB at h
 rw [List.all_eq_true] at h
 intro i hi
 exact h i (List.mem_range.2 hi)
theorem mapB_not {zs : List Int} {size : Int} {k : Nat} (hk : k < 8) (h : zqz k (zs.getD k 0) size = false) : mapB zs size = false := by
 rw [Bool.eq_false_iff]
 intro e
 rw [zio e k hk] at h
 exact absurd h (by decide)
theorem mapTo_succ {zs : List Int} {size : Int} {k : Nat} (h : mapTo zs size k) (g : zqz k (zs.getD k 0) size = true) : mapTo zs size (k + 1) := by
 intro i hi
 by_cases e : i = k
 ·rw [e]; exact g
 ·exact h i (by omega)
/-- What the kind asks. -/
def zga (x : Ino) : Bool := if x.kind = 0 then decide (x.size = 0 ∧ x.links = 0 ∧ x.map = [0, 0, 0, 0, 0, 0, 0, 0]) else if x.kind = 2 then x.size == 0 && x.links == 1 else decide (0 < x.links)
/-- An inode that is right. -/
def zei (x : Ino) : Bool := decide (0 ≤ x.kind ∧ x.kind ≤ 2) && (decide (0 ≤ x.size ∧ x.size ≤ 8) && (decide (0 ≤ x.links ∧ x.links ≤ 24) && (mapB x.map x.size && zga x)))
/-- Its numbers are of the machine. -/
def Ino.R (x : Ino) : Prop := ∀ z ∈ x.map, -9223372036854775808 ≤ z ∧ z ≤ 9223372036854775807
theorem Ino.len (x : Ino) : x.map.length = 8 := rfl
theorem Ino.at (x : Ino) (k : Nat) (hk : k < 8) : x.cs[3 + k]? = some (.int .i64 (x.map.getD k 0)) := by
 rcases (show k = 0 ∨ k = 1 ∨ k = 2 ∨ k = 3 ∨ k = 4 ∨ k = 5 ∨ k = 6 ∨ k = 7 by omega) with rfl | rfl | rfl | rfl | rfl | rfl | rfl | rfl <;> rfl
theorem Ino.R.at {x : Ino} (h : x.R) (k : Nat) (hk : k < 8) : -9223372036854775808 ≤ x.map.getD k 0 ∧ x.map.getD k 0 ≤ 9223372036854775807 := by
 have e : x.map.getD k 0 = x.map[k]'(by rw [x.len]; exact hk) := by rw [List.getD_eq_getElem?_getD, List.getElem?_eq_getElem (by rw [x.len]; exact hk)]; rfl
 rw [e]
 exact h _ (List.getElem_mem _)

set_option maxRecDepth 100000 in
set_option maxHeartbeats 2000000 in
@[go_sem] theorem eqZero8 (m0 m1 m2 m3 m4 m5 m6 m7 : Int) (w : World) : (Op.equalIn 9999 169 (.agg #[.int .i64 m0, .int .i64 m1, .int .i64 m2, .int .i64 m3, .int .i64 m4, .int .i64 m5, .int .i64 m6, .int .i64 m7]) (.agg #[.int .i64 0, .int .i64 0, .int .i64 0, .int .i64 0, .int .i64 0, .int .i64 0, .int .i64 0, .int .i64 0])).run Tryz.prog w = .ok (decide ([m0, m1, m2, m3, m4, m5, m6, m7] = [0, 0, 0, 0, 0, 0, 0, 0])) w := by
 have u3 := Tryz.underlying3
 have a3 := Tryz.isAgg3
 have z3 := Tryz.sizeOf3
 rw [show (9999 : Nat) = 9998 + 1 from rfl, Op.equalIn]
 simp only [Sem.run_bind, run_underlying Tryz.underlying169, Result.andThen_ok]
 simp only [Std.Legacy.Range.forIn_eq_forIn_range', Std.Legacy.Range.size, Nat.sub_zero, Nat.add_sub_cancel, Nat.div_one, List.range'_succ, List.range'_zero, List.forIn_cons, List.forIn_nil]
 go_simp
 by_cases h0 : m0 = 0
 case neg => simp [h0]
 by_cases h1 : m1 = 0
 case neg => simp [h0, h1]
 by_cases h2 : m2 = 0
 case neg => simp [h0, h1, h2]
 by_cases h3 : m3 = 0
 case neg => simp [h0, h1, h2, h3]
 by_cases h4 : m4 = 0
 case neg => simp [h0, h1, h2, h3, h4]
 by_cases h5 : m5 = 0
 case neg => simp [h0, h1, h2, h3, h4, h5]
 by_cases h6 : m6 = 0
 case neg => simp [h0, h1, h2, h3, h4, h5, h6]
 by_cases h7 : m7 = 0
 case neg => simp [h0, h1, h2, h3, h4, h5, h6, h7]
 simp [h0, h1, h2, h3, h4, h5, h6, h7]

set_option maxRecDepth 100000 in
set_option maxHeartbeats 2000000 in
theorem zse (x : Ino) (w : World) (hr : x.R) : Calls Tryz.prog 150 #[x.v] w fun e w' => e = .returned (.bool (zei x)) ∧ Below w.heap.size w w' := by
 have hv : x.v = .agg x.cs.toArray := rfl
 have c0 : (w.alloc (.cells x.cs.toArray 171)).cell? ⟨w.heap.size, 0, none⟩ = some (.int .i64 x.kind) := (zay (xs := x.cs) (zah rfl) 0).1
 have c1 : (w.alloc (.cells x.cs.toArray 171)).cell? ⟨w.heap.size, 1, none⟩ = some (.int .i64 x.size) := (zay (xs := x.cs) (zah rfl) 1).1
 have c2 : (w.alloc (.cells x.cs.toArray 171)).cell? ⟨w.heap.size, 2, none⟩ = some (.int .i64 x.links) := (zay (xs := x.cs) (zah rfl) 2).1
 have CM := zaa (show ∀ k, k < 8 → (w.alloc (.cells x.cs.toArray 171)).cell? ⟨w.heap.size, 3 + k, none⟩ = some (.int .i64 (x.map.getD k 0)) from fun k hk => ((zay (xs := x.cs) (zah rfl) (3 + k)).1).trans (x.at k hk))
 have B := zaa ((Below.refl w.heap.size w).alloc (Nat.le_refl _) (.cells x.cs.toArray 171))
 rw [hv]
 by_cases h0 : 0 ≤ x.kind ∧ x.kind ≤ 2
 ·by_cases h1 : 0 ≤ x.size ∧ x.size ≤ 8
  ·by_cases h2 : 0 ≤ x.links ∧ x.links ≤ 24
   ·have E := zaa (show zei x = (mapB x.map x.size && zga x) by unfold zei; rw [decide_eq_true h0, decide_eq_true h1, decide_eq_true h2]; rfl)
    have H := zaa (And.intro h0 (And.intro h1 h2))
    clear h0 h1 h2
    go_enter Tryz.func150, Tryz.ntmps150
    go_wp2_with fail
    refine (zaz _ _ _ _ H.out.1).mono ?_
    rintro e w' ⟨rfl, rfl⟩
    go_wp2_with fail
    refine (zaz _ _ _ _ H.out.2.1).mono ?_
    rintro e w' ⟨rfl, rfl⟩
    go_wp2_with fail
    refine (zaz _ _ _ _ H.out.2.2).mono ?_
    rintro e w' ⟨rfl, rfl⟩
    go_wp2
    obtain ⟨wa, hwa⟩ : ∃ wa, wa = w.alloc (.cells x.cs.toArray 171) := ⟨_, rfl⟩
    rw [← hwa] at c0 c1 c2 CM B ⊢
    have CA := zaa (show ∀ j, wa.cell? ⟨w.heap.size, j, none⟩ = x.cs[j]? by rw [hwa]; exact fun j => (zay (xs := x.cs) (zah rfl) j).1)
    clear hwa
    go_loopw [3] (fun i wr => ∃ k : Nat, k ≤ 8 ∧ i = .int .i64 k ∧ wr = wa ∧ Hid (mapTo x.map x.size k)) (fun i _ => 8 - (intOf i).toNat)
    case atStart => exact ⟨0, by omega, rfl, rfl, fun i hi => absurd hi (by omega)⟩
    case round =>
     obtain ⟨k, hk, rfl, rfl, M⟩ := hrel
     by_cases hlt : k < 8
     ·have c3 := CM.out k hlt
      obtain ⟨r0, r1⟩ := hr.at k hlt
      have k0 : (0 : Int) ≤ (k : Int) := by omega
      have k1 : (k : Int) < 8 := by omega
      have MN := zaa (fun e => mapB_not (zs := x.map) (size := x.size) hlt e)
      have MS := zaa (fun e => mapTo_succ (k := k) M.out e)
      generalize x.map.getD k 0 = z at c3 r0 r1 MN MS
      clear CM CA M
      cases ht : zdl z with
      | false =>
       have F := zaa (show zei x = false by rw [E.out, MN.out (by unfold zqz; rw [ht]; rfl), Bool.false_and])
       have T := zaa ht
       clear ht MN MS E
       go_wp2_with fail
       refine (zdc _ _ r0 r1).mono ?_
       rintro e w' ⟨rfl, rfl⟩
       rw [T.out]
       go_wp2
       go_ret
       exact ⟨zac F.out.symm, B.out⟩
      | true =>
       by_cases hz : z = 0
       ·have q : (z != 0) = false := by rw [hz]; rfl
        have G := zaa (MS.out (by unfold zqz; rw [ht, hz]; rfl))
        have T := zaa ht
        clear ht MN MS hz
        go_wp2_with fail
        refine (zdc _ _ r0 r1).mono ?_
        rintro e w' ⟨rfl, rfl⟩
        rw [T.out]
        go_wp2
        go_roundw
        case rel => exact ⟨k + 1, by omega, by go_num, trivial, G⟩
        case measure => simp [intOf]; omega
       ·have q : (z != 0) = true := by rw [bne_iff_ne]; exact hz
        have qz : (z == 0) = false := by rw [beq_eq_false_iff_ne]; exact hz
        by_cases hs : (k : Int) < x.size
        ·have q2 : ¬ x.size ≤ (k : Int) := by omega
         have G := zaa (MS.out (by unfold zqz; rw [ht, qz, decide_eq_true hs]; rfl))
         have T := zaa ht
         clear ht MN MS hz hs qz
         go_wp2_with fail
         refine (zdc _ _ r0 r1).mono ?_
         rintro e w' ⟨rfl, rfl⟩
         rw [T.out]
         go_wp2
         go_roundw
         case rel => exact ⟨k + 1, by omega, by go_num, trivial, G⟩
         case measure => simp [intOf]; omega
        ·have q2 : x.size ≤ (k : Int) := by omega
         have F := zaa (show zei x = false by rw [E.out, MN.out (by unfold zqz; rw [ht, qz, decide_eq_false hs]; rfl), Bool.false_and])
         have T := zaa ht
         clear ht MN MS hz hs qz E
         go_wp2_with fail
         refine (zdc _ _ r0 r1).mono ?_
         rintro e w' ⟨rfl, rfl⟩
         rw [T.out]
         go_wp2
         go_ret
         exact ⟨zac F.out.symm, B.out⟩
     ·obtain rfl : k = 8 := by omega
      have F := zaa (show zei x = zga x by rw [E.out, zwm M.out, Bool.true_and])
      clear E M CM
      rcases (show x.kind = 0 ∨ x.kind = 1 ∨ x.kind = 2 by have := H.out; omega) with hz | hz | hz
      ·have K := zaa (show zga x = decide (x.size = 0 ∧ x.links = 0 ∧ x.map = [0, 0, 0, 0, 0, 0, 0, 0]) by unfold zga; rw [if_pos hz])
       rw [hz] at c0
       have c3 : wr.cell? ⟨w.heap.size, 3, none⟩ = some (.int .i64 x.m0) := CA.out 3
       have c4 : wr.cell? ⟨w.heap.size, 4, none⟩ = some (.int .i64 x.m1) := CA.out 4
       have c5 : wr.cell? ⟨w.heap.size, 5, none⟩ = some (.int .i64 x.m2) := CA.out 5
       have c6 : wr.cell? ⟨w.heap.size, 6, none⟩ = some (.int .i64 x.m3) := CA.out 6
       have c7 : wr.cell? ⟨w.heap.size, 7, none⟩ = some (.int .i64 x.m4) := CA.out 7
       have c8 : wr.cell? ⟨w.heap.size, 8, none⟩ = some (.int .i64 x.m5) := CA.out 8
       have c9 : wr.cell? ⟨w.heap.size, 9, none⟩ = some (.int .i64 x.m6) := CA.out 9
       have c10 : wr.cell? ⟨w.heap.size, 10, none⟩ = some (.int .i64 x.m7) := CA.out 10
       clear CA
       go_wp2
       all_goals
        go_ret
        refine ⟨zac ?_, B.out⟩
        rw [F.out, K.out, eq_comm]
        clear c0 c1 c2 c3 c4 c5 c6 c7 c8 c9 c10
        rename_i h9
        simp_all [Ino.map]
      ·have K := zaa (show zga x = decide (0 < x.links) by unfold zga; rw [if_neg (by omega), if_neg (by omega)])
       rw [hz] at c0
       clear CA
       go_wp2
       go_ret
       exact ⟨zac (by rw [F.out, K.out]), B.out⟩
      ·have K := zaa (show zga x = (x.size == 0 && x.links == 1) by unfold zga; rw [if_neg (by omega), if_pos hz])
       rw [hz] at c0
       clear CA
       cases hq : (x.size == 0)
       all_goals
        rw [hq] at K
        go_wp2
        go_ret
        exact ⟨zac (by rw [F.out, K.out]; rfl), B.out⟩
   ·have E := zaa (show zei x = false by unfold zei; rw [decide_eq_false h2, Bool.false_and, Bool.and_false, Bool.and_false])
    go_enter Tryz.func150, Tryz.ntmps150
    go_wp2_with fail
    refine (zaz _ _ _ _ h0).mono ?_
    rintro e w' ⟨rfl, rfl⟩
    go_wp2_with fail
    refine (zaz _ _ _ _ h1).mono ?_
    rintro e w' ⟨rfl, rfl⟩
    go_wp2_with fail
    refine (zdv _ _ _ _ h2).mono ?_
    rintro e w' ⟨rfl, rfl⟩
    go_wp2
    go_ret
    exact ⟨zac E.out.symm, B.out⟩
  ·have E := zaa (show zei x = false by unfold zei; rw [decide_eq_false h1, Bool.false_and, Bool.and_false])
   go_enter Tryz.func150, Tryz.ntmps150
   go_wp2_with fail
   refine (zaz _ _ _ _ h0).mono ?_
   rintro e w' ⟨rfl, rfl⟩
   go_wp2_with fail
   refine (zdv _ _ _ _ h1).mono ?_
   rintro e w' ⟨rfl, rfl⟩
   go_wp2
   go_ret
   exact ⟨zac E.out.symm, B.out⟩
 ·have E := zaa (show zei x = false by unfold zei; rw [decide_eq_false h0, Bool.false_and])
  go_enter Tryz.func150, Tryz.ntmps150
  go_wp2_with fail
  refine (zdv _ _ _ _ h0).mono ?_
  rintro e w' ⟨rfl, rfl⟩
  go_wp2
  go_ret
  exact ⟨zac E.out.symm, B.out⟩
end Go.Proofs.YtipklbnfobckaaaGreatDoor

namespace Go.Proofs.YtipklbnfobckaaaGreatDoor
open Go.RowKit

theorem rd_upd (w1 : World) (x y : Int) : Rd (w1.alloc (.cells #[.int .i64 x, .int .i64 y] 244)) 2 (.slice (some ⟨w1.heap.size, 0, none⟩) 1 1) 1 (ses [⟨x, y⟩]) := by
 refine ⟨rfl, _, _, rfl, ⟨Nat.le_refl _, fun e => by cases e⟩, fun _ => ⟨w1.heap.size, 0, rfl, by simp, fun j hj => ?_⟩⟩
 obtain ⟨e0, e1, _, _⟩ := zad (zah (w := w1) (o := .cells #[.int .i64 x, .int .i64 y] 244) rfl)
 rcases (show j = 0 ∨ j = 1 by omega) with rfl | rfl
 ·exact e0
 ·exact e1
theorem ses_app (l l' : List Se) : ses (l ++ l') = ses l ++ ses l' := by simp [ses]
/-- A row of updates that grows. -/
structure UpI (W w : World) (vL : Value) (ls : List Se) : Prop where
 l : w.ownsRow W.heap.size 244 2 vL ls.length (ses ls)
 b : Below W.heap.size W w
theorem UpI.z {W w : World} {vL : Value} {ls : List Se} (h : UpI W w vL ls) : W.heap.size ≤ w.heap.size := h.b.size
theorem UpI.below {W w w' : World} {vL : Value} {ls : List Se} (h : UpI W w vL ls) (hb : Below w.heap.size w w') : UpI W w' vL ls :=
 ⟨((zaf h.l).below hb (Nat.le_refl _)).1, zab h.b hb h.z⟩
theorem UpI.grow {W w w' : World} {vL v' : Value} {ls : List Se} (h : UpI W w vL ls) (ms : List Se) (ho : w'.ownsRow W.heap.size 244 2 v' (ls.length + ms.length) (ses ls ++ ses ms)) (hg : w.grownBy w' vL.ownBlock) : UpI W w' v' (ls ++ ms) :=
 ⟨by rw [ses_app, List.length_append]; exact ho, h.b.grown hg h.z (fun q hq => (h.l.lt q hq).1)⟩
end Go.Proofs.YtipklbnfobckaaaGreatDoor

namespace Go.Proofs.YtipklbnfobckaaaGreatDoor
open Go.RowKit

theorem row_none (w : World) (t : TypeId) (size : Nat) : Row (w.alloc (.cells #[] t)) t size w.heap.size (w.alloc (.cells #[] t)).heap.size (.slice (some ⟨w.heap.size, 0, none⟩) 0 0) 0 [] :=
 zaf (World.ownsRow_lit w #[] 0 (Nat.le_refl _) (by simp [maxLen]) (by simp))
theorem Ino.all {x : Ino} {w' : World} {b : Nat} (h : ∀ j, w'.cell? ⟨b, j, none⟩ = x.cs[j]?) : w'.cell? ⟨b, 0, none⟩ = some (.int .i64 x.kind) ∧ w'.cell? ⟨b, 1, none⟩ = some (.int .i64 x.size) ∧ w'.cell? ⟨b, 2, none⟩ = some (.int .i64 x.links) ∧ w'.cell? ⟨b, 3, none⟩ = some (.int .i64 x.m0) ∧ w'.cell? ⟨b, 4, none⟩ = some (.int .i64 x.m1) ∧ w'.cell? ⟨b, 5, none⟩ = some (.int .i64 x.m2) ∧ w'.cell? ⟨b, 6, none⟩ = some (.int .i64 x.m3) ∧ w'.cell? ⟨b, 7, none⟩ = some (.int .i64 x.m4) ∧ w'.cell? ⟨b, 8, none⟩ = some (.int .i64 x.m5) ∧ w'.cell? ⟨b, 9, none⟩ = some (.int .i64 x.m6) ∧ w'.cell? ⟨b, 10, none⟩ = some (.int .i64 x.m7) := ⟨h 0, h 1, h 2, h 3, h 4, h 5, h 6, h 7, h 8, h 9, h 10⟩

end Go.Proofs.YtipklbnfobckaaaGreatDoor

namespace Go.Proofs.YtipklbnfobckaaaGreatDoor
open Go.RowKit

/-- The cells of inodes. -/
def inos (ps : List Ino) : List Value := ps.flatMap Ino.cs
theorem Ino.cs_len (x : Ino) : x.cs.length = 11 := rfl
theorem zcw (ps : List Ino) (k i : Nat) (h : k < ps.length) (hi : i < 11) : (inos ps)[k * 11 + i]? = ps[k].cs[i]? := (zbc _ 11 Ino.cs_len ps k i h hi).trans (by rw [List.getElem?_eq_getElem (show i < ps[k].cs.length by rw [Ino.cs_len]; exact hi)])
/-- A slice of inodes that can be read. -/
def RdN (w : World) (v : Value) (ps : List Ino) : Prop := Rd w 11 v ps.length (inos ps)
theorem RdN.shape {w : World} {v : Value} {ps : List Ino} (h : RdN w v ps) : ∃ ao cap, v = .slice ao ps.length cap ∧ ps.length ≤ cap ∧ (0 < ps.length → ∃ b o, ao = some ⟨b, o, none⟩ ∧ b < w.heap.size ∧
  ∀ k (h : k < ps.length), w.cell? ⟨b, o + k * 11, none⟩ = some (.int .i64 ps[k].kind) ∧ w.cell? ⟨b, o + k * 11 + 1, none⟩ = some (.int .i64 ps[k].size) ∧ w.cell? ⟨b, o + k * 11 + 2, none⟩ = some (.int .i64 ps[k].links) ∧ w.cell? ⟨b, o + k * 11 + 3, none⟩ = some (.int .i64 ps[k].m0) ∧ w.cell? ⟨b, o + k * 11 + 4, none⟩ = some (.int .i64 ps[k].m1) ∧ w.cell? ⟨b, o + k * 11 + 5, none⟩ = some (.int .i64 ps[k].m2) ∧ w.cell? ⟨b, o + k * 11 + 6, none⟩ = some (.int .i64 ps[k].m3) ∧ w.cell? ⟨b, o + k * 11 + 7, none⟩ = some (.int .i64 ps[k].m4) ∧ w.cell? ⟨b, o + k * 11 + 8, none⟩ = some (.int .i64 ps[k].m5) ∧ w.cell? ⟨b, o + k * 11 + 9, none⟩ = some (.int .i64 ps[k].m6) ∧ w.cell? ⟨b, o + k * 11 + 10, none⟩ = some (.int .i64 ps[k].m7)) := by
 obtain ⟨_, ao, cap, rfl, h2, h3⟩ := h
 refine ⟨ao, cap, rfl, h2.1, fun hn => ?_⟩
 obtain ⟨b, o, rfl, hb, hc⟩ := h3 hn
 exact ⟨b, o, rfl, hb, fun k hk => ⟨(hc (k * 11) (by omega)).trans (zcw ps k 0 hk (by omega)), (hc (k * 11 + 1) (by omega)).trans (zcw ps k 1 hk (by omega)), (hc (k * 11 + 2) (by omega)).trans (zcw ps k 2 hk (by omega)), (hc (k * 11 + 3) (by omega)).trans (zcw ps k 3 hk (by omega)), (hc (k * 11 + 4) (by omega)).trans (zcw ps k 4 hk (by omega)), (hc (k * 11 + 5) (by omega)).trans (zcw ps k 5 hk (by omega)), (hc (k * 11 + 6) (by omega)).trans (zcw ps k 6 hk (by omega)), (hc (k * 11 + 7) (by omega)).trans (zcw ps k 7 hk (by omega)), (hc (k * 11 + 8) (by omega)).trans (zcw ps k 8 hk (by omega)), (hc (k * 11 + 9) (by omega)).trans (zcw ps k 9 hk (by omega)), (hc (k * 11 + 10) (by omega)).trans (zcw ps k 10 hk (by omega))⟩⟩

theorem infoIno : (Tryz.prog.info? 171).map (fun i => (i.zero, i.size, i.bytes)) = some (some (.agg #[.int .i64 0, .int .i64 0, .int .i64 0, .int .i64 0, .int .i64 0, .int .i64 0, .int .i64 0, .int .i64 0, .int .i64 0, .int .i64 0, .int .i64 0]), 11, 88) := by kernel_rfl

end Go.Proofs.YtipklbnfobckaaaGreatDoor

namespace Go.Proofs.YtipklbnfobckaaaGreatDoor
open Go.RowKit

/-- An entry. -/
structure Den where
 dir : Int
 name : ByteArray
 child : Int
/-- An entry as a value. -/
def Den.v (x : Den) : Value := .agg #[.int .i64 x.dir, .string x.name, .int .i64 x.child]

/-- A free entry. -/
def Den.freeB (x : Den) : Bool := x.dir == 0 && (x.name.size == 0 && x.child == -1)
/-- An entry that can be written. -/
def Den.okB (x : Den) : Bool := x.freeB || (decide (1 ≤ x.child ∧ x.child ≤ 15) && (decide (0 ≤ x.dir ∧ x.dir ≤ 15) && nmB x.name))
theorem noBytes (s : ByteArray) : s.toList = [] ↔ s.size = 0 := by
 rw [ByteArray.toList_eq]
 obtain ⟨⟨x⟩⟩ := s
 show x = [] ↔ x.length = 0
 exact List.length_eq_zero_iff.symm
end Go.Proofs.YtipklbnfobckaaaGreatDoor
