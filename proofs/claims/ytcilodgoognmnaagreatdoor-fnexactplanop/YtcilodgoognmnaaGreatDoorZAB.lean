/- Several texts laid together: Wt, ImB, SecS, SecT, UpL, ImC. -/
import Derived.Test.YtcilodgoognmnaaGreatDoorZAA
import Derived.Deep.RegionWith
import Derived.Deep.RegionHeld3
import Derived.Laws.OwnMore
namespace Go.Proofs.YtcilodgoognmnaaGreatDoor
open Go.RowKit
def TS (w : World) : Prop := ∃ t fr, w.heap[1]? = some (.cells #[.int .i64 1, .int .i64 24, .int .i64 32] t fr)
theorem TS.lt {w : World} (h : TS w) : 1 < w.heap.size := by
 obtain ⟨t, fr, h⟩ := h
 exact (Array.getElem?_eq_some_iff.1 h).1
theorem TS.below {w w' : World} (h : TS w) (hb : Below w.heap.size w w') : TS w' := by
 have hl := h.lt
 obtain ⟨t, fr, h⟩ := h
 exact ⟨t, fr, (hb.block _ hl).trans h⟩
theorem TS.cells {w : World} (h : TS w) : w.cell? ⟨1, 0, none⟩ = some (.int .i64 1) ∧ w.cell? ⟨1, 1, none⟩ = some (.int .i64 24) ∧ w.cell? ⟨1, 2, none⟩ = some (.int .i64 32) := by
 obtain ⟨t, fr, h⟩ := h
 simp [World.cell?, h]
def zez (t a : Int) : Bool := decide ((t = 0 ∧ a = 0) ∨ (t = 1 ∧ 0 ≤ a ∧ a < 24) ∨ (t = 2 ∧ 0 ≤ a ∧ a < 32))
def entV (t a : Int) : Int := if zez t a = true then 4 * a + t else 0
def entC (t a : Int) : Int := if zez t a = true then 0 else 4
theorem ent_in {t a : Int} (h : zez t a = true) : entV t a = 4 * a + t ∧ entC t a = 0 := by unfold entV entC; rw [if_pos h, if_pos h]; exact ⟨rfl, rfl⟩
theorem ent_out {t a : Int} (h : zez t a = false) : entV t a = 0 ∧ entC t a = 4 := by unfold entV entC; rw [h]; exact ⟨rfl, rfl⟩
theorem addrB_of {t a : Int} (h : (t = 0 ∧ a = 0) ∨ (t = 1 ∧ 0 ≤ a ∧ a < 24) ∨ (t = 2 ∧ 0 ≤ a ∧ a < 32)) : zez t a = true := decide_eq_true h
theorem zks {t a : Int} (h : ¬ ((t = 0 ∧ a = 0) ∨ (t = 1 ∧ 0 ≤ a ∧ a < 24) ∨ (t = 2 ∧ 0 ≤ a ∧ a < 32))) : zez t a = false := decide_eq_false h
theorem zrj {t a : Int} (h : zez t a = true) : (t = 0 ∧ a = 0) ∨ (t = 1 ∧ 0 ≤ a ∧ a < 24) ∨ (t = 2 ∧ 0 ≤ a ∧ a < 32) := of_decide_eq_true h
def zgf (e : Int) : Bool := decide (0 ≤ e) && zez (e % 4) (e / 4)
def tieT (e : Int) : Int := if zgf e = true then e % 4 else 0
def tieA (e : Int) : Int := if zgf e = true then e / 4 else 0
def tieC (e : Int) : Int := if zgf e = true then 0 else 3
theorem zrl {e : Int} (h : zgf e = true) : tieT e = e % 4 ∧ tieA e = e / 4 ∧ tieC e = 0 := by unfold tieT tieA tieC; rw [if_pos h, if_pos h, if_pos h]; exact ⟨rfl, rfl, rfl⟩
theorem tie_out {e : Int} (h : zgf e = false) : tieT e = 0 ∧ tieA e = 0 ∧ tieC e = 3 := by unfold tieT tieA tieC; rw [h]; exact ⟨rfl, rfl, rfl⟩
theorem addrB_neg {n : Int} (h : n < 0) : zez (n.tmod 4) (n.tdiv 4) = false := by
 apply zks
 obtain ⟨m, rfl⟩ : ∃ m : Int, n = -m := ⟨-n, by omega⟩
 rw [Int.neg_tmod, Int.neg_tdiv, Int.tmod_eq_emod_of_nonneg (by omega), Int.tdiv_eq_ediv_of_nonneg (by omega)]
 omega
theorem zpl {a b c d e f : Int} (h : a = b) (k : c = d) (l : e = f) : Ending.returned (.tuple #[.int .i64 a, .int .i64 c, .int .i64 e]) = .returned (.tuple #[.int .i64 b, .int .i64 d, .int .i64 f]) := by rw [h, k, l]
theorem zkp (t a : Int) (w : World) (hT : TS w) (h : zez t a = true) : Calls Tryz.prog 114 #[.int .i64 t, .int .i64 a] w fun e w' => e = .returned (.bool true) ∧ w' = w := by
 obtain ⟨x0, x1, x2⟩ := hT.cells
 clear hT
 rcases zrj h with ⟨rfl, rfl⟩ | ⟨rfl, h1, h2⟩ | ⟨rfl, h1, h2⟩
 all_goals
  clear h
  go_enter Tryz.func114, Tryz.ntmps114
  go_wp2_with (go_at_call 48; refine (zaq _ _ _ (by omega)).mono ?_; rintro e w' ⟨rfl, rfl⟩)
  go_ret
  exact ⟨rfl, rfl⟩
theorem zic (t a : Int) (w : World) (hT : TS w) (h : zez t a = false) : Calls Tryz.prog 114 #[.int .i64 t, .int .i64 a] w fun e w' => e = .returned (.bool false) ∧ w' = w := by
 obtain ⟨x0, x1, x2⟩ := hT.cells
 have h' : ¬ ((t = 0 ∧ a = 0) ∨ (t = 1 ∧ 0 ≤ a ∧ a < 24) ∨ (t = 2 ∧ 0 ≤ a ∧ a < 32)) := of_decide_eq_false h
 clear hT h
 rcases (show (t = 0 ∧ ¬ (0 ≤ a ∧ a < 1)) ∨ (t = 1 ∧ ¬ (0 ≤ a ∧ a < 24)) ∨ (t = 2 ∧ ¬ (0 ≤ a ∧ a < 32)) ∨ ¬ (0 ≤ t ∧ t < 3) by omega) with ⟨rfl, ha⟩ | ⟨rfl, ha⟩ | ⟨rfl, ha⟩ | ha
 all_goals
  have H := zaa ha
  clear h' ha
  go_enter Tryz.func114, Tryz.ntmps114
  go_wp2_with (first | (go_at_call 48; refine (zaq _ _ _ (by omega)).mono ?_; rintro e w' ⟨rfl, rfl⟩) | (go_at_call 48; refine (zbj _ _ _ H.out).mono ?_; rintro e w' ⟨rfl, rfl⟩))
  go_ret
  exact ⟨rfl, rfl⟩
theorem zlo (t a : Int) (w : World) (hT : TS w) : Calls Tryz.prog 55 #[.int .i64 t, .int .i64 a] w fun e w' => e = .returned (.tuple #[.int .i64 (entV t a), .int .i64 (entC t a)]) ∧ w' = w := by
 by_cases c : zez t a = true
 ·have E := zaa (ent_in c)
  have C := zaa c
  have b := zrj c
  have T := zaa hT
  have t0 : 0 ≤ t ∧ t < 3 := by omega
  have a0 : 0 ≤ a ∧ a < 32 := by omega
  obtain ⟨t1, t2⟩ := t0
  obtain ⟨a1, a2⟩ := a0
  clear b c hT
  go_enter Tryz.func55, Tryz.ntmps55
  go_wp2_with (go_at_call 114; refine (zkp _ _ _ T.out C.out).mono ?_; rintro e w' ⟨rfl, rfl⟩)
  go_ret2
  exact ⟨zbt (by rw [E.out.1]) E.out.2.symm, rfl⟩
 ·have c' : zez t a = false := by simpa using c
  have E := zaa (ent_out c')
  have C := zaa c'
  have T := zaa hT
  clear c c' hT
  go_enter Tryz.func55, Tryz.ntmps55
  go_wp2_with (go_at_call 114; refine (zic _ _ _ T.out C.out).mono ?_; rintro e w' ⟨rfl, rfl⟩)
  go_ret2
  exact ⟨zbt E.out.1.symm E.out.2.symm, rfl⟩
theorem zdt (n : Int) (w : World) (hT : TS w) (h0 : -9223372036854775808 ≤ n) (h1 : n ≤ 9223372036854775807) : Calls Tryz.prog 100 #[.int .i64 n] w fun e w' => e = .returned (.tuple #[.int .i64 (tieT n), .int .i64 (tieA n), .int .i64 (tieC n)]) ∧ w' = w := by
 have T := zaa hT
 clear hT
 by_cases c0 : 0 ≤ n
 ·by_cases c : zez (n % 4) (n / 4) = true
  ·have E := zaa (zrl (e := n) (by unfold zgf; rw [c, decide_eq_true c0]; rfl))
   have C := zaa c
   clear c
   go_enter Tryz.func100, Tryz.ntmps100
   go_wp2_with (go_at_call 114; refine (zkp _ _ _ T.out C.out).mono ?_; rintro e w' ⟨rfl, rfl⟩)
   go_ret3
   exact ⟨zpl (by rw [E.out.1]) (by rw [E.out.2.1]) E.out.2.2.symm, rfl⟩
  ·have c' : zez (n % 4) (n / 4) = false := by simpa using c
   have E := zaa (tie_out (e := n) (by unfold zgf; rw [c']; simp))
   have C := zaa c'
   clear c c'
   go_enter Tryz.func100, Tryz.ntmps100
   go_wp2_with (go_at_call 114; refine (zic _ _ _ T.out C.out).mono ?_; rintro e w' ⟨rfl, rfl⟩)
   go_ret3
   exact ⟨zpl E.out.1.symm E.out.2.1.symm E.out.2.2.symm, rfl⟩
 ·have E := zaa (tie_out (e := n) (by unfold zgf; rw [decide_eq_false c0]; rfl))
  go_enter Tryz.func100, Tryz.ntmps100
  go_wp2_with (go_at_call 114; refine (zic _ _ _ T.out (addrB_neg (by omega))).mono ?_; rintro e w' ⟨rfl, rfl⟩)
  go_ret3
  exact ⟨zpl E.out.1.symm E.out.2.1.symm E.out.2.2.symm, rfl⟩
theorem zmm (t a : Int) (w : World) (h : 0 ≤ t ∧ t < 3) (k : 0 ≤ a ∧ a < 32) : Calls Tryz.prog 109 #[.int .i64 t, .int .i64 a] w fun e w' => e = .returned (.int .i64 (4 * a + t)) ∧ w' = w := by
 go_enter Tryz.func109, Tryz.ntmps109
 go_wp2
 go_ret
 exact ⟨rfl, rfl⟩
theorem zdl (n : Int) (w : World) (h0 : 0 ≤ n) (h1 : n ≤ 9223372036854775807) : Calls Tryz.prog 152 #[.int .i64 n] w fun e w' => e = .returned (.tuple #[.int .i64 (n % 4), .int .i64 (n / 4)]) ∧ w' = w := by
 go_enter Tryz.func152, Tryz.ntmps152
 go_wp2
 go_ret2
 exact ⟨rfl, rfl⟩
theorem l03Tier_neg (n : Int) (w : World) (h0 : n < 0) (h1 : -9223372036854775808 ≤ n) : Calls Tryz.prog 152 #[.int .i64 n] w fun e w' => (∃ x y : Int, e = .returned (.tuple #[.int .i64 x, .int .i64 y])) ∧ w' = w := by
 go_enter Tryz.func152, Tryz.ntmps152
 go_wp2
 go_ret2
 exact ⟨⟨_, _, rfl⟩, rfl⟩
theorem zds (n : Int) (w : World) (h0 : -9223372036854775808 ≤ n) (h1 : n ≤ 9223372036854775807) : Calls Tryz.prog 180 #[.int .i64 n] w fun e w' => e = .returned (.bool (zgf n)) ∧ w' = w := by
 rcases (show n < 0 ∨ n = 0 ∨ 0 < n by omega) with c | rfl | c
 ·have E := zaa (show zgf n = false by unfold zgf; rw [decide_eq_false (by omega)]; rfl)
  have q0 : (n == 0) = false := by rw [beq_eq_false_iff_ne]; omega
  have q1 : ¬ 0 < n := by omega
  go_enter Tryz.func180, Tryz.ntmps180
  go_wp2_with fail
  refine (l03Tier_neg _ _ c h0).mono ?_
  rintro e w' ⟨⟨x, y, rfl⟩, rfl⟩
  go_wp2
  go_ret
  exact ⟨zaf E.out.symm, rfl⟩
 ·go_enter Tryz.func180, Tryz.ntmps180
  go_wp2
  go_ret
  exact ⟨zaf (by decide), rfl⟩
 ·have q0 : (n == 0) = false := by rw [beq_eq_false_iff_ne]; omega
  have E := zaa (show zgf n = zez (n % 4) (n / 4) by unfold zgf; rw [decide_eq_true (by omega)]; rfl)
  rcases (show (n % 4 = 1 ∧ n / 4 < 24) ∨ (n % 4 = 1 ∧ ¬ n / 4 < 24) ∨ (n % 4 = 2 ∧ n / 4 < 32) ∨ (n % 4 = 2 ∧ ¬ n / 4 < 32) ∨ (¬ n % 4 = 1 ∧ ¬ n % 4 = 2) by omega) with ⟨r, q⟩ | ⟨r, q⟩ | ⟨r, q⟩ | ⟨r, q⟩ | ⟨r, q⟩
  ·have A := zaa (addrB_of (t := n % 4) (a := n / 4) (by omega))
   have r1 : (n % 4 == 1) = true := by rw [beq_iff_eq]; exact r
   clear r
   go_enter Tryz.func180, Tryz.ntmps180
   go_wp2_with fail
   refine (zdl _ _ (by omega) h1).mono ?_
   rintro e w' ⟨rfl, rfl⟩
   go_wp2
   go_ret
   exact ⟨zaf (by rw [E.out, A.out]; first | done | exact decide_eq_false (by omega)), rfl⟩
  ·have A := zaa (zks (t := n % 4) (a := n / 4) (by omega))
   have r1 : (n % 4 == 1) = true := by rw [beq_iff_eq]; exact r
   have r2 : (n % 4 == 2) = false := by rw [beq_eq_false_iff_ne]; omega
   clear r
   go_enter Tryz.func180, Tryz.ntmps180
   go_wp2_with fail
   refine (zdl _ _ (by omega) h1).mono ?_
   rintro e w' ⟨rfl, rfl⟩
   go_wp2
   go_ret
   exact ⟨zaf (by rw [E.out, A.out]; first | done | exact decide_eq_false (by omega)), rfl⟩
  ·have A := zaa (addrB_of (t := n % 4) (a := n / 4) (by omega))
   have r1 : (n % 4 == 1) = false := by rw [beq_eq_false_iff_ne]; omega
   have r2 : (n % 4 == 2) = true := by rw [beq_iff_eq]; exact r
   clear r
   go_enter Tryz.func180, Tryz.ntmps180
   go_wp2_with fail
   refine (zdl _ _ (by omega) h1).mono ?_
   rintro e w' ⟨rfl, rfl⟩
   go_wp2
   go_ret
   exact ⟨zaf (by rw [E.out, A.out]; first | done | exact decide_eq_false (by omega)), rfl⟩
  ·have A := zaa (zks (t := n % 4) (a := n / 4) (by omega))
   have r1 : (n % 4 == 1) = false := by rw [beq_eq_false_iff_ne]; omega
   have r2 : (n % 4 == 2) = true := by rw [beq_iff_eq]; exact r
   clear r
   go_enter Tryz.func180, Tryz.ntmps180
   go_wp2_with fail
   refine (zdl _ _ (by omega) h1).mono ?_
   rintro e w' ⟨rfl, rfl⟩
   go_wp2
   go_ret
   exact ⟨zaf (by rw [E.out, A.out]; first | done | exact decide_eq_false (by omega)), rfl⟩
  ·have A := zaa (zks (t := n % 4) (a := n / 4) (by omega))
   have r1 : (n % 4 == 1) = false := by rw [beq_eq_false_iff_ne]; exact r
   have r2 : (n % 4 == 2) = false := by rw [beq_eq_false_iff_ne]; exact q
   clear r q
   go_enter Tryz.func180, Tryz.ntmps180
   go_wp2_with fail
   refine (zdl _ _ (by omega) h1).mono ?_
   rintro e w' ⟨rfl, rfl⟩
   go_wp2
   go_ret
   exact ⟨zaf (by rw [E.out, A.out]; first | done | exact decide_eq_false (by omega)), rfl⟩
end Go.Proofs.YtcilodgoognmnaaGreatDoor

namespace Go.Proofs.YtcilodgoognmnaaGreatDoor
open Go.RowKit
def entB (i : Nat) (z size : Int) : Bool := zgf z && (z == 0 || decide ((i : Int) < size))
def mapTo (zs : List Int) (size : Int) (k : Nat) : Prop := ∀ i, i < k → entB i (zs.getD i 0) size = true
def mapB (zs : List Int) (size : Int) : Bool := (List.range 8).all fun i => entB i (zs.getD i 0) size
theorem mapB_of {zs : List Int} {size : Int} (h : mapTo zs size 8) : mapB zs size = true := by
 unfold mapB
 rw [List.all_eq_true]
 intro i hi
 exact h i (List.mem_range.1 hi)
theorem zrv {zs : List Int} {size : Int} (h : mapB zs size = true) : mapTo zs size 8 := by
 unfold mapB at h
 rw [List.all_eq_true] at h
 intro i hi
 exact h i (List.mem_range.2 hi)
theorem mapB_not {zs : List Int} {size : Int} {k : Nat} (hk : k < 8) (h : entB k (zs.getD k 0) size = false) : mapB zs size = false := by
 rw [Bool.eq_false_iff]
 intro e
 rw [zrv e k hk] at h
 exact absurd h (by decide)
theorem mapTo_succ {zs : List Int} {size : Int} {k : Nat} (h : mapTo zs size k) (g : entB k (zs.getD k 0) size = true) : mapTo zs size (k + 1) := by
 intro i hi
 by_cases e : i = k
 ·rw [e]; exact g
 ·exact h i (by omega)
def zjq (x : Ino) : Bool := if x.kind = 0 then decide (x.size = 0 ∧ x.links = 0 ∧ x.map = [0, 0, 0, 0, 0, 0, 0, 0]) else if x.kind = 2 then x.size == 0 && x.links == 1 else decide (0 < x.links)
def zep (x : Ino) : Bool := decide (0 ≤ x.kind ∧ x.kind ≤ 2) && (decide (0 ≤ x.size ∧ x.size ≤ 8) && (decide (0 ≤ x.links ∧ x.links ≤ 24) && (mapB x.map x.size && zjq x)))
def Ino.R (x : Ino) : Prop := ∀ z ∈ x.map, -9223372036854775808 ≤ z ∧ z ≤ 9223372036854775807
theorem Ino.len (x : Ino) : x.map.length = 8 := rfl
theorem Ino.at (x : Ino) (k : Nat) (hk : k < 8) : x.cs[3 + k]? = some (.int .i64 (x.map.getD k 0)) := by
 rcases (show k = 0 ∨ k = 1 ∨ k = 2 ∨ k = 3 ∨ k = 4 ∨ k = 5 ∨ k = 6 ∨ k = 7 by omega) with rfl | rfl | rfl | rfl | rfl | rfl | rfl | rfl <;> rfl
theorem Ino.R.at {x : Ino} (h : x.R) (k : Nat) (hk : k < 8) : -9223372036854775808 ≤ x.map.getD k 0 ∧ x.map.getD k 0 ≤ 9223372036854775807 := by
 have e : x.map.getD k 0 = x.map[k]'(by rw [x.len]; exact hk) := by rw [List.getD_eq_getElem?_getD, List.getElem?_eq_getElem (by rw [x.len]; exact hk)]; rfl
 rw [e]
 exact h _ (List.getElem_mem _)
set_option maxRecDepth 100000 in
set_option maxHeartbeats 2000000 in
@[go_sem] theorem eqZero8 (m0 m1 m2 m3 m4 m5 m6 m7 : Int) (w : World) : (Op.equalIn 9999 95 (.agg #[.int .i64 m0, .int .i64 m1, .int .i64 m2, .int .i64 m3, .int .i64 m4, .int .i64 m5, .int .i64 m6, .int .i64 m7]) (.agg #[.int .i64 0, .int .i64 0, .int .i64 0, .int .i64 0, .int .i64 0, .int .i64 0, .int .i64 0, .int .i64 0])).run Tryz.prog w = .ok (decide ([m0, m1, m2, m3, m4, m5, m6, m7] = [0, 0, 0, 0, 0, 0, 0, 0])) w := by
 have u3 := Tryz.underlying3
 have a3 := Tryz.isAgg3
 have z3 := Tryz.sizeOf3
 rw [show (9999 : Nat) = 9998 + 1 from rfl, Op.equalIn]
 simp only [Sem.run_bind, run_underlying Tryz.underlying95, Result.andThen_ok]
 simp only [Std.Legacy.Range.forIn_eq_forIn_range', Std.Legacy.Range.size, Nat.sub_zero, Nat.add_sub_cancel, Nat.div_one, List.range'_succ, List.range'_zero, List.forIn_cons, List.forIn_nil]
 go_simp
 by_cases h0 : m0 = 0
 case neg => simp [h0]
 by_cases h1 : m1 = 0
 case neg => simp [h0, h1]
 by_cases h2 : m2 = 0
 case neg => simp [h0, h1, h2]
 by_cases h3 : m3 = 0
 case neg => simp [h0, h1, h2, h3]
 by_cases h4 : m4 = 0
 case neg => simp [h0, h1, h2, h3, h4]
 by_cases h5 : m5 = 0
 case neg => simp [h0, h1, h2, h3, h4, h5]
 by_cases h6 : m6 = 0
 case neg => simp [h0, h1, h2, h3, h4, h5, h6]
 by_cases h7 : m7 = 0
 case neg => simp [h0, h1, h2, h3, h4, h5, h6, h7]
 simp [h0, h1, h2, h3, h4, h5, h6, h7]
set_option maxRecDepth 100000 in
set_option maxHeartbeats 2000000 in
theorem zul (x : Ino) (w : World) (hr : x.R) : Calls Tryz.prog 125 #[x.v] w fun e w' => e = .returned (.bool (zep x)) ∧ Below w.heap.size w w' := by
 have hv : x.v = .agg x.cs.toArray := rfl
 have c0 : (w.alloc (.cells x.cs.toArray 97)).cell? ⟨w.heap.size, 0, none⟩ = some (.int .i64 x.kind) := (zae (xs := x.cs) (zah rfl) 0).1
 have c1 : (w.alloc (.cells x.cs.toArray 97)).cell? ⟨w.heap.size, 1, none⟩ = some (.int .i64 x.size) := (zae (xs := x.cs) (zah rfl) 1).1
 have c2 : (w.alloc (.cells x.cs.toArray 97)).cell? ⟨w.heap.size, 2, none⟩ = some (.int .i64 x.links) := (zae (xs := x.cs) (zah rfl) 2).1
 have CM := zaa (show ∀ k, k < 8 → (w.alloc (.cells x.cs.toArray 97)).cell? ⟨w.heap.size, 3 + k, none⟩ = some (.int .i64 (x.map.getD k 0)) from fun k hk => ((zae (xs := x.cs) (zah rfl) (3 + k)).1).trans (x.at k hk))
 have B := zaa ((Below.refl w.heap.size w).alloc (Nat.le_refl _) (.cells x.cs.toArray 97))
 rw [hv]
 by_cases h0 : 0 ≤ x.kind ∧ x.kind ≤ 2
 ·by_cases h1 : 0 ≤ x.size ∧ x.size ≤ 8
  ·by_cases h2 : 0 ≤ x.links ∧ x.links ≤ 24
   ·have E := zaa (show zep x = (mapB x.map x.size && zjq x) by unfold zep; rw [decide_eq_true h0, decide_eq_true h1, decide_eq_true h2]; rfl)
    have H := zaa (And.intro h0 (And.intro h1 h2))
    clear h0 h1 h2
    go_enter Tryz.func125, Tryz.ntmps125
    go_wp2_with fail
    refine (zar _ _ _ _ H.out.1).mono ?_
    rintro e w' ⟨rfl, rfl⟩
    go_wp2_with fail
    refine (zar _ _ _ _ H.out.2.1).mono ?_
    rintro e w' ⟨rfl, rfl⟩
    go_wp2_with fail
    refine (zar _ _ _ _ H.out.2.2).mono ?_
    rintro e w' ⟨rfl, rfl⟩
    go_wp2
    obtain ⟨wa, hwa⟩ : ∃ wa, wa = w.alloc (.cells x.cs.toArray 97) := ⟨_, rfl⟩
    rw [← hwa] at c0 c1 c2 CM B ⊢
    have CA := zaa (show ∀ j, wa.cell? ⟨w.heap.size, j, none⟩ = x.cs[j]? by rw [hwa]; exact fun j => (zae (xs := x.cs) (zah rfl) j).1)
    clear hwa
    go_loopw [3] (fun i wr => ∃ k : Nat, k ≤ 8 ∧ i = .int .i64 k ∧ wr = wa ∧ Hid (mapTo x.map x.size k)) (fun i _ => 8 - (intOf i).toNat)
    case atStart => exact ⟨0, by omega, rfl, rfl, fun i hi => absurd hi (by omega)⟩
    case round =>
     obtain ⟨k, hk, rfl, rfl, M⟩ := hrel
     by_cases hlt : k < 8
     ·have c3 := CM.out k hlt
      obtain ⟨r0, r1⟩ := hr.at k hlt
      have k0 : (0 : Int) ≤ (k : Int) := by omega
      have k1 : (k : Int) < 8 := by omega
      have MN := zaa (fun e => mapB_not (zs := x.map) (size := x.size) hlt e)
      have MS := zaa (fun e => mapTo_succ (k := k) M.out e)
      generalize x.map.getD k 0 = z at c3 r0 r1 MN MS
      clear CM CA M
      cases ht : zgf z with
      | false =>
       have F := zaa (show zep x = false by rw [E.out, MN.out (by unfold entB; rw [ht]; rfl), Bool.false_and])
       have T := zaa ht
       clear ht MN MS E
       go_wp2_with fail
       refine (zds _ _ r0 r1).mono ?_
       rintro e w' ⟨rfl, rfl⟩
       rw [T.out]
       go_wp2
       go_ret
       exact ⟨zaf F.out.symm, B.out⟩
      | true =>
       by_cases hz : z = 0
       ·have q : (z != 0) = false := by rw [hz]; rfl
        have G := zaa (MS.out (by unfold entB; rw [ht, hz]; rfl))
        have T := zaa ht
        clear ht MN MS hz
        go_wp2_with fail
        refine (zds _ _ r0 r1).mono ?_
        rintro e w' ⟨rfl, rfl⟩
        rw [T.out]
        go_wp2
        go_roundw
        case rel => exact ⟨k + 1, by omega, by go_num, trivial, G⟩
        case measure => simp [intOf]; omega
       ·have q : (z != 0) = true := by rw [bne_iff_ne]; exact hz
        have qz : (z == 0) = false := by rw [beq_eq_false_iff_ne]; exact hz
        by_cases hs : (k : Int) < x.size
        ·have q2 : ¬ x.size ≤ (k : Int) := by omega
         have G := zaa (MS.out (by unfold entB; rw [ht, qz, decide_eq_true hs]; rfl))
         have T := zaa ht
         clear ht MN MS hz hs qz
         go_wp2_with fail
         refine (zds _ _ r0 r1).mono ?_
         rintro e w' ⟨rfl, rfl⟩
         rw [T.out]
         go_wp2
         go_roundw
         case rel => exact ⟨k + 1, by omega, by go_num, trivial, G⟩
         case measure => simp [intOf]; omega
        ·have q2 : x.size ≤ (k : Int) := by omega
         have F := zaa (show zep x = false by rw [E.out, MN.out (by unfold entB; rw [ht, qz, decide_eq_false hs]; rfl), Bool.false_and])
         have T := zaa ht
         clear ht MN MS hz hs qz E
         go_wp2_with fail
         refine (zds _ _ r0 r1).mono ?_
         rintro e w' ⟨rfl, rfl⟩
         rw [T.out]
         go_wp2
         go_ret
         exact ⟨zaf F.out.symm, B.out⟩
     ·obtain rfl : k = 8 := by omega
      have F := zaa (show zep x = zjq x by rw [E.out, mapB_of M.out, Bool.true_and])
      clear E M CM
      rcases (show x.kind = 0 ∨ x.kind = 1 ∨ x.kind = 2 by have := H.out; omega) with hz | hz | hz
      ·have K := zaa (show zjq x = decide (x.size = 0 ∧ x.links = 0 ∧ x.map = [0, 0, 0, 0, 0, 0, 0, 0]) by unfold zjq; rw [if_pos hz])
       rw [hz] at c0
       have c3 : wr.cell? ⟨w.heap.size, 3, none⟩ = some (.int .i64 x.m0) := CA.out 3
       have c4 : wr.cell? ⟨w.heap.size, 4, none⟩ = some (.int .i64 x.m1) := CA.out 4
       have c5 : wr.cell? ⟨w.heap.size, 5, none⟩ = some (.int .i64 x.m2) := CA.out 5
       have c6 : wr.cell? ⟨w.heap.size, 6, none⟩ = some (.int .i64 x.m3) := CA.out 6
       have c7 : wr.cell? ⟨w.heap.size, 7, none⟩ = some (.int .i64 x.m4) := CA.out 7
       have c8 : wr.cell? ⟨w.heap.size, 8, none⟩ = some (.int .i64 x.m5) := CA.out 8
       have c9 : wr.cell? ⟨w.heap.size, 9, none⟩ = some (.int .i64 x.m6) := CA.out 9
       have c10 : wr.cell? ⟨w.heap.size, 10, none⟩ = some (.int .i64 x.m7) := CA.out 10
       clear CA
       go_wp2
       all_goals
        go_ret
        refine ⟨zaf ?_, B.out⟩
        rw [F.out, K.out, eq_comm]
        clear c0 c1 c2 c3 c4 c5 c6 c7 c8 c9 c10
        rename_i h9
        simp_all [Ino.map]
      ·have K := zaa (show zjq x = decide (0 < x.links) by unfold zjq; rw [if_neg (by omega), if_neg (by omega)])
       rw [hz] at c0
       clear CA
       go_wp2
       go_ret
       exact ⟨zaf (by rw [F.out, K.out]), B.out⟩
      ·have K := zaa (show zjq x = (x.size == 0 && x.links == 1) by unfold zjq; rw [if_neg (by omega), if_pos hz])
       rw [hz] at c0
       clear CA
       cases hq : (x.size == 0)
       all_goals
        rw [hq] at K
        go_wp2
        go_ret
        exact ⟨zaf (by rw [F.out, K.out]; rfl), B.out⟩
   ·have E := zaa (show zep x = false by unfold zep; rw [decide_eq_false h2, Bool.false_and, Bool.and_false, Bool.and_false])
    go_enter Tryz.func125, Tryz.ntmps125
    go_wp2_with fail
    refine (zar _ _ _ _ h0).mono ?_
    rintro e w' ⟨rfl, rfl⟩
    go_wp2_with fail
    refine (zar _ _ _ _ h1).mono ?_
    rintro e w' ⟨rfl, rfl⟩
    go_wp2_with fail
    refine (zce _ _ _ _ h2).mono ?_
    rintro e w' ⟨rfl, rfl⟩
    go_wp2
    go_ret
    exact ⟨zaf E.out.symm, B.out⟩
  ·have E := zaa (show zep x = false by unfold zep; rw [decide_eq_false h1, Bool.false_and, Bool.and_false])
   go_enter Tryz.func125, Tryz.ntmps125
   go_wp2_with fail
   refine (zar _ _ _ _ h0).mono ?_
   rintro e w' ⟨rfl, rfl⟩
   go_wp2_with fail
   refine (zce _ _ _ _ h1).mono ?_
   rintro e w' ⟨rfl, rfl⟩
   go_wp2
   go_ret
   exact ⟨zaf E.out.symm, B.out⟩
 ·have E := zaa (show zep x = false by unfold zep; rw [decide_eq_false h0, Bool.false_and])
  go_enter Tryz.func125, Tryz.ntmps125
  go_wp2_with fail
  refine (zce _ _ _ _ h0).mono ?_
  rintro e w' ⟨rfl, rfl⟩
  go_wp2
  go_ret
  exact ⟨zaf E.out.symm, B.out⟩
end Go.Proofs.YtcilodgoognmnaaGreatDoor

namespace Go.Proofs.YtcilodgoognmnaaGreatDoor
open Go.RowKit
structure Se where
 at_ : Int
 val : Int
deriving DecidableEq
def Se.cells (s : Se) : List Value := [.int .i64 s.at_, .int .i64 s.val]
def ses (ps : List Se) : List Value := ps.flatMap Se.cells
theorem Se.cells_len (s : Se) : s.cells.length = 2 := rfl
theorem ses_len (ps : List Se) : (ses ps).length = ps.length * 2 := zgu _ 2 Se.cells_len ps
theorem zrx (ps : List Se) (k : Nat) (h : k < ps.length) : (ses ps)[k * 2]? = some (.int .i64 ps[k].at_) := zbr _ 2 Se.cells_len ps k 0 h (by omega)
theorem zsb (ps : List Se) (k : Nat) (h : k < ps.length) : (ses ps)[k * 2 + 1]? = some (.int .i64 ps[k].val) := zbr _ 2 Se.cells_len ps k 1 h (by omega)
def RdE (w : World) (v : Value) (ps : List Se) : Prop := Rd w 2 v ps.length (ses ps)
theorem RdE.shape {w : World} {v : Value} {ps : List Se} (h : RdE w v ps) : ∃ ao cap, v = .slice ao ps.length cap ∧ ps.length ≤ cap ∧ (0 < ps.length → ∃ b o, ao = some ⟨b, o, none⟩ ∧ b < w.heap.size ∧
  ∀ k (h : k < ps.length), w.cell? ⟨b, o + k * 2, none⟩ = some (.int .i64 ps[k].at_) ∧ w.cell? ⟨b, o + k * 2 + 1, none⟩ = some (.int .i64 ps[k].val)) := by
 obtain ⟨_, ao, cap, rfl, h2, h3⟩ := h
 refine ⟨ao, cap, rfl, h2.1, fun hn => ?_⟩
 obtain ⟨b, o, rfl, hb, hc⟩ := h3 hn
 exact ⟨b, o, rfl, hb, fun k hk => ⟨(hc (k * 2) (by omega)).trans (zrx ps k hk), (hc (k * 2 + 1) (by omega)).trans (zsb ps k hk)⟩⟩
theorem infoSec : (Tryz.prog.info? 200).map (fun i => (i.zero, i.size, i.bytes)) = some (some (.agg #[.int .i64 0, .int .i64 0]), 2, 16) := by kernel_rfl
set_option maxHeartbeats 1000000 in
theorem zvi (a v : Int) (w : World) : Calls Tryz.prog 155 #[.agg #[.int .i64 a, .int .i64 v]] w fun e w' => e = .returned (.agg #[.int .i64 a, .int .i64 v]) ∧ Below w.heap.size w w' := by
 go_enter Tryz.func155, Tryz.ntmps155
 go_wp2
 refine bodyPost_ret (v := .agg #[.int .i64 a, .int .i64 v]) (by simp [results, Tryz.results155, go_sem]) rfl ⟨rfl, ?_⟩
 repeat (refine Below.alloc ?_ (by simp <;> omega) _)
 exact Below.refl _ _
def put2 (ys : List Value) (k : Nat) (a b : Value) : List Value := (ys.set (k * 2) a).set (k * 2 + 1) b
theorem put2_at {ys : List Value} {k : Nat} {a b : Value} {j : Nat} (hj : j < ys.length) : (put2 ys k a b)[j]? = if j = k * 2 + 1 then some b else if j = k * 2 then some a else ys[j]? := by
 unfold put2
 rw [zor (by simpa using hj), zor hj]
theorem zvr {ys : List Value} {ps : List Se} {k : Nat} (hk : k < ps.length) (hl : ys.length = ps.length * 2) (h : ∀ j, j < k * 2 → ys[j]? = (ses ps)[j]?) :
  ∀ j, j < (k + 1) * 2 → (put2 ys k (.int .i64 ps[k].at_) (.int .i64 ps[k].val))[j]? = (ses ps)[j]? := by
 intro j hj
 rw [put2_at (by omega)]
 split
 ·rename_i e; rw [e, zsb ps k hk]
 ·split
  ·rename_i e; rw [e, zrx ps k hk]
  ·exact h j (by omega)
theorem ses_all {ys : List Value} {ps : List Se} (hl : ys.length = ps.length * 2) (h : ∀ j, j < ps.length * 2 → ys[j]? = (ses ps)[j]?) : ys = ses ps := by
 apply List.ext_getElem?
 intro j
 by_cases hj : j < ps.length * 2
 ·exact h j hj
 ·rw [List.getElem?_eq_none (by omega), List.getElem?_eq_none (by rw [ses_len]; omega)]
theorem Row.put2 {w : World} {e : TypeId} {lo hi : Nat} {b n cap : Nat} {ys : List Value} (h : Row w e 2 lo hi (.slice (some ⟨b, 0, none⟩) n cap) n ys) (k : Nat) (x y : Value) :
  Row ((w.setCell ⟨b, k * 2, none⟩ x).setCell ⟨b, k * 2 + 1, none⟩ y) e 2 lo hi (.slice (some ⟨b, 0, none⟩) n cap) n (put2 ys k x y) :=
 (h.stored (k * 2) x).stored (k * 2 + 1) y
set_option maxHeartbeats 1000000 in
theorem zsm (v : Value) (ps : List Se) (w : World) (h : RdE w v ps) (hn : ps.length ≤ 1048576) :
  Calls Tryz.prog 95 #[v] w fun e w' => ∃ v', e = .returned v' ∧ Row w' 200 2 w.heap.size w'.heap.size v' ps.length (ses ps) ∧ Below w.heap.size w w' := by
 obtain ⟨ao, cap, rfl, hcap, hc⟩ := h.shape
 clear h
 have hmk := zkg (P := Tryz.prog) 37 200 (.agg #[.int .i64 0, .int .i64 0]) 2 16 Tryz.underlying37 infoSec .i64 .i64 ps.length (by omega) (by omega)
 go_enter Tryz.func95, Tryz.ntmps95
 go_wp2
 go_loopw [4] (fun i wr => ∃ k : Nat, k ≤ ps.length ∧ i = .int .i64 k ∧ (∃ ys, Row wr 200 2 w.heap.size (w.heap.size + 1) (.slice (some ⟨w.heap.size, 0, none⟩) ps.length ps.length) ps.length ys ∧ ∀ j, j < k * 2 → ys[j]? = (ses ps)[j]?) ∧ Below w.heap.size w wr ∧ w.heap.size + 1 ≤ wr.heap.size) (fun i _ => ps.length - (intOf i).toNat)
 case atStart =>
  refine ⟨0, by omega, rfl, ⟨_, row_made w (.agg #[.int .i64 0, .int .i64 0]) 2 ps.length 200 (by simp [maxLen]; omega), fun j hj => absurd hj (by omega)⟩, (Below.refl _ _).alloc (Nat.le_refl _) _, by simp⟩
 case round =>
  obtain ⟨k, hk, rfl, ⟨ys, hrow, hys⟩, hb, hz⟩ := hrel
  by_cases hlt : k < ps.length
  ·obtain ⟨b, o, rfl, hbl, hcell⟩ := hc (by omega)
   obtain ⟨c0, c1⟩ := hcell k hlt
   have d0 := (hb.cell (p := ⟨b, o + k * 2, none⟩) hbl).trans c0
   have d1 := (hb.cell (p := ⟨b, o + k * 2 + 1, none⟩) hbl).trans c1
   have RH := zaa hrow
   have YH := zaa hys
   clear hcell hc c0 c1 hrow hys
   go_wp2_with fail
   refine (zvi _ _ _).mono ?_
   rintro e w1 ⟨rfl, hb1⟩
   have R1 := zaa (RH.out.below hb1 (by omega))
   obtain ⟨_, _, _, hsz, hfr, hcl⟩ := R1.out.at
   have hl := RH.out.len
   have f0 := hfr (k * 2)
   have f1 := hfr (k * 2 + 1)
   have e0 : w1.cell? ⟨w.heap.size, k * 2, none⟩ = some (ys[k * 2]'(by omega)) := by rw [hcl _ (by omega)]; simp
   have e1 : w1.cell? ⟨w.heap.size, k * 2 + 1, none⟩ = some (ys[k * 2 + 1]'(by omega)) := by rw [hcl _ (by omega)]; simp
   have BH := zaa (hb.trans (hb1.mono (show w.heap.size ≤ wr.heap.size by omega)))
   have hz1 := hb1.size
   clear hfr hcl hb1 hb d0 d1
   have P1 := zaa (R1.out.put2 k (.int .i64 ps[k].at_) (.int .i64 ps[k].val))
   have B1 := zaa ((BH.out.setCell (p := ⟨w.heap.size, k * 2, none⟩) (Nat.le_refl _) (.int .i64 ps[k].at_)).setCell (p := ⟨w.heap.size, k * 2 + 1, none⟩) (Nat.le_refl _) (.int .i64 ps[k].val))
   go_wp2
   go_roundw
   case rel => exact ⟨k + 1, by omega, by go_num, ⟨_, P1.out, zvr hlt hl YH.out⟩, B1.out, by simp; omega⟩
   case measure => simp [intOf]; omega
  ·have e : k = ps.length := by omega
   subst e
   have hl := hrow.len
   have RH := zaa hrow
   have YH := zaa hys
   clear hrow hys hc
   go_wp2
   go_ret
   have e := ses_all hl YH.out
   refine ⟨_, rfl, ?_, hb⟩
   rw [← e]
   exact RH.out.wide (Nat.le_refl _) hz
theorem zkv (ao : Option Addr) (n cap : Nat) (left : Int) (w : World) (hn : n ≤ maxLen) (h0 : 0 ≤ left) (h1 : left ≤ 1048576) :
  Calls Tryz.prog 88 #[.slice ao n cap, .int .i64 left] w fun e w' => e = .returned (.int .i64 (zjf left n)) ∧ w' = w := by
 unfold maxLen at hn
 by_cases h : left < n
 ·have e : zjf left n = -1 := by unfold zjf; rw [if_pos h]
  rw [e]; clear e
  go_enter Tryz.func88, Tryz.ntmps88
  go_wp2
  go_ret
  exact ⟨rfl, rfl⟩
 ·have e : zjf left n = left - n := by unfold zjf; rw [if_neg h]
  rw [e]; clear e
  go_enter Tryz.func88, Tryz.ntmps88
  go_wp2
  go_ret
  exact ⟨rfl, rfl⟩
set_option maxHeartbeats 1000000 in
theorem zsj (a v : Int) (w : World) : Calls Tryz.prog 168 #[.agg #[.int .i64 a, .int .i64 v], .agg #[.int .i64 a, .int .i64 v]] w fun e w' => e = .returned (.bool true) ∧ Below w.heap.size w w' := by
 go_enter Tryz.func168, Tryz.ntmps168
 go_wp2
 go_ret
 refine ⟨rfl, ?_⟩
 repeat (refine Below.alloc ?_ (by simp <;> omega) _)
 exact Below.refl _ _
end Go.Proofs.YtcilodgoognmnaaGreatDoor

namespace Go.Proofs.YtcilodgoognmnaaGreatDoor
open Go.RowKit
set_option maxHeartbeats 2000000 in
theorem zqx (va vb : Value) (ps : List Se) (w : World) (ha : RdE w va ps) (hb : RdE w vb ps) (hn : ps.length ≤ 2147483648) :
  Calls Tryz.prog 104 #[va, vb] w fun e w' => e = .returned (.bool true) ∧ Below w.heap.size w w' := by
 obtain ⟨ao, cap, rfl, hcap, hc⟩ := ha.shape
 obtain ⟨ao2, cap2, rfl, hcap2, hc2⟩ := hb.shape
 clear ha hb
 go_enter Tryz.func104, Tryz.ntmps104
 go_wp2
 go_loopw [5] (fun i wr => ∃ k : Nat, k ≤ ps.length ∧ i = .int .i64 k ∧ Below w.heap.size w wr) (fun i _ => ps.length - (intOf i).toNat)
 case atStart => exact ⟨0, by omega, rfl, Below.refl _ _⟩
 case round =>
  obtain ⟨k, hk, rfl, hbw⟩ := hrel
  by_cases hlt : k < ps.length
  ·obtain ⟨b, o, rfl, hbl, hcell⟩ := hc (by omega)
   obtain ⟨b2, o2, rfl, hbl2, hcell2⟩ := hc2 (by omega)
   obtain ⟨c0, c1⟩ := hcell k hlt
   obtain ⟨c3, c4⟩ := hcell2 k hlt
   have d0 := (hbw.cell (p := ⟨b, o + k * 2, none⟩) hbl).trans c0
   have d1 := (hbw.cell (p := ⟨b, o + k * 2 + 1, none⟩) hbl).trans c1
   have d3 := (hbw.cell (p := ⟨b2, o2 + k * 2, none⟩) hbl2).trans c3
   have d4 := (hbw.cell (p := ⟨b2, o2 + k * 2 + 1, none⟩) hbl2).trans c4
   have hlt' : (k : Int) < (ps.length : Int) := by omega
   have hge : (0 : Int) ≤ (k : Int) := by omega
   have hz := hbw.size
   clear hcell hcell2 hc hc2 c0 c1 c3 c4
   go_wp2_with fail
   go_region_with (go_at_call 168; refine (zsj _ _ _).mono ?_; rintro e w1 ⟨rfl, hb1⟩)
   all_goals
    go_wp2
    go_roundw
    case rel => exact ⟨k + 1, by omega, by go_num, hbw.trans (Below.mono (Below.trans ((Below.refl _ _).drew) ‹_›) hz)⟩
    case measure => simp [intOf]; omega
  ·go_wp2
   go_ret
   exact ⟨rfl, hbw⟩
def markE (k : Int) (i : Nat) : Se := ⟨k + 2 * (i : Int), k + 2 * (i : Int) + 1⟩
def zgg (k : Int) (n : Nat) : List Se := (List.range n).map (markE k)
theorem zgb (k : Int) (n : Nat) : (zgg k n).length = n := by simp [zgg]
theorem marksE_at (k : Int) (n i : Nat) (h : i < (zgg k n).length) : (zgg k n)[i] = markE k i := by simp [zgg]
def IsSes (xs : List Value) (n : Nat) : Prop := ∀ k, k < n → ∃ a b, xs[k * 2]? = some (.int .i64 a) ∧ xs[k * 2 + 1]? = some (.int .i64 b)
theorem isSes (ps : List Se) : IsSes (ses ps) ps.length := fun k hk => ⟨_, _, zrx ps k hk, zsb ps k hk⟩
theorem IsSes.put2 {ys : List Value} {n : Nat} (h : IsSes ys n) (hl : ys.length = n * 2) (k : Nat) (a b : Int) : IsSes (put2 ys k (.int .i64 a) (.int .i64 b)) n := by
 intro j hj
 rw [put2_at (by omega), put2_at (by omega)]
 by_cases e : j = k
 ·subst e
  exact ⟨a, b, by simp, by simp⟩
 ·obtain ⟨x, y, h0, h1⟩ := h j hj
  refine ⟨x, y, ?_, ?_⟩
  ·rw [if_neg (by omega), if_neg (by omega)]; exact h0
  ·rw [if_neg (by omega), if_neg (by omega)]; exact h1
set_option maxHeartbeats 2000000 in
theorem znt (v : Value) (n : Nat) (xs : List Value) (k0 : Int) (lo hi : Nat) (w : World) (h : Row w 200 2 lo hi v n xs) (hx : IsSes xs n) (hn : n ≤ 2147483648) (h0 : 0 ≤ k0) (h1 : k0 ≤ 1099511627776) :
  Calls Tryz.prog 123 #[v, .int .i64 k0] w fun e w' => e = .returned (.int .i64 (k0 + 2 * n)) ∧ Row w' 200 2 lo hi v n (ses (zgg k0 n)) ∧ w.grownBy w' v.ownBlock ∧ w'.heap.size = w.heap.size := by
 obtain ⟨hlen, ao, cap, rfl, hcap, hc⟩ := h.rd
 go_enter Tryz.func123, Tryz.ntmps123
 go_wp2
 go_loopw [1, 5] (fun c i wr => ∃ k : Nat, k ≤ n ∧ i = .int .i64 k ∧ c = .int .i64 (k0 + 2 * k) ∧ (∃ ys : List Value, Row wr 200 2 lo hi (.slice ao n cap) n ys ∧ IsSes ys n ∧ ∀ j, j < k * 2 → ys[j]? = (ses (zgg k0 n))[j]?) ∧ w.grownBy wr (Value.slice ao n cap).ownBlock ∧ wr.heap.size = w.heap.size) (fun _ i _ => n - (intOf i).toNat)
 case atStart => exact ⟨0, by omega, rfl, by simp, ⟨xs, h, hx, fun j hj => absurd hj (by omega)⟩, World.grownBy.refl _ _, rfl⟩
 case round =>
  obtain ⟨k, hk, rfl, rfl, ⟨ys, hrow, hys, hd⟩, hout, hz⟩ := hrel
  clear h hx hc hlen
  by_cases hlt : k < n
  ·obtain ⟨hlen, ao', cap', e', _, hc⟩ := hrow.rd
   cases e'
   obtain ⟨b, o, rfl, hbl, _⟩ := hc (by omega)
   obtain ⟨rfl, hb1, hb2, _, hfr, hcl⟩ := hrow.at
   obtain ⟨x, y, q0, q1⟩ := hys k hlt
   have f0 := hfr (k * 2)
   have f1 := hfr (k * 2 + 1)
   have e0 := (hcl (k * 2) (by omega)).trans q0
   have e1 := (hcl (k * 2 + 1) (by omega)).trans q1
   have PH := zaa (hrow.put2 k (.int .i64 (k0 + 2 * k)) (.int .i64 (k0 + 2 * k + 1)))
   have OH := zaa (zbm (zbm hout (a := ⟨b, k * 2, none⟩) rfl (.int .i64 (k0 + 2 * k))) (a := ⟨b, k * 2 + 1, none⟩) rfl (.int .i64 (k0 + 2 * k + 1)))
   have IH := zaa (hys.put2 hlen k (k0 + 2 * k) (k0 + 2 * k + 1))
   have DH : Hid (∀ j, j < (k + 1) * 2 → (put2 ys k (.int .i64 (k0 + 2 * k)) (.int .i64 (k0 + 2 * k + 1)))[j]? = (ses (zgg k0 n))[j]?) := by
    have hk' : k < (zgg k0 n).length := by rw [zgb]; exact hlt
    have := zvr (ps := zgg k0 n) hk' (by rw [zgb]; exact hlen) hd
    rw [marksE_at] at this
    exact this
   clear hrow hys hd hc hfr hcl q0 q1
   go_wp2
   go_roundw
   case rel => exact ⟨k + 1, by omega, by go_num, by go_num, ⟨_, PH.out, IH.out, DH.out⟩, OH.out, by simp [hz]⟩
   case measure => simp [intOf]; omega
  ·have e : k = n := by omega
   subst e
   have hl := hrow.len
   have RH := zaa hrow
   have DH := zaa hd
   clear hrow hys hd
   go_wp2
   go_ret
   have e := ses_all (ps := zgg k0 k) (by rw [zgb]; exact hl) (by rw [zgb]; exact DH.out)
   exact ⟨rfl, e ▸ RH.out, hout, hz⟩
end Go.Proofs.YtcilodgoognmnaaGreatDoor

namespace Go.Proofs.YtcilodgoognmnaaGreatDoor
open Go.RowKit
theorem zff : (Tryz.prog.info? 130).map (fun i => (i.zero, i.size, i.bytes)) = some (some (.agg #[.int .i64 0, .int .i64 0]), 2, 16) := by kernel_rfl
end Go.Proofs.YtcilodgoognmnaaGreatDoor

namespace Go.Proofs.YtcilodgoognmnaaGreatDoor
open Go.RowKit
theorem zfv (w1 : World) (x y : Int) : Rd (w1.alloc (.cells #[.int .i64 x, .int .i64 y] 130)) 2 (.slice (some ⟨w1.heap.size, 0, none⟩) 1 1) 1 (ses [⟨x, y⟩]) := by
 refine ⟨rfl, _, _, rfl, ⟨Nat.le_refl _, fun e => by cases e⟩, fun _ => ⟨w1.heap.size, 0, rfl, by simp, fun j hj => ?_⟩⟩
 obtain ⟨e0, e1, _, _⟩ := zac (zah (w := w1) (o := .cells #[.int .i64 x, .int .i64 y] 130) rfl)
 rcases (show j = 0 ∨ j = 1 by omega) with rfl | rfl
 ·exact e0
 ·exact e1
theorem zco (l : List Se) : ∀ u ∈ ses l, u.oneCell' = true := by
 intro u hu
 simp only [ses, List.mem_flatMap] at hu
 obtain ⟨m, _, hm⟩ := hu
 simp [Se.cells] at hm
 rcases hm with rfl | rfl <;> rfl
theorem ses_app (l l' : List Se) : ses (l ++ l') = ses l ++ ses l' := by simp [ses]
structure UpI (W w : World) (vL : Value) (ls : List Se) : Prop where
 l : w.ownsRow W.heap.size 130 2 vL ls.length (ses ls)
 b : Below W.heap.size W w
theorem UpI.z {W w : World} {vL : Value} {ls : List Se} (h : UpI W w vL ls) : W.heap.size ≤ w.heap.size := h.b.size
theorem UpI.below {W w w' : World} {vL : Value} {ls : List Se} (h : UpI W w vL ls) (hb : Below w.heap.size w w') : UpI W w' vL ls :=
 ⟨((zad h.l).below hb (Nat.le_refl _)).1, zab h.b hb h.z⟩
theorem UpI.grow {W w w' : World} {vL v' : Value} {ls : List Se} (h : UpI W w vL ls) (ms : List Se) (ho : w'.ownsRow W.heap.size 130 2 v' (ls.length + ms.length) (ses ls ++ ses ms)) (hg : w.grownBy w' vL.ownBlock) : UpI W w' v' (ls ++ ms) :=
 ⟨by rw [ses_app, List.length_append]; exact ho, h.b.grown hg h.z (fun q hq => (h.l.lt q hq).1)⟩
def wrL (i : Int) (x : Ino) (k : Nat) : List Se := [⟨48 + 12 * i, x.kind⟩, ⟨48 + 12 * i + 1, x.size⟩, ⟨48 + 12 * i + 2, x.links⟩] ++ (List.range k).map (fun j => ⟨48 + 12 * i + (3 + (j : Int)), x.map.getD j 0⟩)
theorem zsv (i : Int) (x : Ino) (k : Nat) : (wrL i x k).length = 3 + k := by simp [wrL]; omega
theorem wrL_succ (i : Int) (x : Ino) (k : Nat) : wrL i x (k + 1) = wrL i x k ++ [⟨48 + 12 * i + (3 + (k : Int)), x.map.getD k 0⟩] := by
 unfold wrL; rw [List.range_succ, List.map_append, List.append_assoc]; rfl
set_option maxRecDepth 100000 in
set_option maxHeartbeats 2000000 in
theorem zun (i : Int) (x : Ino) (w : World) (hi : 0 ≤ i ∧ i < 16) :
  Calls Tryz.prog 221 #[.int .i64 i, x.v] w fun e w' => ∃ v', e = .returned v' ∧ Row w' 130 2 w.heap.size w'.heap.size v' (wrL i x 8).length (ses (wrL i x 8)) ∧ Below w.heap.size w w' := by
 have hv : x.v = .agg x.cs.toArray := rfl
 obtain ⟨W, hW⟩ : ∃ W, W = w.alloc (.cells x.cs.toArray 97) := ⟨_, rfl⟩
 have CA : Hid (∀ w', Below W.heap.size W w' → ∀ j, w'.cell? ⟨w.heap.size, j, none⟩ = x.cs[j]?) := fun w' hb j => by
  have : w'.heap[w.heap.size]? = some (.cells x.cs.toArray 97 (0, 0)) := (hb.block _ (by rw [hW]; simp)).trans (by rw [hW]; exact zah rfl)
  exact (zae (xs := x.cs) this j).1
 have BW : Hid (Below w.heap.size w W) := by rw [hW]; exact (Below.refl _ _).alloc (Nat.le_refl _) _
 have c0 : W.cell? ⟨w.heap.size, 0, none⟩ = some (.int .i64 x.kind) := CA.out W (Below.refl _ _) 0
 have c1 : W.cell? ⟨w.heap.size, 1, none⟩ = some (.int .i64 x.size) := CA.out W (Below.refl _ _) 1
 have c2 : W.cell? ⟨w.heap.size, 2, none⟩ = some (.int .i64 x.links) := CA.out W (Below.refl _ _) 2
 have hWz : w.heap.size < W.heap.size := by rw [hW]; simp
 rw [hv]
 go_enter Tryz.func221, Tryz.ntmps221
 have SK : Hid (∀ w', Below W.heap.size W w' → w'.cell? ⟨w.heap.size, 0, none⟩ = some (.int .i64 x.kind) ∧ w'.cell? ⟨w.heap.size, 1, none⟩ = some (.int .i64 x.size) ∧ w'.cell? ⟨w.heap.size, 2, none⟩ = some (.int .i64 x.links)) := fun w' hb => ⟨CA.out w' hb 0, CA.out w' hb 1, CA.out w' hb 2⟩
 go_wp2_with fail
 rw [← hW]
 clear hW c0 c1 c2
 go_region_held3 (fun w' => w'.cell? ⟨w.heap.size, 0, none⟩ = some (.int .i64 x.kind) ∧ w'.cell? ⟨w.heap.size, 1, none⟩ = some (.int .i64 x.size) ∧ w'.cell? ⟨w.heap.size, 2, none⟩ = some (.int .i64 x.links))
  (exact SK.out _ (by repeat (first | exact Below.refl _ _ | refine Below.drew ?_ | refine Below.alloc ?_ (by simp) _)))
  (first | (go_at_call 110; refine (zbd _ _ _ hi (by omega)).mono ?_; rintro e w' ⟨rfl, hw'⟩; subst w'))
 have START : Hid (UpI W (W.alloc (.cells #[.int .i64 (48 + 12 * i), .int .i64 x.kind, .int .i64 (48 + 12 * i + 1), .int .i64 x.size, .int .i64 (48 + 12 * i + 2), .int .i64 x.links] 130)).drew (.slice (some ⟨W.heap.size, 0, none⟩) 3 3) (wrL i x 0)) :=
  UpI.below (w := W.alloc (.cells #[.int .i64 (48 + 12 * i), .int .i64 x.kind, .int .i64 (48 + 12 * i + 1), .int .i64 x.size, .int .i64 (48 + 12 * i + 2), .int .i64 x.links] 130)) ⟨World.ownsRow_lit W _ 3 (Nat.le_refl _) (by simp [maxLen]) rfl, (Below.refl _ _).alloc (Nat.le_refl _) _⟩ ((Below.refl _ _).drew)
 clear SK
 go_wp2
 go_loopw [5, 6] (fun vL i' wr => ∃ m : Nat, m ≤ 8 ∧ i' = .int .i64 m ∧ Hid (UpI W wr vL (wrL i x m))) (fun _ i' _ => 8 - (intOf i').toNat)
 case atStart => exact ⟨0, by omega, rfl, START⟩
 case round =>
  obtain ⟨m, hm, rfl, J⟩ := hrel
  clear START
  have m0 : (0 : Int) ≤ (m : Int) := by omega
  by_cases hlt : m < 8
  ·have m1 : (m : Int) < 8 := by omega
   have SK : Hid (∀ w', Below W.heap.size W w' → w'.cell? ⟨w.heap.size, 3 + m, none⟩ = some (.int .i64 (x.map.getD m 0))) := fun w' hb => (CA.out w' hb (3 + m)).trans (x.at m hlt)
   have x1 := SK.out wr J.out.b
   have EM := zaa (wrL_succ i x m)
   have l1 := zsv i x m
   have l2 : (wrL i x m).length ≤ 11 := by omega
   have li := hi.1
   have lj := hi.2
   have wp1 : IntKind.i64.wrap (3 + (m : Int)) = 3 + (m : Int) := by rw [IntKind.wrap_i64]; omega
   generalize x.map.getD m 0 = y at *
   have J4 := zaa (J.out.below ((Below.refl _ _).alloc (Nat.le_refl _) (.cells #[.int .i64 (48 + 12 * i + (3 + (m : Int))), .int .i64 y] 130)))
   have J4d := zaa ((J.out.below ((Below.refl wr.heap.size wr).drew)).below ((Below.refl _ _).alloc (Nat.le_refl _) (.cells #[.int .i64 (48 + 12 * i + (3 + (m : Int))), .int .i64 y] 130)))
   have HRD := zaa (zfv wr (48 + 12 * i + (3 + (m : Int))) y)
   have HRDd := zaa (zfv wr.drew (48 + 12 * i + (3 + (m : Int))) y)
   clear l1
   go_wp2_with fail
   go_region_held3 (fun w' => w'.cell? ⟨w.heap.size, 3 + m, none⟩ = some (.int .i64 y))
    (first | exact SK.out _ G.out.b | exact SK.out _ J.out.b | exact SK.out _ J.out.b.drew | exact SK.out _ J4.out.b | exact SK.out _ J4d.out.b)
    (first
     | (go_at_call 110; refine (zbd _ _ _ hi (by omega)).mono ?_; rintro e w' ⟨rfl, hw'⟩; subst w')
     | (refine zal rfl (.tmp 27) (.tmp 37) 57 rfl W.heap.size 130 (.agg #[.int .i64 0, .int .i64 0]) 2 16 Tryz.underlying57 zff rfl (by decide) _ (wrL i x m).length (ses (wrL i x m)) rfl (by first | exact J4.out.l | exact J4d.out.l) _ 1 (ses [⟨48 + 12 * i + (3 + (m : Int)), y⟩]) rfl (by first | exact HRD.out | exact HRDd.out) (zco _) (by simp [maxLen]; omega) (by omega) (by first | exact J4.out.z | exact J4d.out.z) ?_; intro vN wN hownN hgrN; have G := (by first | exact zaa (J4.out.grow [⟨48 + 12 * i + (3 + (m : Int)), y⟩] hownN hgrN) | exact zaa (J4d.out.grow [⟨48 + 12 * i + (3 + (m : Int)), y⟩] hownN hgrN) : Hid (UpI W wN vN (wrL i x m ++ [⟨48 + 12 * i + (3 + (m : Int)), y⟩]))); clear hownN hgrN))
   all_goals
    rw [← EM.out] at G
    clear J J4 J4d HRD HRDd x1 SK
    go_wp2
    go_roundw
    case rel => exact ⟨m + 1, by omega, by go_num, G⟩
    case measure => simp [intOf]; omega
  ·obtain rfl : m = 8 := by omega
   obtain ⟨-, aL, cL, hvL, -⟩ := (zad J.out.l).rd
   subst hvL
   go_wp2
   go_ret
   exact ⟨_, rfl, (zad J.out.l).wide (by omega) (Nat.le_refl _), zab BW.out (J.out.b) (by omega)⟩
end Go.Proofs.YtcilodgoognmnaaGreatDoor
