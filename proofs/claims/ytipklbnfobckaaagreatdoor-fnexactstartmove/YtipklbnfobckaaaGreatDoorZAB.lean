/- Several texts laid together: IntS, StoreS, StoreT. -/
import Derived.Test.YtipklbnfobckaaaGreatDoorMem
import Derived.Deep.OwnRows
import Derived.Deep.QuietTactic
import Derived.BigQuiet
import Derived.Deep.RegionWith
namespace Go.Proofs.YtipklbnfobckaaaGreatDoor
open Go.RowKit

theorem zkh : (Tryz.prog.info? 3).map (fun i => (i.zero, i.size, i.bytes)) = some (some (.int .i64 0), 1, 8) := by kernel_rfl

/-- A row that is as long as its block. -/
theorem zsa {w : World} {g : Nat} {zs : List Int} {f : Nat → Value} {lo hi : Nat} (h : w.rowIs g 3 zs.length f) (hf : ∀ i (h : i < zs.length), f i = .int .i64 zs[i]) (h1 : lo ≤ g) (h2 : g < hi) (hm : zs.length ≤ maxLen) :
  Row w 3 1 lo hi (.slice (some ⟨g, 0, none⟩) zs.length zs.length) zs.length (zca zs) := by
 obtain ⟨c, hb, hn, hc⟩ := h
 refine ⟨⟨by simp [zca], .inr ⟨g, zs.length, c, rfl, h1, hb, Nat.le_refl _, hm, by omega, ?_⟩⟩, fun k hk => by cases hk; exact h2⟩
 apply List.ext_getElem?
 intro i
 by_cases hi : i < zs.length
 ·rw [List.getElem?_take, if_pos (by omega), zck zs i hi, Array.getElem?_toList, hc i hi, hf i hi]
 ·rw [List.getElem?_eq_none (by simp; omega), List.getElem?_eq_none (by simp [zca]; omega)]

set_option maxHeartbeats 1000000 in
theorem zjj (v : Value) (zs : List Int) (w : World) (h : RdI w v zs) (hn : zs.length ≤ 1048576) :
  Calls Tryz.prog 47 #[v] w fun e w' => ∃ v', e = .returned v' ∧ Row w' 3 1 w.heap.size w'.heap.size v' zs.length (zca zs) ∧ Below w.heap.size w w' := by
 obtain ⟨ao, cap, rfl, hcap, hc⟩ := h.shape
 have hmk := run_make_row' (P := Tryz.prog) 22 3 (.int .i64 0) 8 Tryz.underlying22 zkh rfl .i64 .i64 zs.length (by omega) (by omega)
 go_enter Tryz.func47, Tryz.ntmps47
 go_wp2
 go_loopw [4] (fun i wr => ∃ k : Nat, k ≤ zs.length ∧ i = .int .i64 k ∧ wr.rowIs w.heap.size 3 zs.length (fun j => if h : j < k ∧ j < zs.length then .int .i64 zs[j] else .int .i64 0) ∧ Below w.heap.size w wr ∧ wr.heap.size = w.heap.size + 1) (fun i _ => zs.length - (intOf i).toNat)
 case atStart =>
  refine ⟨0, by omega, rfl, ?_, (Below.refl _ _).alloc (Nat.le_refl _) _, by simp⟩
  exact (World.rowIs_made w (.int .i64 0) zs.length 3).congr (fun i hi => by simp)
 case round =>
  obtain ⟨k, hk, rfl, hrow, hb, hz⟩ := hrel
  by_cases hlt : k < zs.length
  ·obtain ⟨b, o, rfl, hbl, hcell⟩ := hc (by omega)
   have hck : wr.cell? ⟨b, o + k, none⟩ = some (.int .i64 zs[k]) := (hb.cell (p := ⟨b, o + k, none⟩) hbl).trans (hcell k hlt)
   have hfr := hrow.frozen k
   have hce := hrow.cell hlt
   have R := hrow.set k (.int .i64 zs[k])
   have B := hb.setCell (p := ⟨w.heap.size, k, none⟩) (Nat.le_refl _) (.int .i64 zs[k])
   have RH := zaa R
   have BH := zaa B
   clear R B hrow hcell hc
   go_wp2
   go_roundw
   case rel =>
    refine ⟨k + 1, by omega, by go_num, RH.out.congr (fun j hj => ?_), BH.out, by simp [hz]⟩
    by_cases e : j = k
    ·subst e; simp [hj]
    ·by_cases e2 : j < k
     ·simp [e, e2, hj, show j < k + 1 by omega]
     ·simp [e, e2, show ¬ j < k + 1 by omega]
   case measure => simp [intOf]; omega
  ·have e : k = zs.length := by omega
   subst e
   go_wp2
   go_ret
   refine ⟨_, rfl, zsa hrow (fun i hi => by simp [hi]) (Nat.le_refl _) (by omega) (by simp [maxLen]; omega), hb⟩

set_option maxHeartbeats 1000000 in
/-- Two slices that read alike are found alike. -/
theorem zhh (va vb : Value) (zs : List Int) (w : World) (ha : RdI w va zs) (hb : RdI w vb zs) (hn : zs.length ≤ 2147483648) :
  Calls Tryz.prog 56 #[va, vb] w fun e w' => e = .returned (.bool true) ∧ Below w.heap.size w w' := by
 obtain ⟨ao, cap, rfl, hcap, hc⟩ := ha.shape
 obtain ⟨ao2, cap2, rfl, hcap2, hc2⟩ := hb.shape
 clear ha hb
 go_enter Tryz.func56, Tryz.ntmps56
 go_wp2
 go_loopw [5] (fun i wr => ∃ k : Nat, k ≤ zs.length ∧ i = .int .i64 k ∧ Below w.heap.size w wr) (fun i _ => zs.length - (intOf i).toNat)
 case atStart => exact ⟨0, by omega, rfl, Below.refl _ _⟩
 case round =>
  obtain ⟨k, hk, rfl, hbw⟩ := hrel
  by_cases hlt : k < zs.length
  ·obtain ⟨b, o, rfl, hbl, hcell⟩ := hc (by omega)
   obtain ⟨b2, o2, rfl, hbl2, hcell2⟩ := hc2 (by omega)
   have hck : wr.cell? ⟨b, o + k, none⟩ = some (.int .i64 zs[k]) := (hbw.cell (p := ⟨b, o + k, none⟩) hbl).trans (hcell k hlt)
   have hck2 : wr.cell? ⟨b2, o2 + k, none⟩ = some (.int .i64 zs[k]) := (hbw.cell (p := ⟨b2, o2 + k, none⟩) hbl2).trans (hcell2 k hlt)
   have hlt' : (k : Int) < (zs.length : Int) := by omega
   have hge : (0 : Int) ≤ (k : Int) := by omega
   clear hcell hcell2 hc hc2
   go_wp2
   go_quiet (fail)
   go_wp2
   go_roundw
   case rel => exact ⟨k + 1, by omega, by go_num, below_drewN hbw _⟩
   case measure => simp [intOf]; omega
  ·go_wp2
   go_ret
   exact ⟨rfl, hbw⟩

/-- n numbers, rising by one from k on. -/
def zdu (k : Int) (n : Nat) : List Int := (List.range n).map (fun (i : Nat) => k + (i : Int))
theorem zbf (k : Int) (n : Nat) : (zdu k n).length = n := by simp [zdu]
theorem marks_at (k : Int) (n i : Nat) (h : i < (zdu k n).length) : (zdu k n)[i] = k + (i : Int) := by simp [zdu]

theorem zvf {zs : List Value} {j : Nat} {u : Value} {i : Nat} (hi : i < zs.length) : (zs.set j u)[i]? = if i = j then some u else zs[i]? := by
 by_cases e : i = j
 ·subst e; simp [hi]
 ·simp [e, show ¬ j = i from fun h => e h.symm]

set_option maxHeartbeats 1000000 in
/-- A slice of the call's own is marked: number by number, and nothing else is written. -/
theorem zgd {e0 : TypeId} (v : Value) (n : Nat) (xs : List Value) (k0 : Int) (lo hi : Nat) (w : World) (h : Row w e0 1 lo hi v n xs) (hx : ∀ u ∈ xs, ∃ z, u = .int .i64 z) (hn : n ≤ 2147483648) (h0 : 0 ≤ k0) (h1 : k0 ≤ 1099511627776) :
  Calls Tryz.prog 70 #[v, .int .i64 k0] w fun e w' => e = .returned (.int .i64 (k0 + n)) ∧ Row w' e0 1 lo hi v n (zca (zdu k0 n)) ∧ w.grownBy w' v.ownBlock ∧ w'.heap.size = w.heap.size := by
 obtain ⟨hlen, ao, cap, rfl, hcap, hc⟩ := h.rd
 go_enter Tryz.func70, Tryz.ntmps70
 go_wp2
 go_loopw [1, 5] (fun c i wr => ∃ k : Nat, k ≤ n ∧ i = .int .i64 k ∧ c = .int .i64 (k0 + k) ∧ (∃ ys : List Value, Row wr e0 1 lo hi (.slice ao n cap) n ys ∧ (∀ u ∈ ys, ∃ z, u = .int .i64 z) ∧ ∀ j, j < k → ys[j]? = some (.int .i64 (k0 + j))) ∧ w.grownBy wr (Value.slice ao n cap).ownBlock ∧ wr.heap.size = w.heap.size) (fun _ i _ => n - (intOf i).toNat)
 case atStart => exact ⟨0, by omega, rfl, by simp, ⟨xs, h, hx, fun j hj => absurd hj (by omega)⟩, World.grownBy.refl _ _, rfl⟩
 case round =>
  obtain ⟨k, hk, rfl, rfl, ⟨ys, hrow, hys, hd⟩, hout, hz⟩ := hrel
  clear h hx hc hlen
  by_cases hlt : k < n
  ·obtain ⟨hlen, ao', cap', e', _, hc⟩ := hrow.rd
   cases e'
   obtain ⟨b, o, rfl, hbl, hcell⟩ := hc (by omega)
   have hb1 : lo ≤ b ∧ b < hi := ⟨(hrow.1.lt b rfl).1, hrow.2 b rfl⟩
   have ho : o = 0 := by
    rcases hrow.1.2 with ⟨e, _⟩ | ⟨g, cp, cur, e, _⟩
    ·cases e
    ·cases e; rfl
   subst ho
   have hyl : k < ys.length := by omega
   obtain ⟨z, hz0⟩ := hys ys[k] (List.getElem_mem hyl)
   have hck : wr.cell? ⟨b, k, none⟩ = some (.int .i64 z) := by
    have := hcell k (by omega)
    rw [Nat.zero_add, List.getElem?_eq_getElem hyl, hz0] at this
    exact this
   have hfr : wr.frozen? ⟨b, k, none⟩ = false := hrow.1.frozenAt k
   have RH := zaa (World.ownsRow.stored hrow.1 k (.int .i64 (k0 + k))).1
   have OH := zaa (zbt hout (a := ⟨b, k, none⟩) rfl (.int .i64 (k0 + k)))
   have YH := zaa hys
   have DH := zaa hd
   have LH := zaa hrow.2
   clear hrow hys hd hcell hc hz0
   go_wp2
   go_roundw
   case rel =>
    refine ⟨k + 1, by omega, by go_num, by go_num, ⟨ys.set k (.int .i64 (k0 + k)), ⟨RH.out, LH.out⟩, fun u hu => ?_, fun j hj => ?_⟩, OH.out, by simp [hz]⟩
    ·rcases List.mem_or_eq_of_mem_set hu with hu | rfl
     ·exact YH.out u hu
     ·exact ⟨_, rfl⟩
    ·rw [zvf (by omega)]
     split
     ·rename_i e; rw [e]
     ·exact DH.out j (by omega)
   case measure => simp [intOf]; omega
  ·have e : k = n := by omega
   subst e
   have RH := zaa hrow
   have DH := zaa hd
   clear hrow hys hd
   go_wp2
   go_ret
   have e : ys = zca (zdu k0 k) := by
    apply List.ext_getElem?
    intro j
    by_cases hj : j < k
    ·rw [DH.out j hj, zck _ j (by rw [zbf]; exact hj), marks_at]
    ·have hyl := RH.out.1.1
     rw [List.getElem?_eq_none (by omega), List.getElem?_eq_none (by rw [zow, zbf]; omega)]
   exact ⟨rfl, e ▸ RH.out, hout, hz⟩

set_option maxHeartbeats 1000000 in
/-- Marks are found where they were laid. -/
theorem zfm (v : Value) (n : Nat) (k0 : Int) (w : World) (h : RdI w v (zdu k0 n)) (hn : n ≤ 2147483648) (h0 : 0 ≤ k0) (h1 : k0 ≤ 1099511627776) :
  Calls Tryz.prog 73 #[v, .int .i64 k0] w fun e w' => e = .returned (.int .i64 (k0 + n)) ∧ w' = w := by
 obtain ⟨ao, cap, rfl, hcap, hc⟩ := h.shape
 simp only [zbf] at hcap hc ⊢
 clear h
 go_enter Tryz.func73, Tryz.ntmps73
 go_wp2
 go_loop [1, 5] (fun c i => ∃ k : Nat, k ≤ n ∧ i = .int .i64 k ∧ c = .int .i64 (k0 + k)) (fun _ i => n - (intOf i).toNat)
 case atStart => exact ⟨0, by omega, rfl, by simp⟩
 case round =>
  obtain ⟨k, hk, rfl, rfl⟩ := hrel
  by_cases hlt : k < n
  ·obtain ⟨b, o, rfl, hbl, hcell⟩ := hc (by omega)
   have hck : w.cell? ⟨b, o + k, none⟩ = some (.int .i64 (k0 + k)) := by rw [hcell k hlt, marks_at]
   clear hcell hc
   go_wp2
   go_round
   case rel => exact ⟨k + 1, by omega, by go_num, by go_num⟩
   case measure => simp [intOf]; omega
  ·have e : k = n := by omega
   subst e
   go_wp2
   go_ret
   exact ⟨rfl, rfl⟩

/-- What is left when n is taken away, or -1. -/
def zfj (left : Int) (n : Nat) : Int := if left < n then -1 else left - n
theorem zcz (ao : Option Addr) (n cap : Nat) (left : Int) (w : World) (hn : n ≤ maxLen) (h0 : 0 ≤ left) (h1 : left ≤ 1048576) :
  Calls Tryz.prog 38 #[.slice ao n cap, .int .i64 left] w fun e w' => e = .returned (.int .i64 (zfj left n)) ∧ w' = w := by
 unfold maxLen at hn
 by_cases h : left < n
 ·have e : zfj left n = -1 := by unfold zfj; rw [if_pos h]
  rw [e]; clear e
  go_enter Tryz.func38, Tryz.ntmps38
  go_wp2
  go_ret
  exact ⟨rfl, rfl⟩
 ·have e : zfj left n = left - n := by unfold zfj; rw [if_neg h]
  rw [e]; clear e
  go_enter Tryz.func38, Tryz.ntmps38
  go_wp2
  go_ret
  exact ⟨rfl, rfl⟩

theorem zem (zs : List Int) : ∀ u ∈ zca zs, u.oneCell' = true := ints_oneCell _ zs
theorem RdI.form {w : World} {v : Value} {zs : List Int} (h : RdI w v zs) {n : Nat} (hn : zs.length = n) : ∃ ao cap, v = .slice ao n cap := by
 obtain ⟨ao, cap, e, _⟩ := h.shape
 exact ⟨ao, cap, by rw [← hn]; exact e⟩
theorem zwx (zs : List Int) (j : Nat) (x : Int) : (zca zs).set j (.int .i64 x) = zca (zs.set j x) := by simp [zca, List.map_set]
theorem ints_snoc (zs : List Int) (x : Int) : zca (zs ++ [x]) = zca zs ++ [.int .i64 x] := by simp [zca]
/-- One number, laid in a block of its own, as a slice of one. -/
theorem rd_int (w1 : World) (x : Int) : Rd (w1.alloc (.cells #[.int .i64 x] 3)) 1 (.slice (some ⟨w1.heap.size, 0, none⟩) 1 1) 1 [.int .i64 x] := by
 refine ⟨rfl, _, _, rfl, ⟨Nat.le_refl _, fun e => by cases e⟩, fun _ => ⟨w1.heap.size, 0, rfl, by simp, fun j hj => ?_⟩⟩
 have hj0 : j = 0 := by omega
 subst hj0
 have e := zah (w := w1) (o := .cells #[.int .i64 x] 3) rfl
 simp only [World.cell?, Nat.add_zero]
 rw [e]
 rfl
end Go.Proofs.YtipklbnfobckaaaGreatDoor

namespace Go.Proofs.YtipklbnfobckaaaGreatDoor
open Go.RowKit

/-- A store that is not sure: where, what, and whether it is flushed. -/
structure St where
 at_ : Int
 val : Int
 fl : Bool
deriving DecidableEq

def St.cells (s : St) : List Value := [.int .i64 s.at_, .int .i64 s.val, .bool s.fl]
def sts (ps : List St) : List Value := ps.flatMap St.cells

theorem St.cells_len (s : St) : s.cells.length = 3 := rfl
theorem sts_len (ps : List St) : (sts ps).length = ps.length * 3 := zfh _ 3 St.cells_len ps
theorem zjm (ps : List St) (k : Nat) (h : k < ps.length) : (sts ps)[k * 3]? = some (.int .i64 ps[k].at_) := zbc _ 3 St.cells_len ps k 0 h (by omega)
theorem zpp (ps : List St) (k : Nat) (h : k < ps.length) : (sts ps)[k * 3 + 1]? = some (.int .i64 ps[k].val) := zbc _ 3 St.cells_len ps k 1 h (by omega)
theorem zpx (ps : List St) (k : Nat) (h : k < ps.length) : (sts ps)[k * 3 + 2]? = some (.bool ps[k].fl) := zbc _ 3 St.cells_len ps k 2 h (by omega)

/-- A slice of stores that can be read. -/
def RdS (w : World) (v : Value) (ps : List St) : Prop := Rd w 3 v ps.length (sts ps)
theorem RdS.shape {w : World} {v : Value} {ps : List St} (h : RdS w v ps) : ∃ ao cap, v = .slice ao ps.length cap ∧ ps.length ≤ cap ∧ (0 < ps.length → ∃ b o, ao = some ⟨b, o, none⟩ ∧ b < w.heap.size ∧
  ∀ k (h : k < ps.length), w.cell? ⟨b, o + k * 3, none⟩ = some (.int .i64 ps[k].at_) ∧ w.cell? ⟨b, o + k * 3 + 1, none⟩ = some (.int .i64 ps[k].val) ∧ w.cell? ⟨b, o + k * 3 + 2, none⟩ = some (.bool ps[k].fl)) := by
 obtain ⟨_, ao, cap, rfl, h2, h3⟩ := h
 refine ⟨ao, cap, rfl, h2.1, fun hn => ?_⟩
 obtain ⟨b, o, rfl, hb, hc⟩ := h3 hn
 exact ⟨b, o, rfl, hb, fun k hk => ⟨(hc (k * 3) (by omega)).trans (zjm ps k hk), (hc (k * 3 + 1) (by omega)).trans (zpp ps k hk), (hc (k * 3 + 2) (by omega)).trans (zpx ps k hk)⟩⟩

theorem info52 : (Tryz.prog.info? 165).map (fun i => (i.zero, i.size, i.bytes)) = some (some (.agg #[.int .i64 0, .int .i64 0, .bool false]), 3, 24) := by kernel_rfl

set_option maxHeartbeats 1000000 in
theorem zwn (a v : Int) (f : Bool) (w : World) : Calls Tryz.prog 220 #[.agg #[.int .i64 a, .int .i64 v, .bool f]] w fun e w' => e = .returned (.agg #[.int .i64 a, .int .i64 v, .bool f]) ∧ Below w.heap.size w w' := by
 go_enter Tryz.func220, Tryz.ntmps220
 go_wp2
 refine bodyPost_ret (v := .agg #[.int .i64 a, .int .i64 v, .bool f]) (by simp [results, Tryz.results220, go_sem]) rfl ⟨rfl, ?_⟩
 repeat (refine Below.alloc ?_ (by simp <;> omega) _)
 exact Below.refl _ _

/-- Three cells laid at element k. -/
def put3 (ys : List Value) (k : Nat) (a b c : Value) : List Value := ((ys.set (k * 3) a).set (k * 3 + 1) b).set (k * 3 + 2) c
theorem put3_len (ys : List Value) (k : Nat) (a b c : Value) : (put3 ys k a b c).length = ys.length := by simp [put3]
theorem zfd {ys : List Value} {k : Nat} {a b c : Value} {j : Nat} (hj : j < ys.length) : (put3 ys k a b c)[j]? = if j = k * 3 + 2 then some c else if j = k * 3 + 1 then some b else if j = k * 3 then some a else ys[j]? := by
 unfold put3
 rw [zlc (by simpa using hj), zlc (by simpa using hj), zlc hj]
theorem ztr {ys : List Value} {ps : List St} {k : Nat} (hk : k < ps.length) (hl : ys.length = ps.length * 3) (h : ∀ j, j < k * 3 → ys[j]? = (sts ps)[j]?) :
  ∀ j, j < (k + 1) * 3 → (put3 ys k (.int .i64 ps[k].at_) (.int .i64 ps[k].val) (.bool ps[k].fl))[j]? = (sts ps)[j]? := by
 intro j hj
 rw [zfd (by omega)]
 split
 ·rename_i e; rw [e, zpx ps k hk]
 ·split
  ·rename_i e; rw [e, zpp ps k hk]
  ·split
   ·rename_i e; rw [e, zjm ps k hk]
   ·exact h j (by omega)
theorem sts_all {ys : List Value} {ps : List St} (hl : ys.length = ps.length * 3) (h : ∀ j, j < ps.length * 3 → ys[j]? = (sts ps)[j]?) : ys = sts ps := by
 apply List.ext_getElem?
 intro j
 by_cases hj : j < ps.length * 3
 ·exact h j hj
 ·rw [List.getElem?_eq_none (by omega), List.getElem?_eq_none (by rw [sts_len]; omega)]
theorem Row.put3 {w : World} {e : TypeId} {lo hi : Nat} {b n cap : Nat} {ys : List Value} (h : Row w e 3 lo hi (.slice (some ⟨b, 0, none⟩) n cap) n ys) (k : Nat) (x y z : Value) :
  Row (((w.setCell ⟨b, k * 3, none⟩ x).setCell ⟨b, k * 3 + 1, none⟩ y).setCell ⟨b, k * 3 + 2, none⟩ z) e 3 lo hi (.slice (some ⟨b, 0, none⟩) n cap) n (put3 ys k x y z) :=
 ((h.stored (k * 3) x).stored (k * 3 + 1) y).stored (k * 3 + 2) z

set_option maxHeartbeats 1000000 in
theorem ztz (v : Value) (ps : List St) (w : World) (h : RdS w v ps) (hn : ps.length ≤ 1048576) :
  Calls Tryz.prog 154 #[v] w fun e w' => ∃ v', e = .returned v' ∧ Row w' 165 3 w.heap.size w'.heap.size v' ps.length (sts ps) ∧ Below w.heap.size w w' := by
 obtain ⟨ao, cap, rfl, hcap, hc⟩ := h.shape
 clear h
 have hmk := zfe (P := Tryz.prog) 39 165 (.agg #[.int .i64 0, .int .i64 0, .bool false]) 3 24 Tryz.underlying39 info52 .i64 .i64 ps.length (by omega) (by omega)
 go_enter Tryz.func154, Tryz.ntmps154
 go_wp2
 go_loopw [4] (fun i wr => ∃ k : Nat, k ≤ ps.length ∧ i = .int .i64 k ∧ (∃ ys, Row wr 165 3 w.heap.size (w.heap.size + 1) (.slice (some ⟨w.heap.size, 0, none⟩) ps.length ps.length) ps.length ys ∧ ∀ j, j < k * 3 → ys[j]? = (sts ps)[j]?) ∧ Below w.heap.size w wr ∧ w.heap.size + 1 ≤ wr.heap.size) (fun i _ => ps.length - (intOf i).toNat)
 case atStart =>
  refine ⟨0, by omega, rfl, ⟨_, zpe w (.agg #[.int .i64 0, .int .i64 0, .bool false]) 3 ps.length 165 (by simp [maxLen]; omega), fun j hj => absurd hj (by omega)⟩, (Below.refl _ _).alloc (Nat.le_refl _) _, by simp⟩
 case round =>
  obtain ⟨k, hk, rfl, ⟨ys, hrow, hys⟩, hb, hz⟩ := hrel
  by_cases hlt : k < ps.length
  ·obtain ⟨b, o, rfl, hbl, hcell⟩ := hc (by omega)
   obtain ⟨c0, c1, c2⟩ := hcell k hlt
   have d0 := (hb.cell (p := ⟨b, o + k * 3, none⟩) hbl).trans c0
   have d1 := (hb.cell (p := ⟨b, o + k * 3 + 1, none⟩) hbl).trans c1
   have d2 := (hb.cell (p := ⟨b, o + k * 3 + 2, none⟩) hbl).trans c2
   have RH := zaa hrow
   have YH := zaa hys
   clear hcell hc c0 c1 c2 hrow hys
   go_wp2_with fail
   refine (zwn _ _ _ _).mono ?_
   rintro e w1 ⟨rfl, hb1⟩
   have R1 := zaa (RH.out.below hb1 (by omega))
   obtain ⟨_, _, _, hsz, hfr, hcl⟩ := R1.out.at
   have hl := RH.out.len
   have f0 := hfr (k * 3)
   have f1 := hfr (k * 3 + 1)
   have f2 := hfr (k * 3 + 2)
   have e0 : w1.cell? ⟨w.heap.size, k * 3, none⟩ = some (ys[k * 3]'(by omega)) := by rw [hcl _ (by omega)]; simp
   have e1 : w1.cell? ⟨w.heap.size, k * 3 + 1, none⟩ = some (ys[k * 3 + 1]'(by omega)) := by rw [hcl _ (by omega)]; simp
   have e2 : w1.cell? ⟨w.heap.size, k * 3 + 2, none⟩ = some (ys[k * 3 + 2]'(by omega)) := by rw [hcl _ (by omega)]; simp
   have BH := zaa (hb.trans (hb1.mono (show w.heap.size ≤ wr.heap.size by omega)))
   have hz1 := hb1.size
   clear hfr hcl hb1 hb d0 d1 d2
   have P1 := zaa (R1.out.put3 k (.int .i64 ps[k].at_) (.int .i64 ps[k].val) (.bool ps[k].fl))
   have B1 := zaa (((BH.out.setCell (p := ⟨w.heap.size, k * 3, none⟩) (Nat.le_refl _) (.int .i64 ps[k].at_)).setCell (p := ⟨w.heap.size, k * 3 + 1, none⟩) (Nat.le_refl _) (.int .i64 ps[k].val)).setCell (p := ⟨w.heap.size, k * 3 + 2, none⟩) (Nat.le_refl _) (.bool ps[k].fl))
   go_wp2
   go_roundw
   case rel => exact ⟨k + 1, by omega, by go_num, ⟨_, P1.out, ztr hlt hl YH.out⟩, B1.out, by simp; omega⟩
   case measure => simp [intOf]; omega
  ·have e : k = ps.length := by omega
   subst e
   have hl := hrow.len
   have RH := zaa hrow
   have YH := zaa hys
   clear hrow hys hc
   go_wp2
   go_ret
   have e := sts_all hl YH.out
   refine ⟨_, rfl, ?_, hb⟩
   rw [← e]
   exact RH.out.wide (Nat.le_refl _) hz

theorem zjt (ao : Option Addr) (n cap : Nat) (left : Int) (w : World) (hn : n ≤ maxLen) (h0 : 0 ≤ left) (h1 : left ≤ 1048576) :
  Calls Tryz.prog 145 #[.slice ao n cap, .int .i64 left] w fun e w' => e = .returned (.int .i64 (zfj left n)) ∧ w' = w := by
 unfold maxLen at hn
 by_cases h : left < n
 ·have e : zfj left n = -1 := by unfold zfj; rw [if_pos h]
  rw [e]; clear e
  go_enter Tryz.func145, Tryz.ntmps145
  go_wp2
  go_ret
  exact ⟨rfl, rfl⟩
 ·have e : zfj left n = left - n := by unfold zfj; rw [if_neg h]
  rw [e]; clear e
  go_enter Tryz.func145, Tryz.ntmps145
  go_wp2
  go_ret
  exact ⟨rfl, rfl⟩

set_option maxHeartbeats 1000000 in
theorem zrr (a v : Int) (f : Bool) (w : World) : Calls Tryz.prog 235 #[.agg #[.int .i64 a, .int .i64 v, .bool f], .agg #[.int .i64 a, .int .i64 v, .bool f]] w fun e w' => e = .returned (.bool true) ∧ Below w.heap.size w w' := by
 go_enter Tryz.func235, Tryz.ntmps235
 go_wp2
 go_ret
 refine ⟨rfl, ?_⟩
 repeat (refine Below.alloc ?_ (by simp <;> omega) _)
 exact Below.refl _ _
end Go.Proofs.YtipklbnfobckaaaGreatDoor

namespace Go.Proofs.YtipklbnfobckaaaGreatDoor
open Go.RowKit

set_option maxHeartbeats 2000000 in
/-- Two slices of stores that read alike are found alike. -/
theorem zqb (va vb : Value) (ps : List St) (w : World) (ha : RdS w va ps) (hb : RdS w vb ps) (hn : ps.length ≤ 2147483648) :
  Calls Tryz.prog 171 #[va, vb] w fun e w' => e = .returned (.bool true) ∧ Below w.heap.size w w' := by
 obtain ⟨ao, cap, rfl, hcap, hc⟩ := ha.shape
 obtain ⟨ao2, cap2, rfl, hcap2, hc2⟩ := hb.shape
 clear ha hb
 go_enter Tryz.func171, Tryz.ntmps171
 go_wp2
 go_loopw [5] (fun i wr => ∃ k : Nat, k ≤ ps.length ∧ i = .int .i64 k ∧ Below w.heap.size w wr) (fun i _ => ps.length - (intOf i).toNat)
 case atStart => exact ⟨0, by omega, rfl, Below.refl _ _⟩
 case round =>
  obtain ⟨k, hk, rfl, hbw⟩ := hrel
  by_cases hlt : k < ps.length
  ·obtain ⟨b, o, rfl, hbl, hcell⟩ := hc (by omega)
   obtain ⟨b2, o2, rfl, hbl2, hcell2⟩ := hc2 (by omega)
   obtain ⟨c0, c1, c2⟩ := hcell k hlt
   obtain ⟨c3, c4, c5⟩ := hcell2 k hlt
   have d0 := (hbw.cell (p := ⟨b, o + k * 3, none⟩) hbl).trans c0
   have d1 := (hbw.cell (p := ⟨b, o + k * 3 + 1, none⟩) hbl).trans c1
   have d2 := (hbw.cell (p := ⟨b, o + k * 3 + 2, none⟩) hbl).trans c2
   have d3 := (hbw.cell (p := ⟨b2, o2 + k * 3, none⟩) hbl2).trans c3
   have d4 := (hbw.cell (p := ⟨b2, o2 + k * 3 + 1, none⟩) hbl2).trans c4
   have d5 := (hbw.cell (p := ⟨b2, o2 + k * 3 + 2, none⟩) hbl2).trans c5
   have hlt' : (k : Int) < (ps.length : Int) := by omega
   have hge : (0 : Int) ≤ (k : Int) := by omega
   have hz := hbw.size
   clear hcell hcell2 hc hc2 c0 c1 c2 c3 c4 c5
   go_wp2_with fail
   go_region_with (go_at_call 235; refine (zrr _ _ _ _).mono ?_; rintro e w1 ⟨rfl, hb1⟩)
   all_goals
    go_wp2
    go_roundw
    case rel => exact ⟨k + 1, by omega, by go_num, hbw.trans (Below.mono (Below.trans ((Below.refl _ _).drew) ‹_›) hz)⟩
    case measure => simp [intOf]; omega
  ·go_wp2
   go_ret
   exact ⟨rfl, hbw⟩

/-- The i-th of the zdu from k on. -/
def markS (k : Int) (i : Nat) : St := ⟨k + 3 * (i : Int), k + 3 * (i : Int) + 1, (k + 3 * (i : Int) + 1 + 1) % 3 == 0⟩
def zdh (k : Int) (n : Nat) : List St := (List.range n).map (markS k)
theorem zbj (k : Int) (n : Nat) : (zdh k n).length = n := by simp [zdh]
theorem zte (k : Int) (n i : Nat) (h : i < (zdh k n).length) : (zdh k n)[i] = markS k i := by simp [zdh]

/-- Cells of stores: numbers and bools, in their turn. -/
def IsSts (xs : List Value) (n : Nat) : Prop := ∀ k, k < n → ∃ a b c, xs[k * 3]? = some (.int .i64 a) ∧ xs[k * 3 + 1]? = some (.int .i64 b) ∧ xs[k * 3 + 2]? = some (.bool c)
theorem isSts (ps : List St) : IsSts (sts ps) ps.length := fun k hk => ⟨_, _, _, zjm ps k hk, zpp ps k hk, zpx ps k hk⟩
theorem IsSts.put3 {ys : List Value} {n : Nat} (h : IsSts ys n) (hl : ys.length = n * 3) (k : Nat) (a b : Int) (c : Bool) : IsSts (put3 ys k (.int .i64 a) (.int .i64 b) (.bool c)) n := by
 intro j hj
 rw [zfd (by omega), zfd (by omega), zfd (by omega)]
 by_cases e : j = k
 ·subst e
  exact ⟨a, b, c, by simp, by simp, by simp⟩
 ·obtain ⟨x, y, z, h0, h1, h2⟩ := h j hj
  refine ⟨x, y, z, ?_, ?_, ?_⟩
  ·rw [if_neg (by omega), if_neg (by omega), if_neg (by omega)]; exact h0
  ·rw [if_neg (by omega), if_neg (by omega), if_neg (by omega)]; exact h1
  ·rw [if_neg (by omega), if_neg (by omega), if_neg (by omega)]; exact h2

set_option maxHeartbeats 2000000 in
/-- A slice of stores of the call's own is marked, and nothing else is written. -/
theorem zni (v : Value) (n : Nat) (xs : List Value) (k0 : Int) (lo hi : Nat) (w : World) (h : Row w 165 3 lo hi v n xs) (hx : IsSts xs n) (hn : n ≤ 2147483648) (h0 : 0 ≤ k0) (h1 : k0 ≤ 1099511627776) :
  Calls Tryz.prog 194 #[v, .int .i64 k0] w fun e w' => e = .returned (.int .i64 (k0 + 3 * n)) ∧ Row w' 165 3 lo hi v n (sts (zdh k0 n)) ∧ w.grownBy w' v.ownBlock ∧ w'.heap.size = w.heap.size := by
 obtain ⟨hlen, ao, cap, rfl, hcap, hc⟩ := h.rd
 go_enter Tryz.func194, Tryz.ntmps194
 go_wp2
 go_loopw [1, 5] (fun c i wr => ∃ k : Nat, k ≤ n ∧ i = .int .i64 k ∧ c = .int .i64 (k0 + 3 * k) ∧ (∃ ys : List Value, Row wr 165 3 lo hi (.slice ao n cap) n ys ∧ IsSts ys n ∧ ∀ j, j < k * 3 → ys[j]? = (sts (zdh k0 n))[j]?) ∧ w.grownBy wr (Value.slice ao n cap).ownBlock ∧ wr.heap.size = w.heap.size) (fun _ i _ => n - (intOf i).toNat)
 case atStart => exact ⟨0, by omega, rfl, by simp, ⟨xs, h, hx, fun j hj => absurd hj (by omega)⟩, World.grownBy.refl _ _, rfl⟩
 case round =>
  obtain ⟨k, hk, rfl, rfl, ⟨ys, hrow, hys, hd⟩, hout, hz⟩ := hrel
  clear h hx hc hlen
  by_cases hlt : k < n
  ·obtain ⟨hlen, ao', cap', e', _, hc⟩ := hrow.rd
   cases e'
   obtain ⟨b, o, rfl, hbl, _⟩ := hc (by omega)
   obtain ⟨rfl, hb1, hb2, _, hfr, hcl⟩ := hrow.at
   obtain ⟨x, y, z, q0, q1, q2⟩ := hys k hlt
   have f0 := hfr (k * 3)
   have f1 := hfr (k * 3 + 1)
   have f2 := hfr (k * 3 + 2)
   have e0 := (hcl (k * 3) (by omega)).trans q0
   have e1 := (hcl (k * 3 + 1) (by omega)).trans q1
   have e2 := (hcl (k * 3 + 2) (by omega)).trans q2
   have PH := zaa (hrow.put3 k (.int .i64 (k0 + 3 * k)) (.int .i64 (k0 + 3 * k + 1)) (.bool ((k0 + 3 * k + 1 + 1) % 3 == 0)))
   have OH := zaa (zbt (zbt (zbt hout (a := ⟨b, k * 3, none⟩) rfl (.int .i64 (k0 + 3 * k))) (a := ⟨b, k * 3 + 1, none⟩) rfl (.int .i64 (k0 + 3 * k + 1))) (a := ⟨b, k * 3 + 2, none⟩) rfl (.bool ((k0 + 3 * k + 1 + 1) % 3 == 0)))
   have IH := zaa (hys.put3 hlen k (k0 + 3 * k) (k0 + 3 * k + 1) ((k0 + 3 * k + 1 + 1) % 3 == 0))
   have DH : Hid (∀ j, j < (k + 1) * 3 → (put3 ys k (.int .i64 (k0 + 3 * k)) (.int .i64 (k0 + 3 * k + 1)) (.bool ((k0 + 3 * k + 1 + 1) % 3 == 0)))[j]? = (sts (zdh k0 n))[j]?) := by
    have hk' : k < (zdh k0 n).length := by rw [zbj]; exact hlt
    have := ztr (ps := zdh k0 n) hk' (by rw [zbj]; exact hlen) hd
    rw [zte] at this
    exact this
   clear hrow hys hd hc hfr hcl q0 q1 q2
   go_wp2
   go_roundw
   case rel => exact ⟨k + 1, by omega, by go_num, by go_num, ⟨_, PH.out, IH.out, DH.out⟩, OH.out, by simp [hz]⟩
   case measure => simp [intOf]; omega
  ·have e : k = n := by omega
   subst e
   have hl := hrow.len
   have RH := zaa hrow
   have DH := zaa hd
   clear hrow hys hd
   go_wp2
   go_ret
   have e := sts_all (ps := zdh k0 k) (by rw [zbj]; exact hl) (by rw [zbj]; exact DH.out)
   exact ⟨rfl, e ▸ RH.out, hout, hz⟩

set_option maxHeartbeats 2000000 in
theorem znc (v : Value) (n : Nat) (k0 : Int) (w : World) (h : RdS w v (zdh k0 n)) (hn : n ≤ 2147483648) (h0 : 0 ≤ k0) (h1 : k0 ≤ 1099511627776) :
  Calls Tryz.prog 196 #[v, .int .i64 k0] w fun e w' => e = .returned (.int .i64 (k0 + 3 * n)) ∧ w' = w := by
 obtain ⟨ao, cap, rfl, hcap, hc⟩ := h.shape
 simp only [zbj] at hcap hc ⊢
 clear h
 go_enter Tryz.func196, Tryz.ntmps196
 go_wp2
 go_loop [1, 5] (fun c i => ∃ k : Nat, k ≤ n ∧ i = .int .i64 k ∧ c = .int .i64 (k0 + 3 * k)) (fun _ i => n - (intOf i).toNat)
 case atStart => exact ⟨0, by omega, rfl, by simp⟩
 case round =>
  obtain ⟨k, hk, rfl, rfl⟩ := hrel
  by_cases hlt : k < n
  ·obtain ⟨b, o, rfl, hbl, hcell⟩ := hc (by omega)
   obtain ⟨c0, c1, c2⟩ := hcell k hlt
   rw [zte] at c0 c1 c2
   simp only [markS] at c0 c1 c2
   clear hcell hc
   go_wp2
   go_round
   case rel => exact ⟨k + 1, by omega, by go_num, by go_num⟩
   case measure => simp [intOf]; omega
  ·have e : k = n := by omega
   subst e
   go_wp2
   go_ret
   exact ⟨rfl, rfl⟩
end Go.Proofs.YtipklbnfobckaaaGreatDoor
