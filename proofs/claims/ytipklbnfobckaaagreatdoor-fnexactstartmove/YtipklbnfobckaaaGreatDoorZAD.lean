/- Several texts laid together: Blk, BlkT, Word, PmOK, BlkOK. -/
import Derived.Test.YtipklbnfobckaaaGreatDoorZAC
import Derived.Test.YtipklbnfobckaaaGreatDoorZAB
namespace Go.Proofs.YtipklbnfobckaaaGreatDoor
open Go.RowKit

/-- A device that can be read: its words, and its writes. -/
def RdBlk (w : World) (v : Value) (ws : List Int) (ps : List Se) : Prop := ∃ vW vP, v = .agg #[vW, vP] ∧ RdI w vW ws ∧ RdE w vP ps
/-- A slice of numbers of a call's own, in a block of numbers or in an array's. -/
def RowZ (w : World) (lo hi : Nat) (v : Value) (n : Nat) (xs : List Value) : Prop := ∃ e, e ≠ 167 ∧ Row w e 1 lo hi v n xs
theorem RowZ.rd {w : World} {lo hi : Nat} {v : Value} {n : Nat} {xs : List Value} (h : RowZ w lo hi v n xs) : Rd w 1 v n xs := by
 obtain ⟨_, _, h⟩ := h
 exact h.rd
theorem RowZ.same {w w' : World} {lo hi : Nat} {v : Value} {n : Nat} {xs : List Value} (h : RowZ w lo hi v n xs) (hs : ∀ b, lo ≤ b → b < hi → w'.heap[b]? = w.heap[b]?) : RowZ w' lo hi v n xs := by
 obtain ⟨e, he, h⟩ := h
 exact ⟨e, he, h.same hs⟩
theorem RowZ.below {w w' : World} {lo hi : Nat} {v : Value} {n : Nat} {xs : List Value} (h : RowZ w lo hi v n xs) {B : Nat} (hb : Below B w w') (hB : hi ≤ B) : RowZ w' lo hi v n xs := by
 obtain ⟨e, he, h⟩ := h
 exact ⟨e, he, h.below hb hB⟩
theorem RowZ.outside {w w' : World} {lo hi : Nat} {v : Value} {n : Nat} {xs : List Value} (h : RowZ w lo hi v n xs) {lo' hi' : Nat} (ho : Outside lo' hi' w w') (hd : hi ≤ lo' ∨ hi' ≤ lo) (hz : hi ≤ w.heap.size) : RowZ w' lo hi v n xs := by
 obtain ⟨e, he, h⟩ := h
 exact ⟨e, he, h.outside ho hd hz⟩
theorem RowZ.wide {w : World} {lo hi : Nat} {v : Value} {n : Nat} {xs : List Value} (h : RowZ w lo hi v n xs) {lo' hi' : Nat} (h1 : lo' ≤ lo) (h2 : hi ≤ hi') : RowZ w lo' hi' v n xs := by
 obtain ⟨e, he, h⟩ := h
 exact ⟨e, he, h.wide h1 h2⟩
theorem RowZ.nil (w : World) (lo hi : Nat) : RowZ w lo hi (.slice none 0 0) 0 [] := ⟨3, by decide, Row.nil _ _ _ _ _⟩
theorem Row.z {w : World} {lo hi : Nat} {v : Value} {n : Nat} {xs : List Value} (h : Row w 3 1 lo hi v n xs) : RowZ w lo hi v n xs := ⟨3, by decide, h⟩
/-- A device of a call's own. -/
def RowBlk (w : World) (lo hi : Nat) (v : Value) (ws : List Int) (ps : List Se) : Prop := ∃ vW vP, v = .agg #[vW, vP] ∧ RowZ w lo hi vW ws.length (zca ws) ∧ Row w 167 2 lo hi vP ps.length (ses ps)

theorem RowBlk.rd {w : World} {lo hi : Nat} {v : Value} {ws : List Int} {ps : List Se} (h : RowBlk w lo hi v ws ps) : RdBlk w v ws ps := by
 obtain ⟨vW, vP, rfl, h1, h2⟩ := h
 exact ⟨vW, vP, rfl, h1.rd, h2.rd⟩
theorem RdBlk.below {w w' : World} {v : Value} {ws : List Int} {ps : List Se} (h : RdBlk w v ws ps) (hb : Below w.heap.size w w') : RdBlk w' v ws ps := by
 obtain ⟨vW, vP, rfl, h1, h2⟩ := h
 exact ⟨vW, vP, rfl, Rd.below h1 hb, Rd.below h2 hb⟩
theorem RowBlk.below {w w' : World} {lo hi : Nat} {v : Value} {ws : List Int} {ps : List Se} (h : RowBlk w lo hi v ws ps) {B : Nat} (hb : Below B w w') (hB : hi ≤ B) : RowBlk w' lo hi v ws ps := by
 obtain ⟨vW, vP, rfl, h1, h2⟩ := h
 exact ⟨vW, vP, rfl, h1.below hb hB, h2.below hb hB⟩
theorem RowBlk.outside {w w' : World} {lo hi : Nat} {v : Value} {ws : List Int} {ps : List Se} (h : RowBlk w lo hi v ws ps) {lo' hi' : Nat} (ho : Outside lo' hi' w w') (hd : hi ≤ lo' ∨ hi' ≤ lo) (hz : hi ≤ w.heap.size) : RowBlk w' lo hi v ws ps := by
 obtain ⟨vW, vP, rfl, h1, h2⟩ := h
 exact ⟨vW, vP, rfl, h1.outside ho hd hz, h2.outside ho hd hz⟩
theorem RowBlk.wide {w : World} {lo hi : Nat} {v : Value} {ws : List Int} {ps : List Se} (h : RowBlk w lo hi v ws ps) {lo' hi' : Nat} (h1 : lo' ≤ lo) (h2 : hi ≤ hi') : RowBlk w lo' hi' v ws ps := by
 obtain ⟨vW, vP, rfl, a, b⟩ := h
 exact ⟨vW, vP, rfl, a.wide h1 h2, b.wide h1 h2⟩

set_option maxHeartbeats 2000000 in
theorem toBlk_any (v : Value) (ws : List Int) (ps : List Se) (w : World) (h : RdBlk w v ws ps) (hw : ws.length ≤ 1048576) (hp : ps.length ≤ 1048576) :
  Calls Tryz.prog 100 #[v] w fun e w' => ∃ v', e = .returned v' ∧ RowBlk w' w.heap.size w'.heap.size v' ws ps ∧ Below w.heap.size w w' := by
 obtain ⟨vW, vP, rfl, h1, h2⟩ := h
 have H1 := zaa h1
 have H2 := zaa h2
 obtain ⟨aW, cW, eW, _⟩ := h1.shape
 obtain ⟨aP, cP, eP, _⟩ := h2.shape
 clear h1 h2
 subst eW eP
 go_enter Tryz.func100, Tryz.ntmps100
 go_wp2_with fail
 have hb0 : Below w.heap.size w (((w.alloc (.cells #[.slice aW ws.length cW, .slice aP ps.length cP] 28)).alloc (.cells #[.slice none 0 0, .slice none 0 0] 44)).alloc (.cells #[.slice none 0 0, .slice none 0 0] 44)) := by
  repeat (refine Below.alloc ?_ (by simp <;> omega) _)
  exact Below.refl _ _
 refine (zjj _ ws _ (Rd.below H1.out hb0) hw).mono ?_
 rintro e w1 ⟨v1, rfl, hr1, hb1⟩
 obtain ⟨_, a1, c1, rfl, _⟩ := hr1.rd
 have hz1 : w.heap.size + 3 ≤ w1.heap.size := by have := hb1.size; simp at this; omega
 have V0 := (hb1.block w.heap.size (by simp <;> omega)).trans (zap (zap (zah rfl)))
 have V1 := (hb1.block (w.heap.size + 1) (by simp <;> omega)).trans (zap (zah (by simp)))
 have V2 := (hb1.block (w.heap.size + 1 + 1) (by simp <;> omega)).trans (zah (by simp))
 have B1 := zaa (hb0.trans (hb1.mono (by simp <;> omega)))
 have R1 := zaa hr1
 obtain ⟨x1, x2, _, _⟩ := zad V0
 obtain ⟨y1, y2, y3, y4⟩ := zad V2
 have V2' := zig V2 (.slice a1 ws.length c1)
 have V1' := (Below.heap_setCell w1 ⟨w.heap.size + 1 + 1, 0, none⟩ (.slice a1 ws.length c1) (w.heap.size + 1) (by simp)).trans V1
 have VH := zaa (And.intro V1' V2')
 clear hb0 hb1 hr1 V0 V1 V2 V1' V2'
 go_wp2_with fail
 have hb2 := B1.out.setCell (p := ⟨w.heap.size + 1 + 1, 0, none⟩) (by simp; omega) (.slice a1 ws.length c1)
 refine (zqo _ ps _ (Rd.below H2.out hb2) hp).mono ?_
 rintro e w2 ⟨v2, rfl, hr2, hb3⟩
 obtain ⟨_, a2, c2, rfl, _⟩ := hr2.rd
 have hz2 : w1.heap.size ≤ w2.heap.size := by have := hb3.size; simpa using this
 have V1 := (hb3.block _ (by simp; omega)).trans VH.out.1
 have V2 := (hb3.block _ (by simp; omega)).trans VH.out.2
 have B2 := zaa (hb2.trans (hb3.mono (by simp; omega)))
 have K2 := zaa hb3
 have R2 := zaa hr2
 clear hb2 hb3 hr2
 obtain ⟨z1, z2, z3, z4⟩ := zad V2
 obtain ⟨t1, t2, t3, t4⟩ := zad V1
 clear V1 V2
 go_wp2
 refine bodyPost_ret (v := .agg #[.slice a1 ws.length c1, .slice a2 ps.length c2]) (by simp [results, Tryz.results100, go_sem, t1, t2]) rfl ?_
 refine ⟨_, rfl, ⟨_, _, rfl, ((R1.out.same fun b h1 h2 => ?_).wide (by simp; omega) (by simp; omega)).z, (R2.out.same fun b h1 h2 => ?_).wide (by simp; omega) (by simp)⟩, ?_⟩
 ·simp only [World.size_alloc] at h1
  rw [Below.heap_setCell _ _ _ _ (by simp only; omega), Below.heap_setCell _ _ _ _ (by simp only; omega), Below.heap_setCell _ _ _ _ (by simp only; omega), K2.out.block b (by simp; omega), Below.heap_setCell _ _ _ _ (by simp only; omega)]
 ·simp at h1
  rw [Below.heap_setCell _ _ _ _ (by simp only; omega), Below.heap_setCell _ _ _ _ (by simp only; omega), Below.heap_setCell _ _ _ _ (by simp only; omega)]
 ·exact ((B2.out.setCell (by simp only; omega) _).setCell (by simp only; omega) _).setCell (by simp only; omega) _
end Go.Proofs.YtipklbnfobckaaaGreatDoor

namespace Go.Proofs.YtipklbnfobckaaaGreatDoor
open Go.RowKit

set_option maxHeartbeats 2000000 in
theorem eqBlk_same (va vb : Value) (ws : List Int) (ps : List Se) (w : World) (ha : RdBlk w va ws ps) (hb : RdBlk w vb ws ps) (hw : ws.length ≤ 2147483648) (hp : ps.length ≤ 2147483648) :
  Calls Tryz.prog 114 #[va, vb] w fun e w' => e = .returned (.bool true) ∧ Below w.heap.size w w' := by
 obtain ⟨vW, vP, rfl, h1, h2⟩ := ha
 obtain ⟨uW, uP, rfl, h3, h4⟩ := hb
 obtain ⟨aW, cW, rfl, _⟩ := h1.shape
 obtain ⟨aP, cP, rfl, _⟩ := h2.shape
 obtain ⟨bW, dW, rfl, _⟩ := h3.shape
 obtain ⟨bP, dP, rfl, _⟩ := h4.shape
 have H1 := zaa h1
 have H2 := zaa h2
 have H3 := zaa h3
 have H4 := zaa h4
 clear h1 h2 h3 h4
 go_enter Tryz.func114, Tryz.ntmps114
 go_wp2_with fail
 have hb0 : Below w.heap.size w ((w.alloc (.cells #[.slice aW ws.length cW, .slice aP ps.length cP] 44)).alloc (.cells #[.slice bW ws.length dW, .slice bP ps.length dP] 44)) := by
  repeat (refine Below.alloc ?_ (by simp <;> omega) _)
  exact Below.refl _ _
 refine (zhh _ _ ws _ (Rd.below H1.out hb0) (Rd.below H3.out hb0) hw).mono ?_
 rintro e w1 ⟨rfl, hb1⟩
 have hz1 : w.heap.size + 2 ≤ w1.heap.size := by have := hb1.size; simp at this; omega
 have V0 := (hb1.block w.heap.size (by simp <;> omega)).trans (zap (zah rfl))
 have V1 := (hb1.block (w.heap.size + 1) (by simp <;> omega)).trans (zah (by simp))
 have B1 := hb0.trans (hb1.mono (by simp <;> omega))
 obtain ⟨x1, x2, _, _⟩ := zad V0
 obtain ⟨y1, y2, _, _⟩ := zad V1
 clear hb0 hb1 V0 V1
 go_wp2_with fail
 refine (znt _ _ ps _ (Rd.below H2.out B1) (Rd.below H4.out B1) hp).mono ?_
 rintro e w2 ⟨rfl, hb2⟩
 go_wp2
 go_ret
 exact ⟨rfl, B1.trans (hb2.mono (by omega))⟩

set_option maxHeartbeats 2000000 in
theorem zwq (v : Value) (ws : List Int) (ps : List Se) (k0 : Int) (lo hi : Nat) (w : World) (h : RowBlk w lo hi v ws ps) (hi1 : hi ≤ w.heap.size) (hw : ws.length ≤ 2147483648) (hp : ps.length ≤ 2147483648) (h0 : 0 ≤ k0) (h1 : k0 ≤ 1073741824) :
  Calls Tryz.prog 129 #[v, .int .i64 k0] w fun e w' => e = .returned (.int .i64 (k0 + ws.length + 2 * ps.length)) ∧ RowBlk w' lo hi v (zdu k0 ws.length) (zdg (k0 + ws.length) ps.length) ∧ Outside lo hi w w' := by
 obtain ⟨vW, vP, rfl, h1, h2⟩ := h
 obtain ⟨_, aW, cW, rfl, _⟩ := h1.rd
 obtain ⟨_, aP, cP, rfl, _⟩ := h2.rd
 obtain ⟨e1, he1, h1⟩ := h1
 have HE := zaa he1
 have H1 := zaa h1
 have H2 := zaa h2
 clear h1 h2 he1
 go_enter Tryz.func129, Tryz.ntmps129
 go_wp2_with fail
 have hb0 : Below w.heap.size w (w.alloc (.cells #[.slice aW ws.length cW, .slice aP ps.length cP] 44)) := (Below.refl _ _).alloc (Nat.le_refl _) _
 refine (zgd _ _ (zca ws) k0 lo hi _ (H1.out.below hb0 hi1) (fun u hu => by simp only [zca, List.mem_map] at hu; obtain ⟨z, _, rfl⟩ := hu; exact ⟨z, rfl⟩) hw h0 (by omega)).mono ?_
 rintro e w1 ⟨rfl, hr1, hg1, hz1⟩
 simp only [World.size_alloc] at hz1
 have ho1 := Row.grown_outside H1.out hg1
 have V0 := (ho1.block w.heap.size (by simp) (.inr hi1)).trans (zah rfl)
 obtain ⟨x1, x2, _, _⟩ := zad V0
 have O1 := zaa ((Outside.of_below (lo := lo) (hi := hi) hb0).trans ho1)
 have R1 := zaa hr1
 have R2 := zaa ((H2.out.below hb0 hi1).apart (H1.out.below hb0 hi1) (Ne.symm HE.out) hg1)
 clear hr1 hg1 ho1 V0
 go_wp2_with fail
 refine (zmi _ _ (ses ps) (k0 + ws.length) lo hi _ R2.out (isSes ps) hp (by omega) (by omega)).mono ?_
 rintro e w2 ⟨rfl, hr2, hg2, hz2⟩
 have O2 := zaa (O1.out.trans (Row.grown_outside R2.out hg2))
 have R3 := zaa (R1.out.apart R2.out HE.out hg2)
 have R4 := zaa hr2
 clear hr2 hg2
 go_wp2
 go_ret
 refine ⟨rfl, ⟨_, _, rfl, ?_, ?_⟩, O2.out⟩
 ·rw [zbf]; exact ⟨e1, HE.out, R3.out⟩
 ·rw [zbk]; exact R4.out

set_option maxHeartbeats 2000000 in
theorem zuw (v : Value) (n m : Nat) (k0 : Int) (w : World) (h : RdBlk w v (zdu k0 n) (zdg (k0 + n) m)) (hw : n ≤ 2147483648) (hp : m ≤ 2147483648) (h0 : 0 ≤ k0) (h1 : k0 ≤ 1073741824) :
  Calls Tryz.prog 131 #[v, .int .i64 k0] w fun e w' => e = .returned (.int .i64 (k0 + n + 2 * m)) ∧ Below w.heap.size w w' := by
 obtain ⟨vW, vP, rfl, h1, h2⟩ := h
 obtain ⟨aW, cW, rfl, _⟩ := h1.shape
 obtain ⟨aP, cP, rfl, _⟩ := h2.shape
 simp only [zbf, zbk] at *
 have H1 := zaa h1
 have H2 := zaa h2
 clear h1 h2
 have hb0 : Below w.heap.size w (w.alloc (.cells #[.slice aW n cW, .slice aP m cP] 44)) := (Below.refl _ _).alloc (Nat.le_refl _) _
 go_enter Tryz.func131, Tryz.ntmps131
 go_wp2_with fail
 refine (zfm _ n k0 _ (Rd.below H1.out hb0) hw h0 (by omega)).mono ?_
 rintro e w1 ⟨rfl, rfl⟩
 go_wp2_with fail
 refine (zlp _ m (k0 + n) _ (Rd.below H2.out hb0) hp (by omega) (by omega)).mono ?_
 rintro e w2 ⟨rfl, rfl⟩
 go_wp2
 go_ret
 exact ⟨rfl, hb0⟩

end Go.Proofs.YtipklbnfobckaaaGreatDoor

namespace Go.Proofs.YtipklbnfobckaaaGreatDoor
open Go.RowKit

def zat (n : Int) : Bool := decide (0 ≤ n ∧ n < 1099511627776)
def zbb (n : Int) : Bool := decide (0 ≤ n ∧ n < 336)
def zij (n : Int) : Bool := decide (0 ≤ n ∧ n < 32)
theorem secB_true {n : Int} (h : zij n = true) : 0 ≤ n ∧ n < 32 := of_decide_eq_true h
theorem zhf {n : Int} (h : zbb n = true) : 0 ≤ n ∧ n < 336 := of_decide_eq_true h

theorem zgh (n : Int) (w : World) : Calls Tryz.prog 156 #[.int .i64 n] w fun e w' => e = .returned (.bool (zat n)) ∧ w' = w := by
 by_cases h0 : 0 ≤ n
 ·by_cases h1 : n < 1099511627776
  ·have e : zat n = true := decide_eq_true ⟨h0, h1⟩
   rw [e]; clear e
   go_enter Tryz.func156, Tryz.ntmps156
   go_wp2
   go_ret
   exact ⟨rfl, rfl⟩
  ·have e : zat n = false := decide_eq_false (fun h => h1 h.2)
   rw [e]; clear e
   go_enter Tryz.func156, Tryz.ntmps156
   go_wp2
   go_ret
   exact ⟨rfl, rfl⟩
 ·have e : zat n = false := decide_eq_false (fun h => h0 h.1)
  rw [e]; clear e
  go_enter Tryz.func156, Tryz.ntmps156
  go_wp2
  go_ret
  exact ⟨rfl, rfl⟩

theorem zcj (n : Int) (w : World) : Calls Tryz.prog 222 #[.int .i64 n] w fun e w' => e = .returned (.bool (zbb n)) ∧ w' = w := by
 by_cases h0 : 0 ≤ n
 ·by_cases h1 : n < 336
  ·have e : zbb n = true := decide_eq_true ⟨h0, h1⟩
   rw [e]; clear e
   go_enter Tryz.func222, Tryz.ntmps222
   go_wp2
   go_ret
   exact ⟨rfl, rfl⟩
  ·have e : zbb n = false := decide_eq_false (fun h => h1 h.2)
   rw [e]; clear e
   go_enter Tryz.func222, Tryz.ntmps222
   go_wp2
   go_ret
   exact ⟨rfl, rfl⟩
 ·have e : zbb n = false := decide_eq_false (fun h => h0 h.1)
  rw [e]; clear e
  go_enter Tryz.func222, Tryz.ntmps222
  go_wp2
  go_ret
  exact ⟨rfl, rfl⟩

theorem zdj (n : Int) (w : World) : Calls Tryz.prog 223 #[.int .i64 n] w fun e w' => e = .returned (.bool (zij n)) ∧ w' = w := by
 by_cases h0 : 0 ≤ n
 ·by_cases h1 : n < 32
  ·have e : zij n = true := decide_eq_true ⟨h0, h1⟩
   rw [e]; clear e
   go_enter Tryz.func223, Tryz.ntmps223
   go_wp2
   go_ret
   exact ⟨rfl, rfl⟩
  ·have e : zij n = false := decide_eq_false (fun h => h1 h.2)
   rw [e]; clear e
   go_enter Tryz.func223, Tryz.ntmps223
   go_wp2
   go_ret
   exact ⟨rfl, rfl⟩
 ·have e : zij n = false := decide_eq_false (fun h => h0 h.1)
  rw [e]; clear e
  go_enter Tryz.func223, Tryz.ntmps223
  go_wp2
  go_ret
  exact ⟨rfl, rfl⟩

def inB (n lo hi : Int) : Bool := decide (lo ≤ n ∧ n ≤ hi)
theorem zme (n lo hi : Int) (w : World) : Calls Tryz.prog 94 #[.int .i64 n, .int .i64 lo, .int .i64 hi] w fun e w' => e = .returned (.bool (inB n lo hi)) ∧ w' = w := by
 by_cases h0 : lo ≤ n
 ·by_cases h1 : n ≤ hi
  ·have e : inB n lo hi = true := decide_eq_true ⟨h0, h1⟩
   rw [e]; clear e
   go_enter Tryz.func94, Tryz.ntmps94
   go_wp2
   go_ret
   exact ⟨rfl, rfl⟩
  ·have e : inB n lo hi = false := decide_eq_false (fun h => h1 h.2)
   rw [e]; clear e
   go_enter Tryz.func94, Tryz.ntmps94
   go_wp2
   go_ret
   exact ⟨rfl, rfl⟩
 ·have e : inB n lo hi = false := decide_eq_false (fun h => h0 h.1)
  rw [e]; clear e
  go_enter Tryz.func94, Tryz.ntmps94
  go_wp2
  go_ret
  exact ⟨rfl, rfl⟩
theorem inB_word (n : Int) : inB n 0 1099511627775 = zat n := by
 unfold inB zat
 rw [decide_eq_decide]
 omega
theorem inB_place (n : Int) : inB n 0 335 = zbb n := by
 unfold inB zbb
 rw [decide_eq_decide]
 omega
theorem inB_sec (n : Int) : inB n 0 31 = zij n := by
 unfold inB zij
 rw [decide_eq_decide]
 omega
theorem zgb (n : Int) (w : World) : Calls Tryz.prog 94 #[.int .i64 n, .int .i64 0, .int .i64 31] w fun e w' => e = .returned (.bool (zij n)) ∧ w' = w := by
 rw [← inB_sec]
 exact zme n 0 31 w
theorem zen (n : Int) (w : World) : Calls Tryz.prog 94 #[.int .i64 n, .int .i64 0, .int .i64 335] w fun e w' => e = .returned (.bool (zbb n)) ∧ w' = w := by
 rw [← inB_place]
 exact zme n 0 335 w
theorem zbe (n : Int) (w : World) : Calls Tryz.prog 95 #[.int .i64 n] w fun e w' => e = .returned (.bool (zat n)) ∧ w' = w := by
 have E := zaa (inB_word n)
 go_enter Tryz.func95, Tryz.ntmps95
 go_wp2_with fail
 refine (zme n 0 1099511627775 _).mono ?_
 rw [E.out]
 rintro e w' ⟨rfl, rfl⟩
 go_wp2
 go_ret
 exact ⟨rfl, rfl⟩

/-- All are words. -/
def zgv (zs : List Int) : Bool := decide (∀ k (h : k < zs.length), zat zs[k] = true)
theorem zkw {zs : List Int} (h : zgv zs = true) : ∀ k (h : k < zs.length), zat zs[k] = true := of_decide_eq_true h
theorem ztm {zs : List Int} (h : ∀ k (h : k < zs.length), zat zs[k] = true) : zgv zs = true := decide_eq_true h
theorem wordsB_not {zs : List Int} {k : Nat} (hk : k < zs.length) (h : zat zs[k] = false) : zgv zs = false := decide_eq_false (fun x => by have := x k hk; rw [h] at this; cases this)
theorem zuc {zs : List Int} (h : zgv zs = false) : ∃ k, ∃ h : k < zs.length, zat zs[k] = false := by
 apply Classical.byContradiction
 intro hn
 have : zgv zs = true := ztm (fun k hk => by
  cases e : zat zs[k] with
  | true => rfl
  | false => exact absurd ⟨k, hk, e⟩ hn)
 rw [h] at this
 cases this

end Go.Proofs.YtipklbnfobckaaaGreatDoor

namespace Go.Proofs.YtipklbnfobckaaaGreatDoor
open Go.RowKit

/-- A right memory. -/
def pmB (ws : List Int) (ps : List St) : Bool := decide (ws.length = 336 ∧ ps.length ≤ 400 ∧ (∀ k (h : k < ws.length), zat ws[k] = true) ∧ ∀ k (h : k < ps.length), zbb ps[k].at_ = true ∧ zat ps[k].val = true)
theorem pmB_mk {ws : List Int} {ps : List St} (h1 : ws.length = 336) (h2 : ps.length ≤ 400) (h3 : ∀ k (h : k < ws.length), zat ws[k] = true) (h4 : ∀ k (h : k < ps.length), zbb ps[k].at_ = true ∧ zat ps[k].val = true) : pmB ws ps = true := decide_eq_true ⟨h1, h2, h3, h4⟩
theorem zee {ws : List Int} {ps : List St} (h : pmB ws ps = true) : ws.length = 336 ∧ ps.length ≤ 400 := ⟨(of_decide_eq_true h).1, (of_decide_eq_true h).2.1⟩
theorem pmB_word {ws : List Int} {ps : List St} (h : pmB ws ps = true) (k : Nat) (hk : k < ws.length) : zat ws[k] = true := (of_decide_eq_true h).2.2.1 k hk
theorem zlu {ws : List Int} {ps : List St} (h : pmB ws ps = true) (k : Nat) (hk : k < ps.length) : zbb ps[k].at_ = true ∧ zat ps[k].val = true := (of_decide_eq_true h).2.2.2 k hk
theorem pmB_len1 {ws : List Int} {ps : List St} (h : ¬ ws.length = 336) : pmB ws ps = false := decide_eq_false (fun x => h x.1)
theorem zwv {ws : List Int} {ps : List St} (h : 400 < ps.length) : pmB ws ps = false := decide_eq_false (fun x => absurd x.2.1 (by omega))
theorem pmB_w {ws : List Int} {ps : List St} {k : Nat} (hk : k < ws.length) (h : zat ws[k] = false) : pmB ws ps = false := decide_eq_false (fun x => by have := x.2.2.1 k hk; rw [h] at this; cases this)
theorem pmB_a {ws : List Int} {ps : List St} {k : Nat} (hk : k < ps.length) (h : zbb ps[k].at_ = false) : pmB ws ps = false := decide_eq_false (fun x => by have := (x.2.2.2 k hk).1; rw [h] at this; cases this)
theorem pmB_v {ws : List Int} {ps : List St} {k : Nat} (hk : k < ps.length) (h : zat ps[k].val = false) : pmB ws ps = false := decide_eq_false (fun x => by have := (x.2.2.2 k hk).2; rw [h] at this; cases this)

set_option maxHeartbeats 4000000 in
theorem zfk (v : Value) (ws : List Int) (ps : List St) (w : World) (h : RdPm w v ws ps) (hw : ws.length ≤ 1048576) (hp : ps.length ≤ 1048576) :
  Calls Tryz.prog 92 #[v] w fun e w' => e = .returned (.bool (pmB ws ps)) ∧ Below w.heap.size w w' := by
 obtain ⟨vW, vP, rfl, h1, h2⟩ := h
 obtain ⟨aW, cW, rfl, _, hcW⟩ := h1.shape
 obtain ⟨aP, cP, rfl, _, hcP⟩ := h2.shape
 clear h1 h2
 have hb0 : Below w.heap.size w (w.alloc (.cells #[.slice aW ws.length cW, .slice aP ps.length cP] 41)) := (Below.refl _ _).alloc (Nat.le_refl _) _
 by_cases c1 : ws.length = 336
 case neg =>
  have E := zaa (pmB_len1 (ps := ps) c1)
  have c1' : ((ws.length : Int) != 336) = true := by simp; omega
  clear c1
  go_enter Tryz.func92, Tryz.ntmps92
  go_wp2
  go_ret
  exact ⟨zac E.out.symm, hb0⟩
 have c1n : ((ws.length : Int) != 336) = false := by simp; omega
 have hpos : 0 < ws.length := by omega
 have C1 := zaa c1
 clear c1
 by_cases c2 : 400 < ps.length
 ·have E := zaa (zwv (ws := ws) c2)
  go_enter Tryz.func92, Tryz.ntmps92
  go_wp2
  go_ret
  exact ⟨zac E.out.symm, hb0⟩
 obtain ⟨b, o, rfl, hbl, hcell⟩ := hcW hpos
 clear hcW hpos
 go_enter Tryz.func92, Tryz.ntmps92
 go_wp2
 go_loop [3] (fun i => ∃ k : Nat, k ≤ ws.length ∧ i = .int .i64 k ∧ Hid (∀ j (h : j < ws.length), j < k → zat ws[j] = true)) (fun i => ws.length - (intOf i).toNat)
 case atStart => exact ⟨0, by omega, rfl, fun j h a => absurd a (by omega)⟩
 case round =>
  obtain ⟨k, hk, rfl, H⟩ := hrel
  by_cases hlt : k < ws.length
  ·have hck := (hb0.cell (p := ⟨b, o + k, none⟩) hbl).trans (hcell k hlt)
   clear hcell hcP
   by_cases q : zat ws[k] = true
   ·go_wp2_with (go_at_call 95; refine (zbe _ _).mono ?_; rintro e w' ⟨rfl, rfl⟩)
    go_round
    case rel =>
     refine ⟨k + 1, by omega, by go_num, fun j h a => ?_⟩
     by_cases e : j = k
     ·subst e; exact q
     ·exact H.out j h (by omega)
    case measure => simp [intOf]; omega
   ·have q' : zat ws[k] = false := by simpa using q
    have E := zaa (pmB_w (ps := ps) hlt q')
    go_wp2_with (go_at_call 95; refine (zbe _ _).mono ?_; rintro e w' ⟨rfl, rfl⟩)
    go_ret
    exact ⟨zac E.out.symm, hb0⟩
  ·have HW := zaa (fun j (h : j < ws.length) => H.out j h (by omega))
   clear H hcell
   go_wp2
   go_loop [4] (fun i => ∃ k : Nat, k ≤ ps.length ∧ i = .int .i64 k ∧ Hid (∀ j (h : j < ps.length), j < k → zbb ps[j].at_ = true ∧ zat ps[j].val = true)) (fun i => ps.length - (intOf i).toNat)
   case atStart => exact ⟨0, by omega, rfl, fun j h a => absurd a (by omega)⟩
   case round =>
    obtain ⟨m, hm, rfl, H⟩ := hrel
    by_cases hlt2 : m < ps.length
    ·obtain ⟨b2, o2, rfl, hbl2, hcell2⟩ := hcP (by omega)
     obtain ⟨d0, d1, _⟩ := hcell2 m hlt2
     have e0 := (hb0.cell (p := ⟨b2, o2 + m * 3, none⟩) hbl2).trans d0
     have e1 := (hb0.cell (p := ⟨b2, o2 + m * 3 + 1, none⟩) hbl2).trans d1
     clear d0 d1 hcell2 hcP
     by_cases q : zbb ps[m].at_ = true
     ·by_cases q2 : zat ps[m].val = true
      ·go_wp2_with (first | (go_at_call 94; refine (zen _ _).mono ?_; rintro e w' ⟨rfl, rfl⟩) | (go_at_call 95; refine (zbe _ _).mono ?_; rintro e w' ⟨rfl, rfl⟩))
       go_round
       case rel =>
        refine ⟨m + 1, by omega, by go_num, fun j h a => ?_⟩
        by_cases e : j = m
        ·subst e; exact ⟨q, q2⟩
        ·exact H.out j h (by omega)
       case measure => simp [intOf]; omega
      ·have q2' : zat ps[m].val = false := by simpa using q2
       have E := zaa (pmB_v (ws := ws) hlt2 q2')
       go_wp2_with (first | (go_at_call 94; refine (zen _ _).mono ?_; rintro e w' ⟨rfl, rfl⟩) | (go_at_call 95; refine (zbe _ _).mono ?_; rintro e w' ⟨rfl, rfl⟩))
       go_ret
       exact ⟨zac E.out.symm, hb0⟩
     ·have q' : zbb ps[m].at_ = false := by simpa using q
      have E := zaa (pmB_a (ws := ws) hlt2 q')
      go_wp2_with (first | (go_at_call 94; refine (zen _ _).mono ?_; rintro e w' ⟨rfl, rfl⟩) | (go_at_call 95; refine (zbe _ _).mono ?_; rintro e w' ⟨rfl, rfl⟩))
      go_ret
      exact ⟨zac E.out.symm, hb0⟩
    ·have E := zaa (pmB_mk C1.out (by omega) HW.out (fun j h => H.out j h (by omega)))
     go_wp2
     go_ret
     exact ⟨zac E.out.symm, hb0⟩
end Go.Proofs.YtipklbnfobckaaaGreatDoor

namespace Go.Proofs.YtipklbnfobckaaaGreatDoor
open Go.RowKit

/-- A right device. -/
def zeh (ws : List Int) (ps : List Se) : Bool := decide (ws.length = 32 ∧ ps.length ≤ 400 ∧ (∀ k (h : k < ws.length), zat ws[k] = true) ∧ ∀ k (h : k < ps.length), zij ps[k].at_ = true ∧ zat ps[k].val = true)
theorem zvx {ws : List Int} {ps : List Se} (h1 : ws.length = 32) (h2 : ps.length ≤ 400) (h3 : ∀ k (h : k < ws.length), zat ws[k] = true) (h4 : ∀ k (h : k < ps.length), zij ps[k].at_ = true ∧ zat ps[k].val = true) : zeh ws ps = true := decide_eq_true ⟨h1, h2, h3, h4⟩
theorem zff {ws : List Int} {ps : List Se} (h : zeh ws ps = true) : ws.length = 32 ∧ ps.length ≤ 400 := ⟨(of_decide_eq_true h).1, (of_decide_eq_true h).2.1⟩
theorem blkB_word {ws : List Int} {ps : List Se} (h : zeh ws ps = true) (k : Nat) (hk : k < ws.length) : zat ws[k] = true := (of_decide_eq_true h).2.2.1 k hk
theorem blkB_store {ws : List Int} {ps : List Se} (h : zeh ws ps = true) (k : Nat) (hk : k < ps.length) : zij ps[k].at_ = true ∧ zat ps[k].val = true := (of_decide_eq_true h).2.2.2 k hk
theorem zsl {ws : List Int} {ps : List Se} (h : ¬ ws.length = 32) : zeh ws ps = false := decide_eq_false (fun x => h x.1)
theorem ztq {ws : List Int} {ps : List Se} (h : 400 < ps.length) : zeh ws ps = false := decide_eq_false (fun x => absurd x.2.1 (by omega))
theorem blkB_w {ws : List Int} {ps : List Se} {k : Nat} (hk : k < ws.length) (h : zat ws[k] = false) : zeh ws ps = false := decide_eq_false (fun x => by have := x.2.2.1 k hk; rw [h] at this; cases this)
theorem blkB_a {ws : List Int} {ps : List Se} {k : Nat} (hk : k < ps.length) (h : zij ps[k].at_ = false) : zeh ws ps = false := decide_eq_false (fun x => by have := (x.2.2.2 k hk).1; rw [h] at this; cases this)
theorem blkB_v {ws : List Int} {ps : List Se} {k : Nat} (hk : k < ps.length) (h : zat ps[k].val = false) : zeh ws ps = false := decide_eq_false (fun x => by have := (x.2.2.2 k hk).2; rw [h] at this; cases this)

set_option maxHeartbeats 4000000 in
theorem zoz (v : Value) (ws : List Int) (ps : List Se) (w : World) (h : RdBlk w v ws ps) (hw : ws.length ≤ 1048576) (hp : ps.length ≤ 1048576) :
  Calls Tryz.prog 93 #[v] w fun e w' => e = .returned (.bool (zeh ws ps)) ∧ Below w.heap.size w w' := by
 obtain ⟨vW, vP, rfl, h1, h2⟩ := h
 obtain ⟨aW, cW, rfl, _, hcW⟩ := h1.shape
 obtain ⟨aP, cP, rfl, _, hcP⟩ := h2.shape
 clear h1 h2
 have hb0 : Below w.heap.size w (w.alloc (.cells #[.slice aW ws.length cW, .slice aP ps.length cP] 44)) := (Below.refl _ _).alloc (Nat.le_refl _) _
 by_cases c1 : ws.length = 32
 case neg =>
  have E := zaa (zsl (ps := ps) c1)
  have c1' : ((ws.length : Int) != 32) = true := by simp; omega
  clear c1
  go_enter Tryz.func93, Tryz.ntmps93
  go_wp2
  go_ret
  exact ⟨zac E.out.symm, hb0⟩
 have c1n : ((ws.length : Int) != 32) = false := by simp; omega
 have hpos : 0 < ws.length := by omega
 have C1 := zaa c1
 clear c1
 by_cases c2 : 400 < ps.length
 ·have E := zaa (ztq (ws := ws) c2)
  go_enter Tryz.func93, Tryz.ntmps93
  go_wp2
  go_ret
  exact ⟨zac E.out.symm, hb0⟩
 obtain ⟨b, o, rfl, hbl, hcell⟩ := hcW hpos
 clear hcW hpos
 go_enter Tryz.func93, Tryz.ntmps93
 go_wp2
 go_loop [3] (fun i => ∃ k : Nat, k ≤ ws.length ∧ i = .int .i64 k ∧ Hid (∀ j (h : j < ws.length), j < k → zat ws[j] = true)) (fun i => ws.length - (intOf i).toNat)
 case atStart => exact ⟨0, by omega, rfl, fun j h a => absurd a (by omega)⟩
 case round =>
  obtain ⟨k, hk, rfl, H⟩ := hrel
  by_cases hlt : k < ws.length
  ·have hck := (hb0.cell (p := ⟨b, o + k, none⟩) hbl).trans (hcell k hlt)
   clear hcell hcP
   by_cases q : zat ws[k] = true
   ·go_wp2_with (go_at_call 95; refine (zbe _ _).mono ?_; rintro e w' ⟨rfl, rfl⟩)
    go_round
    case rel =>
     refine ⟨k + 1, by omega, by go_num, fun j h a => ?_⟩
     by_cases e : j = k
     ·subst e; exact q
     ·exact H.out j h (by omega)
    case measure => simp [intOf]; omega
   ·have q' : zat ws[k] = false := by simpa using q
    have E := zaa (blkB_w (ps := ps) hlt q')
    go_wp2_with (go_at_call 95; refine (zbe _ _).mono ?_; rintro e w' ⟨rfl, rfl⟩)
    go_ret
    exact ⟨zac E.out.symm, hb0⟩
  ·have HW := zaa (fun j (h : j < ws.length) => H.out j h (by omega))
   clear H hcell
   go_wp2
   go_loop [4] (fun i => ∃ k : Nat, k ≤ ps.length ∧ i = .int .i64 k ∧ Hid (∀ j (h : j < ps.length), j < k → zij ps[j].at_ = true ∧ zat ps[j].val = true)) (fun i => ps.length - (intOf i).toNat)
   case atStart => exact ⟨0, by omega, rfl, fun j h a => absurd a (by omega)⟩
   case round =>
    obtain ⟨m, hm, rfl, H⟩ := hrel
    by_cases hlt2 : m < ps.length
    ·obtain ⟨b2, o2, rfl, hbl2, hcell2⟩ := hcP (by omega)
     obtain ⟨d0, d1⟩ := hcell2 m hlt2
     have e0 := (hb0.cell (p := ⟨b2, o2 + m * 2, none⟩) hbl2).trans d0
     have e1 := (hb0.cell (p := ⟨b2, o2 + m * 2 + 1, none⟩) hbl2).trans d1
     clear d0 d1 hcell2 hcP
     by_cases q : zij ps[m].at_ = true
     ·by_cases q2 : zat ps[m].val = true
      ·go_wp2_with (first | (go_at_call 94; refine (zgb _ _).mono ?_; rintro e w' ⟨rfl, rfl⟩) | (go_at_call 95; refine (zbe _ _).mono ?_; rintro e w' ⟨rfl, rfl⟩))
       go_round
       case rel =>
        refine ⟨m + 1, by omega, by go_num, fun j h a => ?_⟩
        by_cases e : j = m
        ·subst e; exact ⟨q, q2⟩
        ·exact H.out j h (by omega)
       case measure => simp [intOf]; omega
      ·have q2' : zat ps[m].val = false := by simpa using q2
       have E := zaa (blkB_v (ws := ws) hlt2 q2')
       go_wp2_with (first | (go_at_call 94; refine (zgb _ _).mono ?_; rintro e w' ⟨rfl, rfl⟩) | (go_at_call 95; refine (zbe _ _).mono ?_; rintro e w' ⟨rfl, rfl⟩))
       go_ret
       exact ⟨zac E.out.symm, hb0⟩
     ·have q' : zij ps[m].at_ = false := by simpa using q
      have E := zaa (blkB_a (ws := ws) hlt2 q')
      go_wp2_with (first | (go_at_call 94; refine (zgb _ _).mono ?_; rintro e w' ⟨rfl, rfl⟩) | (go_at_call 95; refine (zbe _ _).mono ?_; rintro e w' ⟨rfl, rfl⟩))
      go_ret
      exact ⟨zac E.out.symm, hb0⟩
    ·have E := zaa (zvx C1.out (by omega) HW.out (fun j h => H.out j h (by omega)))
     go_wp2
     go_ret
     exact ⟨zac E.out.symm, hb0⟩
end Go.Proofs.YtipklbnfobckaaaGreatDoor
