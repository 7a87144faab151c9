/- The helpers of the laws over devices: held against one another, marked, looked at, counted. -/
import Derived.Test.YtenadnlgjobmdaiDoorBlk
namespace Go.Proofs.YtenadnlgjobmdaiDoor
open Go.RowKit

set_option maxHeartbeats 2000000 in
theorem eqBlk_same (va vb : Value) (ws : List Int) (ps : List Se) (w : World) (ha : RdBlk w va ws ps) (hb : RdBlk w vb ws ps) (hw : ws.length ≤ 2147483648) (hp : ps.length ≤ 2147483648) :
    Calls Tryd.prog 8 #[va, vb] w fun e w' => e = .returned (.bool true) ∧ Below w.heap.size w w' := by
  obtain ⟨vW, vP, rfl, h1, h2⟩ := ha
  obtain ⟨uW, uP, rfl, h3, h4⟩ := hb
  obtain ⟨aW, cW, rfl, _⟩ := h1.shape
  obtain ⟨aP, cP, rfl, _⟩ := h2.shape
  obtain ⟨bW, dW, rfl, _⟩ := h3.shape
  obtain ⟨bP, dP, rfl, _⟩ := h4.shape
  have H1 := hideIt h1
  have H2 := hideIt h2
  have H3 := hideIt h3
  have H4 := hideIt h4
  clear h1 h2 h3 h4
  go_enter Tryd.func8, Tryd.ntmps8
  go_wp2_with fail
  have hb0 : Below w.heap.size w ((w.alloc (.cells #[.slice aW ws.length cW, .slice aP ps.length cP] 31)).alloc (.cells #[.slice bW ws.length dW, .slice bP ps.length dP] 31)) := by
    repeat (refine Below.alloc ?_ (by simp <;> omega) _)
    exact Below.refl _ _
  refine (eqIntS_same _ _ ws _ (Rd.below H1.out hb0) (Rd.below H3.out hb0) hw).mono ?_
  rintro e w1 ⟨rfl, hb1⟩
  have hz1 : w.heap.size + 2 ≤ w1.heap.size := by have := hb1.size; simp at this; omega
  have V0 := (hb1.block w.heap.size (by simp <;> omega)).trans (at_old (at_new rfl))
  have V1 := (hb1.block (w.heap.size + 1) (by simp <;> omega)).trans (at_new (by simp))
  have B1 := hb0.trans (hb1.mono (by simp <;> omega))
  obtain ⟨x1, x2, _, _⟩ := two_cells V0
  obtain ⟨y1, y2, _, _⟩ := two_cells V1
  clear hb0 hb1 V0 V1
  go_wp2_with fail
  refine (eqSectorS_same _ _ ps _ (Rd.below H2.out B1) (Rd.below H4.out B1) hp).mono ?_
  rintro e w2 ⟨rfl, hb2⟩
  go_wp2
  go_ret
  exact ⟨rfl, B1.trans (hb2.mono (by omega))⟩

set_option maxHeartbeats 2000000 in
/-- What is counted: the words and the writes, or -1 where they are too many. -/
theorem szBlk_any (aW aP : Option Addr) (n m cW cP : Nat) (w : World) (hn : n ≤ maxLen) (hm : m ≤ maxLen) :
    Calls Tryd.prog 4 #[.agg #[.slice aW n cW, .slice aP m cP], .int .i64 1048576] w fun e w' => e = .returned (.int .i64 (if 1048576 < n + m then -1 else 1048576 - n - m)) ∧ Below w.heap.size w w' := by
  have hb0 : Below w.heap.size w (w.alloc (.cells #[.slice aW n cW, .slice aP m cP] 25)) := (Below.refl _ _).alloc (Nat.le_refl _) _
  by_cases c1 : (1048576 : Int) < (n : Int)
  · have e1 : less 1048576 n = -1 := by unfold less; rw [if_pos c1]
    have e2 : (if 1048576 < n + m then -1 else 1048576 - n - m : Int) = -1 := by rw [if_pos (by omega)]
    rw [e2]
    have E1 := hideIt e1
    clear e1 e2
    go_enter Tryd.func4, Tryd.ntmps4
    go_wp2_with (go_at_call 9; refine (szIntS_any aW n cW _ _ hn (by omega) (by omega)).mono ?_; rw [E1.out]; rintro e w' ⟨rfl, rfl⟩)
    go_ret
    exact ⟨rfl, hb0⟩
  · have e1 : less 1048576 n = 1048576 - n := by unfold less; rw [if_neg c1]
    have E1 := hideIt e1
    clear e1
    by_cases c2 : (1048576 - n : Int) < (m : Int)
    · have e2 : less (1048576 - n) m = -1 := by unfold less; rw [if_pos c2]
      have e3 : (if 1048576 < n + m then -1 else 1048576 - n - m : Int) = -1 := by rw [if_pos (by omega)]
      rw [e3]
      have E2 := hideIt e2
      clear e2 e3
      go_enter Tryd.func4, Tryd.ntmps4
      go_wp2_with (first | (go_at_call 9; refine (szIntS_any aW n cW _ _ hn (by omega) (by omega)).mono ?_; rw [E1.out]; rintro e w' ⟨rfl, rfl⟩) | (go_at_call 10; refine (szSectorS_any aP m cP _ _ hm (by omega) (by omega)).mono ?_; rw [E2.out]; rintro e w' ⟨rfl, rfl⟩))
      go_ret
      exact ⟨rfl, hb0⟩
    · have e2 : less (1048576 - n) m = 1048576 - n - m := by unfold less; rw [if_neg c2]
      have e3 : (if 1048576 < n + m then -1 else 1048576 - n - m : Int) = 1048576 - n - m := by rw [if_neg (by omega)]
      rw [e3]
      have E2 := hideIt e2
      clear e2 e3
      go_enter Tryd.func4, Tryd.ntmps4
      go_wp2_with (first | (go_at_call 9; refine (szIntS_any aW n cW _ _ hn (by omega) (by omega)).mono ?_; rw [E1.out]; rintro e w' ⟨rfl, rfl⟩) | (go_at_call 10; refine (szSectorS_any aP m cP _ _ hm (by omega) (by omega)).mono ?_; rw [E2.out]; rintro e w' ⟨rfl, rfl⟩))
      go_ret
      exact ⟨rfl, hb0⟩
end Go.Proofs.YtenadnlgjobmdaiDoor
