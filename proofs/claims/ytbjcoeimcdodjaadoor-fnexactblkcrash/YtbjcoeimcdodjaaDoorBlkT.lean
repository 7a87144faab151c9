/- The helpers of the laws over devices: held against one another, marked, looked at, counted. -/
import Derived.Test.YtbjcoeimcdodjaaDoorBlk
namespace Go.Proofs.YtbjcoeimcdodjaaDoor
open Go.RowKit
set_option maxHeartbeats 2000000 in
theorem eqBlk_same (va vb : Value) (ws : List Int) (ps : List Se) (w : World) (ha : RdBlk w va ws ps) (hb : RdBlk w vb ws ps) (hw : ws.length ≤ 2147483648) (hp : ps.length ≤ 2147483648) :
    Calls Tryd.prog 22 #[va, vb] w fun e w' => e = .returned (.bool true) ∧ Below w.heap.size w w' := by
  obtain ⟨vW, vP, rfl, h1, h2⟩ := ha
  obtain ⟨uW, uP, rfl, h3, h4⟩ := hb
  obtain ⟨aW, cW, rfl, _⟩ := h1.shape
  obtain ⟨aP, cP, rfl, _⟩ := h2.shape
  obtain ⟨bW, dW, rfl, _⟩ := h3.shape
  obtain ⟨bP, dP, rfl, _⟩ := h4.shape
  have H1 := hideIt h1
  have H2 := hideIt h2
  have H3 := hideIt h3
  have H4 := hideIt h4
  clear h1 h2 h3 h4
  go_enter Tryd.func22, Tryd.ntmps22
  go_wp2_with fail
  have hb0 : Below w.heap.size w ((w.alloc (.cells #[.slice aW ws.length cW, .slice aP ps.length cP] 26)).alloc (.cells #[.slice bW ws.length dW, .slice bP ps.length dP] 26)) := by
    repeat (refine Below.alloc ?_ (by simp <;> omega) _)
    exact Below.refl _ _
  refine (eqIntS_same _ _ ws _ (Rd.below H1.out hb0) (Rd.below H3.out hb0) hw).mono ?_
  rintro e w1 ⟨rfl, hb1⟩
  have hz1 : w.heap.size + 2 ≤ w1.heap.size := by have := hb1.size; simp at this; omega
  have V0 := (hb1.block w.heap.size (by simp <;> omega)).trans (at_old (at_new rfl))
  have V1 := (hb1.block (w.heap.size + 1) (by simp <;> omega)).trans (at_new (by simp))
  have B1 := hb0.trans (hb1.mono (by simp <;> omega))
  obtain ⟨x1, x2, _, _⟩ := two_cells V0
  obtain ⟨y1, y2, _, _⟩ := two_cells V1
  clear hb0 hb1 V0 V1
  go_wp2_with fail
  refine (eqSectorS_same _ _ ps _ (Rd.below H2.out B1) (Rd.below H4.out B1) hp).mono ?_
  rintro e w2 ⟨rfl, hb2⟩
  go_wp2
  go_ret
  exact ⟨rfl, B1.trans (hb2.mono (by omega))⟩
set_option maxHeartbeats 2000000 in
theorem markBlk_any (v : Value) (ws : List Int) (ps : List Se) (k0 : Int) (lo hi : Nat) (w : World) (h : RowBlk w lo hi v ws ps) (hi1 : hi ≤ w.heap.size) (hw : ws.length ≤ 2147483648) (hp : ps.length ≤ 2147483648) (h0 : 0 ≤ k0) (h1 : k0 ≤ 1073741824) :
    Calls Tryd.prog 24 #[v, .int .i64 k0] w fun e w' => e = .returned (.int .i64 (k0 + ws.length + 2 * ps.length)) ∧ RowBlk w' lo hi v (marks k0 ws.length) (marksE (k0 + ws.length) ps.length) ∧ Outside lo hi w w' := by
  obtain ⟨vW, vP, rfl, h1, h2⟩ := h
  obtain ⟨_, aW, cW, rfl, _⟩ := h1.rd
  obtain ⟨_, aP, cP, rfl, _⟩ := h2.rd
  obtain ⟨e1, he1, h1⟩ := h1
  have HE := hideIt he1
  have H1 := hideIt h1
  have H2 := hideIt h2
  clear h1 h2 he1
  go_enter Tryd.func24, Tryd.ntmps24
  go_wp2_with fail
  have hb0 : Below w.heap.size w (w.alloc (.cells #[.slice aW ws.length cW, .slice aP ps.length cP] 26)) := (Below.refl _ _).alloc (Nat.le_refl _) _
  refine (markIntS_any _ _ (ints ws) k0 lo hi _ (H1.out.below hb0 hi1) (fun u hu => by simp only [ints, List.mem_map] at hu; obtain ⟨z, _, rfl⟩ := hu; exact ⟨z, rfl⟩) hw h0 (by omega)).mono ?_
  rintro e w1 ⟨rfl, hr1, hg1, hz1⟩
  simp only [World.size_alloc] at hz1
  have ho1 := Row.grown_outside H1.out hg1
  have V0 := (ho1.block w.heap.size (by simp) (.inr hi1)).trans (at_new rfl)
  obtain ⟨x1, x2, _, _⟩ := two_cells V0
  have O1 := hideIt ((Outside.of_below (lo := lo) (hi := hi) hb0).trans ho1)
  have R1 := hideIt hr1
  have R2 := hideIt ((H2.out.below hb0 hi1).apart (H1.out.below hb0 hi1) (Ne.symm HE.out) hg1)
  clear hr1 hg1 ho1 V0
  go_wp2_with fail
  refine (markSectorS_any _ _ (ses ps) (k0 + ws.length) lo hi _ R2.out (isSes ps) hp (by omega) (by omega)).mono ?_
  rintro e w2 ⟨rfl, hr2, hg2, hz2⟩
  have O2 := hideIt (O1.out.trans (Row.grown_outside R2.out hg2))
  have R3 := hideIt (R1.out.apart R2.out HE.out hg2)
  have R4 := hideIt hr2
  clear hr2 hg2
  go_wp2
  go_ret
  refine ⟨rfl, ⟨_, _, rfl, ?_, ?_⟩, O2.out⟩
  · rw [marks_len]; exact ⟨e1, HE.out, R3.out⟩
  · rw [marksE_len]; exact R4.out
set_option maxHeartbeats 2000000 in
theorem heldBlk_any (v : Value) (n m : Nat) (k0 : Int) (w : World) (h : RdBlk w v (marks k0 n) (marksE (k0 + n) m)) (hw : n ≤ 2147483648) (hp : m ≤ 2147483648) (h0 : 0 ≤ k0) (h1 : k0 ≤ 1073741824) :
    Calls Tryd.prog 26 #[v, .int .i64 k0] w fun e w' => e = .returned (.int .i64 (k0 + n + 2 * m)) ∧ Below w.heap.size w w' := by
  obtain ⟨vW, vP, rfl, h1, h2⟩ := h
  obtain ⟨aW, cW, rfl, _⟩ := h1.shape
  obtain ⟨aP, cP, rfl, _⟩ := h2.shape
  simp only [marks_len, marksE_len] at *
  have H1 := hideIt h1
  have H2 := hideIt h2
  clear h1 h2
  have hb0 : Below w.heap.size w (w.alloc (.cells #[.slice aW n cW, .slice aP m cP] 26)) := (Below.refl _ _).alloc (Nat.le_refl _) _
  go_enter Tryd.func26, Tryd.ntmps26
  go_wp2_with fail
  refine (heldIntS_any _ n k0 _ (Rd.below H1.out hb0) hw h0 (by omega)).mono ?_
  rintro e w1 ⟨rfl, rfl⟩
  go_wp2_with fail
  refine (heldSectorS_any _ m (k0 + n) _ (Rd.below H2.out hb0) hp (by omega) (by omega)).mono ?_
  rintro e w2 ⟨rfl, rfl⟩
  go_wp2
  go_ret
  exact ⟨rfl, hb0⟩
set_option maxHeartbeats 2000000 in
theorem szBlk_any (aW aP : Option Addr) (n m cW cP : Nat) (w : World) (hn : n ≤ maxLen) (hm : m ≤ maxLen) :
    Calls Tryd.prog 19 #[.agg #[.slice aW n cW, .slice aP m cP], .int .i64 1048576] w fun e w' => e = .returned (.int .i64 (if 1048576 < n + m then -1 else 1048576 - n - m)) ∧ Below w.heap.size w w' := by
  have hb0 : Below w.heap.size w (w.alloc (.cells #[.slice aW n cW, .slice aP m cP] 45)) := (Below.refl _ _).alloc (Nat.le_refl _) _
  by_cases c1 : (1048576 : Int) < (n : Int)
  · have e1 : less 1048576 n = -1 := by unfold less; rw [if_pos c1]
    have e2 : (if 1048576 < n + m then -1 else 1048576 - n - m : Int) = -1 := by rw [if_pos (by omega)]
    rw [e2]
    have E1 := hideIt e1
    clear e1 e2
    go_enter Tryd.func19, Tryd.ntmps19
    go_wp2_with (go_at_call 43; refine (szIntS_any aW n cW _ _ hn (by omega) (by omega)).mono ?_; rw [E1.out]; rintro e w' ⟨rfl, rfl⟩)
    go_ret
    exact ⟨rfl, hb0⟩
  · have e1 : less 1048576 n = 1048576 - n := by unfold less; rw [if_neg c1]
    have E1 := hideIt e1
    clear e1
    by_cases c2 : (1048576 - n : Int) < (m : Int)
    · have e2 : less (1048576 - n) m = -1 := by unfold less; rw [if_pos c2]
      have e3 : (if 1048576 < n + m then -1 else 1048576 - n - m : Int) = -1 := by rw [if_pos (by omega)]
      rw [e3]
      have E2 := hideIt e2
      clear e2 e3
      go_enter Tryd.func19, Tryd.ntmps19
      go_wp2_with (first | (go_at_call 43; refine (szIntS_any aW n cW _ _ hn (by omega) (by omega)).mono ?_; rw [E1.out]; rintro e w' ⟨rfl, rfl⟩) | (go_at_call 44; refine (szSectorS_any aP m cP _ _ hm (by omega) (by omega)).mono ?_; rw [E2.out]; rintro e w' ⟨rfl, rfl⟩))
      go_ret
      exact ⟨rfl, hb0⟩
    · have e2 : less (1048576 - n) m = 1048576 - n - m := by unfold less; rw [if_neg c2]
      have e3 : (if 1048576 < n + m then -1 else 1048576 - n - m : Int) = 1048576 - n - m := by rw [if_neg (by omega)]
      rw [e3]
      have E2 := hideIt e2
      clear e2 e3
      go_enter Tryd.func19, Tryd.ntmps19
      go_wp2_with (first | (go_at_call 43; refine (szIntS_any aW n cW _ _ hn (by omega) (by omega)).mono ?_; rw [E1.out]; rintro e w' ⟨rfl, rfl⟩) | (go_at_call 44; refine (szSectorS_any aP m cP _ _ hm (by omega) (by omega)).mono ?_; rw [E2.out]; rintro e w' ⟨rfl, rfl⟩))
      go_ret
      exact ⟨rfl, hb0⟩
end Go.Proofs.YtbjcoeimcdodjaaDoor
