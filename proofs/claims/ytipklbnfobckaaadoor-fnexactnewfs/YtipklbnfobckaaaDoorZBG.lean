/- Several texts laid together: PiH, TrA, TrD. -/
import Derived.Test.YtipklbnfobckaaaDoorPiB
import Derived.Test.YtipklbnfobckaaaDoorZAP
import Derived.Test.YtipklbnfobckaaaDoorPiE
import Derived.Test.YtipklbnfobckaaaDoorIntS
import Derived.Laws.CopyOwn
import Derived.Laws.Cover3
namespace Go.Proofs.YtipklbnfobckaaaDoor
open Go.RowKit

/-- A row of numbers that grows. -/
structure InI (W w : World) (vL : Value) (zs : List Int) : Prop where
  l : w.ownsRow W.heap.size 3 1 vL zs.length (ints zs)
  b : Below W.heap.size W w
theorem InI.z {W w : World} {vL : Value} {zs : List Int} (h : InI W w vL zs) : W.heap.size ≤ w.heap.size := h.b.size
theorem InI.below {W w w' : World} {vL : Value} {zs : List Int} (h : InI W w vL zs) (hb : Below w.heap.size w w') : InI W w' vL zs :=
  ⟨((own_block h.l).below hb (Nat.le_refl _)).1, below_trans h.b hb h.z⟩
theorem InI.grow {W w w' : World} {vL v' : Value} {zs : List Int} (h : InI W w vL zs) (x : Int) (ho : w'.ownsRow W.heap.size 3 1 v' (zs.length + 1) (ints zs ++ [.int .i64 x])) (hg : w.grownBy w' vL.ownBlock) : InI W w' v' (zs ++ [x]) :=
  ⟨by rw [ints_snoc, List.length_append]; exact ho, h.b.grown hg h.z (fun q hq => (h.l.lt q hq).1)⟩
theorem one_int (x : Int) : ∀ u ∈ [Value.int .i64 x], u.oneCell' = true := by
  intro u hu
  rw [List.mem_singleton.1 hu]
  rfl
end Go.Proofs.YtipklbnfobckaaaDoor

namespace Go.Proofs.YtipklbnfobckaaaDoor
open Go.RowKit

def newH (n : Nat) : List Int := List.replicate n 1
theorem newH_succ (n : Nat) : newH (n + 1) = newH n ++ [1] := by unfold newH; rw [List.replicate_succ', ]
theorem newH_len (n : Nat) : (newH n).length = n := by simp [newH]
set_option maxRecDepth 100000 in
set_option maxHeartbeats 4000000 in
theorem l09New_any (w : World) : Calls Tryd.prog 10 #[] w fun e w' => ∃ v', e = .returned v' ∧ Row w' 3 1 w.heap.size w'.heap.size v' (newH 128).length (ints (newH 128)) ∧ Below w.heap.size w w' := by
  have START : Hid (InI w (w.alloc (.cells #[] 3)) (.slice (some ⟨w.heap.size, 0, none⟩) 0 0) (newH 0)) := ⟨World.ownsRow_lit w #[] 0 (Nat.le_refl _) (by simp [maxLen]) (by simp), (Below.refl _ _).alloc (Nat.le_refl _) _⟩
  go_enter Tryd.func10, Tryd.ntmps10
  go_wp2
  go_loopw [1, 2] (fun vL i wr => ∃ m : Nat, m ≤ 128 ∧ i = .int .i64 (m : Int) ∧ Hid (InI w wr vL (newH m))) (fun _ i _ => 128 - (intOf i).toNat)
  case atStart => exact ⟨0, by omega, rfl, START⟩
  case round =>
    obtain ⟨m, hm, rfl, J⟩ := hrel
    clear START
    have m0 : (0 : Int) ≤ (m : Int) := by omega
    by_cases hlt : m < 128
    · have m1 : (m : Int) < 128 := by omega
      have EM := hideIt (newH_succ m)
      have l2 : (newH m).length ≤ 128 := by rw [newH_len]; omega
      have JB : Hid (InI w (wr.alloc (.cells #[.int .i64 1] 3)) u1 (newH m)) := J.out.below ((Below.refl _ _).alloc (Nat.le_refl _) _)
      have RB := hideIt (rd_int wr 1)
      have hzb := JB.out.z
      clear J
      go_wp2_with (at_builtin; refine wpList_append_rd _ rfl (.tmp 8) (.tmp 9) 22 rfl w.heap.size 3 (.int .i64 0) 1 8 Tryd.underlying22 info3 rfl (by decide) _ _ _ rfl JB.out.l _ 1 _ rfl RB.out (one_int _) (by first | omega | (simp [maxLen]; omega)) (by first | omega | (simp; omega)) hzb ?_)
      intro vN wN hownN hgrN
      have G := hideIt (JB.out.grow 1 hownN hgrN)
      rw [← EM.out] at G
      clear hownN hgrN JB RB
      go_wp2
      go_roundw
      case rel => exact ⟨m + 1, by omega, by go_num, G⟩
      case measure => simp [intOf]; omega
    · obtain rfl : m = 128 := by omega
      obtain ⟨-, aN, cN, hvN, -⟩ := (own_block J.out.l).rd
      subst hvN
      go_wp2
      go_ret
      exact ⟨_, rfl, own_block J.out.l, J.out.b⟩
end Go.Proofs.YtipklbnfobckaaaDoor

namespace Go.Proofs.YtipklbnfobckaaaDoor
open Go.RowKit

set_option maxRecDepth 100000 in
set_option maxHeartbeats 4000000 in
theorem mul_one (w : World) : Calls Tryd.prog 52 #[.int .u64 1, .int .u64 128] w fun e w' => e = .returned (.tuple #[.int .u64 0, .int .u64 128]) ∧ w' = w := by
  go_enter Tryd.func52, Tryd.ntmps52
  go_wp2
  go_ret2
  exact ⟨rfl, rfl⟩

set_option maxRecDepth 100000 in
set_option maxHeartbeats 4000000 in
theorem mul_two (w : World) : Calls Tryd.prog 41 #[.int .u64 1, .int .u64 128] w fun e w' => e = .returned (.tuple #[.int .u64 0, .int .u64 128]) ∧ w' = w := by
  go_enter Tryd.func41, Tryd.ntmps41
  go_wp2_with fail
  refine (mul_one _).mono ?_
  rintro e w' ⟨rfl, hw'⟩
  subst w'
  go_wp2
  go_ret2
  exact ⟨rfl, rfl⟩

@[go_sem] theorem eqlNilInt (a : Option Addr) (l c : Nat) (w : World) : (binOp .eql 22 (.slice a l c) (.slice none 0 0)).run Tryd.prog w = .ok (.bool a.isNone) w := by
  simp only [binOp]
  simp [run_equal_slice_nil w 22 3 a l c Tryd.underlying22]

end Go.Proofs.YtipklbnfobckaaaDoor
