/- Heat: by the model. -/
import Derived.Test.YtfcjhhiekjbbiaaPiH
import Derived.Test.YtfcjhhiekjbbiaaIntS
namespace Go.Proofs.Ytfcjhhiekjbbiaa
open Go.RowKit

def newH (n : Nat) : List Int := List.replicate n 1
theorem newH_succ (n : Nat) : newH (n + 1) = newH n ++ [1] := by unfold newH; rw [List.replicate_succ', ]
theorem newH_len (n : Nat) : (newH n).length = n := by simp [newH]
set_option maxRecDepth 100000 in
set_option maxHeartbeats 4000000 in
theorem l09New_any (w : World) : Calls Try.prog 34 #[] w fun e w' => ∃ v', e = .returned v' ∧ Row w' 3 1 w.heap.size w'.heap.size v' (newH 128).length (ints (newH 128)) ∧ Below w.heap.size w w' := by
  have START : Hid (InI w (w.alloc (.cells #[] 3)) (.slice (some ⟨w.heap.size, 0, none⟩) 0 0) (newH 0)) := ⟨World.ownsRow_lit w #[] 0 (Nat.le_refl _) (by simp [maxLen]) (by simp), (Below.refl _ _).alloc (Nat.le_refl _) _⟩
  go_enter Try.func34, Try.ntmps34
  go_wp2
  go_loopw [1, 2] (fun vL i wr => ∃ m : Nat, m ≤ 128 ∧ i = .int .i64 (m : Int) ∧ Hid (InI w wr vL (newH m))) (fun _ i _ => 128 - (intOf i).toNat)
  case atStart => exact ⟨0, by omega, rfl, START⟩
  case round =>
    obtain ⟨m, hm, rfl, J⟩ := hrel
    clear START
    have m0 : (0 : Int) ≤ (m : Int) := by omega
    by_cases hlt : m < 128
    · have m1 : (m : Int) < 128 := by omega
      have EM := hideIt (newH_succ m)
      have l2 : (newH m).length ≤ 128 := by rw [newH_len]; omega
      have JB : Hid (InI w (wr.alloc (.cells #[.int .i64 1] 3)) u1 (newH m)) := J.out.below ((Below.refl _ _).alloc (Nat.le_refl _) _)
      have RB := hideIt (rd_int wr 1)
      have hzb := JB.out.z
      clear J
      go_wp2_with (at_builtin; refine wpList_append_rd _ rfl (.tmp 8) (.tmp 9) 23 rfl w.heap.size 3 (.int .i64 0) 1 8 Try.underlying23 info3 rfl (by decide) _ _ _ rfl JB.out.l _ 1 _ rfl RB.out (one_int _) (by first | omega | (simp [maxLen]; omega)) (by first | omega | (simp; omega)) hzb ?_)
      intro vN wN hownN hgrN
      have G := hideIt (JB.out.grow 1 hownN hgrN)
      rw [← EM.out] at G
      clear hownN hgrN JB RB
      go_wp2
      go_roundw
      case rel => exact ⟨m + 1, by omega, by go_num, G⟩
      case measure => simp [intOf]; omega
    · obtain rfl : m = 128 := by omega
      obtain ⟨-, aN, cN, hvN, -⟩ := (own_block J.out.l).rd
      subst hvN
      go_wp2
      go_ret
      exact ⟨_, rfl, own_block J.out.l, J.out.b⟩
set_option maxRecDepth 100000 in
set_option maxHeartbeats 4000000 in
theorem specNewHeat_any (w : World) : Calls Try.prog 16 #[] w fun e w' => ∃ v', e = .returned v' ∧ Row w' 3 1 w.heap.size w'.heap.size v' (newH 128).length (ints (newH 128)) ∧ Below w.heap.size w w' := by
  have L := hideIt (l09New_any w)
  generalize newH 128 = H at *
  go_enter Try.func16, Try.ntmps16
  go_wp2_with fail
  refine L.out.mono ?_
  rintro e w1 ⟨v1, rfl, hr1, hb1⟩
  have R1 := hideIt hr1
  have B1 := hideIt hb1
  obtain ⟨-, aN, cN, hvN, -⟩ := hr1.rd
  subst hvN
  clear hr1 hb1
  go_wp2
  go_ret
  exact ⟨_, rfl, R1.out, B1.out⟩

end Go.Proofs.Ytfcjhhiekjbbiaa
