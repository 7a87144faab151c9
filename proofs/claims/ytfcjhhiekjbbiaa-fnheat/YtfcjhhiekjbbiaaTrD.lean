/- Heat: by the program. -/
import Derived.Test.YtfcjhhiekjbbiaaTrB
import Derived.Laws.CopyOwn
import Derived.Laws.Cover3
namespace Go.Proofs.Ytfcjhhiekjbbiaa
open Go.RowKit

set_option maxRecDepth 100000 in
set_option maxHeartbeats 4000000 in
theorem mul_one (w : World) : Calls Try.prog 42 #[.int .u64 1, .int .u64 128] w fun e w' => e = .returned (.tuple #[.int .u64 0, .int .u64 128]) ∧ w' = w := by
  go_enter Try.func42, Try.ntmps42
  go_wp2
  go_ret2
  exact ⟨rfl, rfl⟩

set_option maxRecDepth 100000 in
set_option maxHeartbeats 4000000 in
theorem mul_two (w : World) : Calls Try.prog 39 #[.int .u64 1, .int .u64 128] w fun e w' => e = .returned (.tuple #[.int .u64 0, .int .u64 128]) ∧ w' = w := by
  go_enter Try.func39, Try.ntmps39
  go_wp2_with fail
  refine (mul_one _).mono ?_
  rintro e w' ⟨rfl, hw'⟩
  subst w'
  go_wp2
  go_ret2
  exact ⟨rfl, rfl⟩

/-- A number of heat. -/
def isH (n : Int) : Bool := decide (0 ≤ n ∧ n < 65)
def heatsB (zs : List Int) : Bool := decide (∀ k (h : k < zs.length), isH zs[k] = true)
theorem heatsB_mk {zs : List Int} (h : ∀ k (h : k < zs.length), isH zs[k] = true) : heatsB zs = true := decide_eq_true h
theorem heatsB_not {zs : List Int} {k : Nat} (hk : k < zs.length) (h : isH zs[k] = false) : heatsB zs = false := decide_eq_false (fun x => by have := x k hk; rw [h] at this; cases this)
theorem heat_every {hs : List Int} : heatB hs = (decide (hs.length = 128) && heatsB hs) := by
  unfold heatB heatsB isH
  rw [Bool.eq_iff_iff, Bool.and_eq_true]
  simp only [decide_eq_true_eq]
  constructor
  · exact fun h => ⟨h.1, fun k hk => ⟨(h.2 k hk).1, by have := (h.2 k hk).2; omega⟩⟩
  · exact fun h => ⟨h.1, fun k hk => ⟨(h.2 k hk).1, by have := (h.2 k hk).2; omega⟩⟩

theorem isHeat_any (n : Int) (w : World) : Calls Try.prog 32 #[.int .i64 n] w fun e w' => e = .returned (.bool (isH n)) ∧ w' = w := by
  by_cases h : 0 ≤ n ∧ n < 65
  · have e : isH n = true := decide_eq_true h
    rw [e]; clear e
    go_enter Try.func32, Try.ntmps32
    go_wp2_with fail
    refine (isIndex_yes _ _ _ h).mono ?_
    rintro e w' ⟨rfl, hw'⟩
    subst w'
    go_wp2
    go_ret
    exact ⟨rfl, rfl⟩
  · have e : isH n = false := decide_eq_false h
    rw [e]; clear e
    go_enter Try.func32, Try.ntmps32
    go_wp2_with fail
    refine (isIndex_no _ _ _ h).mono ?_
    rintro e w' ⟨rfl, hw'⟩
    subst w'
    go_wp2
    go_ret
    exact ⟨rfl, rfl⟩

set_option maxHeartbeats 2000000 in
theorem everyHeat_any (v : Value) (zs : List Int) (w : World) (h : RdI w v zs) (hn : zs.length ≤ 2147483648) :
    Calls Try.prog 31 #[v, .func (.func 32) #[] #[]] w fun e w' => e = .returned (.bool (heatsB zs)) ∧ w' = w := by
  obtain ⟨ao, cap, rfl, _, hc⟩ := h.shape
  clear h
  go_enter Try.func31, Try.ntmps31
  go_wp2
  go_loop [6, 9] (fun _ i => ∃ k : Nat, k ≤ zs.length ∧ i = .int .i64 k ∧ Hid (∀ j (h : j < zs.length), j < k → isH zs[j] = true)) (fun _ i => zs.length - (intOf i).toNat)
  case atStart => exact ⟨0, by omega, rfl, fun j h a => absurd a (by omega)⟩
  case round =>
    obtain ⟨k, hk, rfl, H⟩ := hrel
    by_cases hlt : k < zs.length
    · obtain ⟨b, o, rfl, hbl, hcell⟩ := hc (by omega)
      have hck := hcell k hlt
      clear hcell hc
      by_cases q : isH zs[k] = true
      · go_wp2_with (go_at_call 32; refine (isHeat_any _ _).mono ?_; rintro e w' ⟨rfl, rfl⟩)
        go_round
        case rel =>
          refine ⟨k + 1, by omega, by go_num, fun j h a => ?_⟩
          by_cases e : j = k
          · subst e; exact q
          · exact H.out j h (by omega)
        case measure => simp [intOf]; omega
      · have q' : isH zs[k] = false := by simpa using q
        have E := hideIt (heatsB_not hlt q')
        go_wp2_with (go_at_call 32; refine (isHeat_any _ _).mono ?_; rintro e w' ⟨rfl, rfl⟩)
        go_ret
        exact ⟨ret_bool E.out.symm, rfl⟩
    · have E := hideIt (heatsB_mk (fun j h => H.out j h (by omega)))
      clear H
      go_wp2
      go_ret
      exact ⟨ret_bool E.out.symm, rfl⟩

set_option maxRecDepth 100000 in
set_option maxHeartbeats 4000000 in
theorem implHeatOK_any (v : Value) (hs : List Int) (w : World) (h : RdI w v hs) (hn : hs.length ≤ 1048576) : Calls Try.prog 13 #[v] w fun e w' => e = .returned (.bool (heatB hs)) ∧ w' = w := by
  have LE := hideIt (everyHeat_any v hs w h (by omega))
  obtain ⟨ao, cap, rfl, -, -⟩ := h.shape
  rw [heat_every]
  clear h
  generalize heatsB hs = b at *
  by_cases c : hs.length = 128
  · rw [decide_eq_true c, Bool.true_and]
    have q : ((hs.length : Int) == 128) = true := by rw [beq_iff_eq]; omega
    clear c
    go_enter Try.func13, Try.ntmps13
    go_wp2_with fail
    refine LE.out.mono ?_
    rintro e w' ⟨rfl, hw'⟩
    subst w'
    go_wp2
    go_ret
    exact ⟨rfl, rfl⟩
  · rw [decide_eq_false c, Bool.false_and]
    have q : ((hs.length : Int) == 128) = false := by rw [beq_eq_false_iff_ne]; omega
    clear c LE
    go_enter Try.func13, Try.ntmps13
    go_wp2
    go_ret
    exact ⟨rfl, rfl⟩

/-- What is wrong about heat. -/
def hfI (hs : List Int) : Int := if 4096 < hs.length then 2 else if heatB hs = true then 0 else 1
set_option maxRecDepth 100000 in
set_option maxHeartbeats 4000000 in
theorem heatFault_any (v : Value) (hs : List Int) (w : World) (h : RdI w v hs) (hn : hs.length ≤ 1048576) : Calls Try.prog 25 #[v] w fun e w' => e = .returned (.int .i64 (hfI hs)) ∧ w' = w := by
  have LE := hideIt (implHeatOK_any v hs w h hn)
  have EO := hideIt (show hfI hs = if 4096 < hs.length then 2 else if heatB hs = true then 0 else 1 from rfl)
  obtain ⟨ao, cap, rfl, -, -⟩ := h.shape
  generalize hfI hs = r at *
  generalize heatB hs = b at *
  clear h
  by_cases c1 : 4096 < hs.length
  · rw [if_pos c1] at EO
    obtain rfl := EO.out
    have c2 : (hs.length : Int) > 4096 := by omega
    clear EO c1 LE
    go_enter Try.func25, Try.ntmps25
    go_wp2
    go_ret
    exact ⟨rfl, rfl⟩
  rw [if_neg c1] at EO
  have c2 : ¬ (hs.length : Int) > 4096 := by omega
  clear c1
  cases b
  all_goals
    simp only [if_true, Bool.false_eq_true, if_false] at EO
    obtain rfl := EO.out
    clear EO
    go_enter Try.func25, Try.ntmps25
    go_wp2_with fail
    refine LE.out.mono ?_
    rintro e w' ⟨rfl, hw'⟩
    subst w'
    go_wp2
    go_ret
    exact ⟨rfl, rfl⟩

@[go_sem] theorem eqlNilInt (a : Option Addr) (l c : Nat) (w : World) : (binOp .eql 23 (.slice a l c) (.slice none 0 0)).run Try.prog w = .ok (.bool a.isNone) w := by
  simp only [binOp]
  simp [run_equal_slice_nil w 23 3 a l c Try.underlying23]

set_option maxRecDepth 100000 in
set_option maxHeartbeats 4000000 in
theorem cloneInt_any (v : Value) (hs : List Int) (w : World) (h : RdI w v hs) (hn : hs.length = 128) :
    Calls Try.prog 27 #[v] w fun e w' => ∃ b c, e = .returned (.slice (some ⟨b, 0, none⟩) 128 c) ∧ Row w' 3 1 w.heap.size w'.heap.size (.slice (some ⟨b, 0, none⟩) 128 c) 128 (ints hs) ∧ Below w.heap.size w w' := by
  have HR : Hid (Rd w 1 v 128 (ints hs)) := by unfold Hid; rw [← hn]; exact h
  obtain ⟨ao, cap, rfl, _, hc⟩ := h.shape
  obtain ⟨b, o, rfl, -, -⟩ := hc (by omega)
  rw [hn] at HR ⊢
  have BB := hideIt ((Below.refl w.heap.size w).alloc (Nat.le_refl _) (.cells #[] 3))
  have OB := hideIt (World.ownsRow_lit (e := 3) (size := 1) w #[] 0 (Nat.le_refl _) (by simp [maxLen]) (by simp))
  have RB : Hid (Rd (w.alloc (.cells #[] 3)) 1 (.slice (some ⟨b, o, none⟩) 128 cap) 128 (ints hs)) := Rd.below HR.out BB.out
  have hz : w.heap.size ≤ (w.alloc (.cells #[] 3)).heap.size := BB.out.size
  clear hc h hn
  go_enter Try.func27, Try.ntmps27
  go_wp2_with (at_builtin; refine wpList_append_rd _ rfl (.tmp 5) (.tmp 6) 23 rfl w.heap.size 3 (.int .i64 0) 1 8 Try.underlying23 info3 rfl (by decide) _ 0 [] rfl OB.out _ 128 (ints hs) rfl RB.out (ints_one _) (by simp [maxLen]) (by omega) hz ?_)
  intro vN wN hownN hgrN
  have ON : Hid (Row wN 3 1 w.heap.size wN.heap.size vN 128 (ints hs)) := own_block hownN
  have BN := hideIt (BB.out.grown hgrN hz (fun q hq => (OB.out.lt q hq).1))
  clear hownN hgrN
  obtain ⟨b, c, rfl, hcb⟩ := own_blk ON.out.1 (by omega)
  go_wp2
  go_ret
  exact ⟨_, _, rfl, ON.out, BN.out⟩
end Go.Proofs.Ytfcjhhiekjbbiaa
