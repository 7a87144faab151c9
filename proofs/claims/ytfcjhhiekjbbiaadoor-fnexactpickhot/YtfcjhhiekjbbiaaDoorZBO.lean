/- Several texts laid together: TrD, TrF. -/
import Derived.Test.YtfcjhhiekjbbiaaDoorZBK
import Derived.Laws.CopyOwn
import Derived.Laws.Cover3
import Derived.Deep.OwnRows
import Derived.Deep.RegionHeld3
import Derived.Deep.DeepCutAuto
namespace Go.Proofs.YtfcjhhiekjbbiaaDoor
open Go.RowKit

/-- A number of heat. -/
def isH (n : Int) : Bool := decide (0 ≤ n ∧ n < 65)
def heatsB (zs : List Int) : Bool := decide (∀ k (h : k < zs.length), isH zs[k] = true)
theorem heatsB_mk {zs : List Int} (h : ∀ k (h : k < zs.length), isH zs[k] = true) : heatsB zs = true := decide_eq_true h
theorem heatsB_not {zs : List Int} {k : Nat} (hk : k < zs.length) (h : isH zs[k] = false) : heatsB zs = false := decide_eq_false (fun x => by have := x k hk; rw [h] at this; cases this)
theorem heat_every {hs : List Int} : heatB hs = (decide (hs.length = 128) && heatsB hs) := by
  unfold heatB heatsB isH
  rw [Bool.eq_iff_iff, Bool.and_eq_true]
  simp only [decide_eq_true_eq]
  constructor
  · exact fun h => ⟨h.1, fun k hk => ⟨(h.2 k hk).1, by have := (h.2 k hk).2; omega⟩⟩
  · exact fun h => ⟨h.1, fun k hk => ⟨(h.2 k hk).1, by have := (h.2 k hk).2; omega⟩⟩

theorem isHeat_any (n : Int) (w : World) : Calls Tryd.prog 62 #[.int .i64 n] w fun e w' => e = .returned (.bool (isH n)) ∧ w' = w := by
  by_cases h : 0 ≤ n ∧ n < 65
  · have e : isH n = true := decide_eq_true h
    rw [e]; clear e
    go_enter Tryd.func62, Tryd.ntmps62
    go_wp2_with fail
    refine (isIndex_yes _ _ _ h).mono ?_
    rintro e w' ⟨rfl, hw'⟩
    subst w'
    go_wp2
    go_ret
    exact ⟨rfl, rfl⟩
  · have e : isH n = false := decide_eq_false h
    rw [e]; clear e
    go_enter Tryd.func62, Tryd.ntmps62
    go_wp2_with fail
    refine (isIndex_no _ _ _ h).mono ?_
    rintro e w' ⟨rfl, hw'⟩
    subst w'
    go_wp2
    go_ret
    exact ⟨rfl, rfl⟩

set_option maxHeartbeats 2000000 in
theorem everyHeat_any (v : Value) (zs : List Int) (w : World) (h : RdI w v zs) (hn : zs.length ≤ 2147483648) :
    Calls Tryd.prog 61 #[v, .func (.func 62) #[] #[]] w fun e w' => e = .returned (.bool (heatsB zs)) ∧ w' = w := by
  obtain ⟨ao, cap, rfl, _, hc⟩ := h.shape
  clear h
  go_enter Tryd.func61, Tryd.ntmps61
  go_wp2
  go_loop [6, 9] (fun _ i => ∃ k : Nat, k ≤ zs.length ∧ i = .int .i64 k ∧ Hid (∀ j (h : j < zs.length), j < k → isH zs[j] = true)) (fun _ i => zs.length - (intOf i).toNat)
  case atStart => exact ⟨0, by omega, rfl, fun j h a => absurd a (by omega)⟩
  case round =>
    obtain ⟨k, hk, rfl, H⟩ := hrel
    by_cases hlt : k < zs.length
    · obtain ⟨b, o, rfl, hbl, hcell⟩ := hc (by omega)
      have hck := hcell k hlt
      clear hcell hc
      by_cases q : isH zs[k] = true
      · go_wp2_with (go_at_call 62; refine (isHeat_any _ _).mono ?_; rintro e w' ⟨rfl, rfl⟩)
        go_round
        case rel =>
          refine ⟨k + 1, by omega, by go_num, fun j h a => ?_⟩
          by_cases e : j = k
          · subst e; exact q
          · exact H.out j h (by omega)
        case measure => simp [intOf]; omega
      · have q' : isH zs[k] = false := by simpa using q
        have E := hideIt (heatsB_not hlt q')
        go_wp2_with (go_at_call 62; refine (isHeat_any _ _).mono ?_; rintro e w' ⟨rfl, rfl⟩)
        go_ret
        exact ⟨ret_bool E.out.symm, rfl⟩
    · have E := hideIt (heatsB_mk (fun j h => H.out j h (by omega)))
      clear H
      go_wp2
      go_ret
      exact ⟨ret_bool E.out.symm, rfl⟩

set_option maxRecDepth 100000 in
set_option maxHeartbeats 4000000 in
theorem implHeatOK_any (v : Value) (hs : List Int) (w : World) (h : RdI w v hs) (hn : hs.length ≤ 1048576) : Calls Tryd.prog 43 #[v] w fun e w' => e = .returned (.bool (heatB hs)) ∧ w' = w := by
  have LE := hideIt (everyHeat_any v hs w h (by omega))
  obtain ⟨ao, cap, rfl, -, -⟩ := h.shape
  rw [heat_every]
  clear h
  generalize heatsB hs = b at *
  by_cases c : hs.length = 128
  · rw [decide_eq_true c, Bool.true_and]
    have q : ((hs.length : Int) == 128) = true := by rw [beq_iff_eq]; omega
    clear c
    go_enter Tryd.func43, Tryd.ntmps43
    go_wp2_with fail
    refine LE.out.mono ?_
    rintro e w' ⟨rfl, hw'⟩
    subst w'
    go_wp2
    go_ret
    exact ⟨rfl, rfl⟩
  · rw [decide_eq_false c, Bool.false_and]
    have q : ((hs.length : Int) == 128) = false := by rw [beq_eq_false_iff_ne]; omega
    clear c LE
    go_enter Tryd.func43, Tryd.ntmps43
    go_wp2
    go_ret
    exact ⟨rfl, rfl⟩

/-- What is wrong about heat. -/
def hfI (hs : List Int) : Int := if 4096 < hs.length then 2 else if heatB hs = true then 0 else 1
set_option maxRecDepth 100000 in
set_option maxHeartbeats 4000000 in
theorem heatFault_any (v : Value) (hs : List Int) (w : World) (h : RdI w v hs) (hn : hs.length ≤ 1048576) : Calls Tryd.prog 30 #[v] w fun e w' => e = .returned (.int .i64 (hfI hs)) ∧ w' = w := by
  have LE := hideIt (implHeatOK_any v hs w h hn)
  have EO := hideIt (show hfI hs = if 4096 < hs.length then 2 else if heatB hs = true then 0 else 1 from rfl)
  obtain ⟨ao, cap, rfl, -, -⟩ := h.shape
  generalize hfI hs = r at *
  generalize heatB hs = b at *
  clear h
  by_cases c1 : 4096 < hs.length
  · rw [if_pos c1] at EO
    obtain rfl := EO.out
    have c2 : (hs.length : Int) > 4096 := by omega
    clear EO c1 LE
    go_enter Tryd.func30, Tryd.ntmps30
    go_wp2
    go_ret
    exact ⟨rfl, rfl⟩
  rw [if_neg c1] at EO
  have c2 : ¬ (hs.length : Int) > 4096 := by omega
  clear c1
  cases b
  all_goals
    simp only [if_true, Bool.false_eq_true, if_false] at EO
    obtain rfl := EO.out
    clear EO
    go_enter Tryd.func30, Tryd.ntmps30
    go_wp2_with fail
    refine LE.out.mono ?_
    rintro e w' ⟨rfl, hw'⟩
    subst w'
    go_wp2
    go_ret
    exact ⟨rfl, rfl⟩

@[go_sem] theorem eqlNilInt (a : Option Addr) (l c : Nat) (w : World) : (binOp .eql 26 (.slice a l c) (.slice none 0 0)).run Tryd.prog w = .ok (.bool a.isNone) w := by
  simp only [binOp]
  simp [run_equal_slice_nil w 26 3 a l c Tryd.underlying26]

end Go.Proofs.YtfcjhhiekjbbiaaDoor

namespace Go.Proofs.YtfcjhhiekjbbiaaDoor
open Go.RowKit

theorem heatAt_any (i p : Nat) (w : World) (hi : i < 16) (hp : p < 8) : Calls Tryd.prog 53 #[.int .i64 (i : Int), .int .i64 (p : Int)] w fun e w' => e = .returned (.int .i64 ((8 * i + p : Nat) : Int)) ∧ w' = w := by
  have w1f : IntKind.i64.wrap (8 * (i : Int)) = 8 * (i : Int) := by rw [IntKind.wrap_i64]; omega
  have w2f : IntKind.i64.wrap (8 * (i : Int) + (p : Int)) = 8 * (i : Int) + (p : Int) := by rw [IntKind.wrap_i64]; omega
  rw [show ((8 * i + p : Nat) : Int) = 8 * (i : Int) + (p : Int) by omega]
  go_enter Tryd.func53, Tryd.ntmps53
  go_wp2
  go_ret
  exact ⟨rfl, rfl⟩

theorem hf_ways (hs : List Int) : (4096 < hs.length ∧ hfI hs = 2) ∨ (¬ 4096 < hs.length ∧ heatB hs = false ∧ hfI hs = 1) ∨ (¬ 4096 < hs.length ∧ heatB hs = true ∧ hfI hs = 0) := by
  unfold hfI
  by_cases c : 4096 < hs.length
  · rw [if_pos c]; exact .inl ⟨c, rfl⟩
  · rw [if_neg c]
    cases h : heatB hs with
    | false => exact .inr (.inl ⟨c, rfl, by simp⟩)
    | true => exact .inr (.inr ⟨c, rfl, by simp⟩)

end Go.Proofs.YtfcjhhiekjbbiaaDoor
