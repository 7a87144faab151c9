/- What is kept: asked, and looked up. -/
import Derived.Test.YtbjcoeimcdodjaaDoorWord
namespace Go.Proofs.YtbjcoeimcdodjaaDoor
open Go.RowKit
def keepI (zs : List Int) (i : Nat) : Int := if zs.length = 0 then 0 else zs[i % zs.length]?.getD 0
def keepsB (zs : List Int) : Bool := decide (∀ k (h : k < zs.length), 0 ≤ zs[k] ∧ zs[k] ≤ 400)
theorem keepsB_mk {zs : List Int} (h : ∀ k (h : k < zs.length), 0 ≤ zs[k] ∧ zs[k] ≤ 400) : keepsB zs = true := decide_eq_true h
theorem keepsB_true {zs : List Int} (h : keepsB zs = true) : ∀ k (h : k < zs.length), 0 ≤ zs[k] ∧ zs[k] ≤ 400 := of_decide_eq_true h
theorem keepsB_not {zs : List Int} {k : Nat} (hk : k < zs.length) (h : ¬ (0 ≤ zs[k] ∧ zs[k] ≤ 400)) : keepsB zs = false := decide_eq_false (fun x => h (x k hk))
theorem keepI_of {zs : List Int} (h : keepsB zs = true) (i : Nat) : 0 ≤ keepI zs i ∧ keepI zs i ≤ 400 := by
  unfold keepI
  by_cases h0 : zs.length = 0
  · rw [if_pos h0]; omega
  · rw [if_neg h0]
    have hl : i % zs.length < zs.length := Nat.mod_lt _ (by omega)
    rw [List.getElem?_eq_getElem hl, Option.getD_some]
    exact keepsB_true h _ hl
theorem l01In400_any (n : Int) (w : World) (h : 0 ≤ n ∧ n ≤ 400) : Calls Tryd.prog 59 #[.int .i64 n, .int .i64 0, .int .i64 400] w fun e w' => e = .returned (.bool true) ∧ w' = w := by
  have e : inB n 0 400 = true := decide_eq_true h
  rw [← e]
  exact l01In_any n 0 400 w
theorem l01In400_not (n : Int) (w : World) (h : ¬ (0 ≤ n ∧ n ≤ 400)) : Calls Tryd.prog 59 #[.int .i64 n, .int .i64 0, .int .i64 400] w fun e w' => e = .returned (.bool false) ∧ w' = w := by
  have e : inB n 0 400 = false := decide_eq_false h
  rw [← e]
  exact l01In_any n 0 400 w
set_option maxHeartbeats 1000000 in
theorem l01Keeps_any (v : Value) (zs : List Int) (w : World) (h : RdI w v zs) (hn : zs.length ≤ 1048576) :
    Calls Tryd.prog 37 #[v] w fun e w' => e = .returned (.bool (keepsB zs)) ∧ w' = w := by
  obtain ⟨ao, cap, rfl, hcap, hc⟩ := h.shape
  clear h
  go_enter Tryd.func37, Tryd.ntmps37
  go_wp2
  go_loop [3] (fun i => ∃ k : Nat, k ≤ zs.length ∧ i = .int .i64 k ∧ Hid (∀ j (h : j < zs.length), j < k → 0 ≤ zs[j] ∧ zs[j] ≤ 400)) (fun i => zs.length - (intOf i).toNat)
  case atStart => exact ⟨0, by omega, rfl, fun j _ h => absurd h (by omega)⟩
  case round =>
    obtain ⟨k, hk, rfl, H⟩ := hrel
    by_cases hlt : k < zs.length
    · obtain ⟨b, o, rfl, hbl, hcell⟩ := hc (by omega)
      have hck := hcell k hlt
      clear hcell hc
      by_cases c : 0 ≤ zs[k] ∧ zs[k] ≤ 400
      · have C := hideIt c
        clear c
        go_wp2_with (go_at_call 59; refine (l01In400_any _ _ C.out).mono ?_; rintro e w' ⟨rfl, rfl⟩)
        go_round
        case rel =>
          refine ⟨k + 1, by omega, by go_num, fun j h a => ?_⟩
          by_cases e : j = k
          · subst e; exact C.out
          · exact H.out j h (by omega)
        case measure => simp [intOf]; omega
      · have C := hideIt c
        have E := hideIt (keepsB_not hlt c)
        clear c
        go_wp2_with (go_at_call 59; refine (l01In400_not _ _ C.out).mono ?_; rintro e w' ⟨rfl, rfl⟩)
        go_ret
        exact ⟨ret_bool E.out.symm, rfl⟩
    · have E := hideIt (keepsB_mk (fun j h => H.out j h (by omega)))
      go_wp2
      go_ret
      exact ⟨ret_bool E.out.symm, rfl⟩
set_option maxHeartbeats 1000000 in
theorem keepAt_any (v : Value) (zs : List Int) (i : Nat) (w : World) (h : RdI w v zs) (hn : zs.length ≤ 1048576) (hi : i ≤ 1048576) :
    Calls Tryd.prog 57 #[v, .int .i64 (i : Int)] w fun e w' => e = .returned (.int .i64 (keepI zs i)) ∧ w' = w := by
  obtain ⟨ao, cap, rfl, hcap, hc⟩ := h.shape
  clear h
  by_cases h0 : zs.length = 0
  · have E := hideIt (show keepI zs i = 0 by unfold keepI; rw [if_pos h0])
    have h0' : ((zs.length : Int) == 0) = true := by simp [h0]
    clear h0 hc
    go_enter Tryd.func57, Tryd.ntmps57
    go_wp2
    go_ret
    exact ⟨ret_int E.out.symm, rfl⟩
  · have hl : i % zs.length < zs.length := Nat.mod_lt _ (by omega)
    have E := hideIt (show keepI zs i = zs[i % zs.length] by unfold keepI; rw [if_neg h0, List.getElem?_eq_getElem hl, Option.getD_some])
    obtain ⟨b, o, rfl, hbl, hcell⟩ := hc (by omega)
    have hck := hcell (i % zs.length) hl
    have hpos : (0 : Int) < (zs.length : Int) := by omega
    have hne : ((zs.length : Int) == 0) = false := by rw [beq_eq_false_iff_ne]; omega
    have m0 : (0 : Int) ≤ (i : Int) % (zs.length : Int) := Int.emod_nonneg _ (by omega)
    have m1 : (i : Int) % (zs.length : Int) < (zs.length : Int) := Int.emod_lt_of_pos _ hpos
    have mt : ((i : Int) % (zs.length : Int)).toNat = i % zs.length := by rw [← Int.natCast_emod, Int.toNat_natCast]
    have hck2 : w.cell? ⟨b, o + ((i : Int) % (zs.length : Int)).toNat, none⟩ = some (.int .i64 zs[i % zs.length]) := by rw [mt]; exact hck
    clear hcell hc h0 mt
    go_enter Tryd.func57, Tryd.ntmps57
    go_wp2
    go_ret
    exact ⟨ret_int E.out.symm, rfl⟩
end Go.Proofs.YtbjcoeimcdodjaaDoor
