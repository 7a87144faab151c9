/- slices.Equal over texts, SameModel: by the program. -/
import Derived.Test.YtmeiionabonhnaaGreatDoorTrSb
import Derived.Test.YtmeiionabonhnaaGreatDoorTpG
namespace Go.Proofs.YtmeiionabonhnaaGreatDoor
open Go.RowKit
set_option maxRecDepth 100000 in
set_option maxHeartbeats 4000000 in
theorem equalT_any (v1 v2 : Value) (P R : List ByteArray) (w : World) (h1 : RdT w v1 P) (h2 : RdT w v2 R) (PL : P.length ≤ 1048576) :
    Calls Tryz.prog 43 #[v1, v2] w fun e w' => e = .returned (.bool (decide (P = R))) ∧ Below w.heap.size w w' := by
  obtain ⟨aP, cP, rfl, -, hcP⟩ := h1.shape
  obtain ⟨aR, cR, rfl, -, hcR⟩ := h2.shape
  have HP := hideIt hcP
  have HR := hideIt hcR
  clear hcP hcR h1 h2
  obtain ⟨ans, ea⟩ : ∃ ans, ans = decide (P = R) := ⟨_, rfl⟩
  rw [← ea]
  have EA := hideIt ea
  clear ea
  have B2 : Hid (Below w.heap.size w w) := Below.refl _ _
  go_enter Tryz.func43, Tryz.ntmps43
  by_cases c : P.length = R.length
  rotate_left
  · have c1 : ¬ (P.length : Int) = (R.length : Int) := by omega
    have c2 : ((P.length : Int) == (R.length : Int)) = false := beq_eq_false_iff_ne.2 c1
    obtain rfl : ans = false := EA.out.trans (decide_eq_false (show ¬ P = R from fun e => c (by rw [e])))
    clear c HP HR EA
    go_wp2
    go_ret
    exact ⟨rfl, B2.out⟩
  have c1 : (P.length : Int) = (R.length : Int) := by omega
  have c2 : ((P.length : Int) == (R.length : Int)) = true := beq_iff_eq.2 c1
  have CL := hideIt c
  clear c
  have YES : Hid ((∀ j (h : j < P.length) (h' : j < R.length), P[j] = R[j]) → ans = true) := fun h => EA.out.trans (decide_eq_true (List.ext_getElem CL.out h))
  have NO : Hid (∀ j (h : j < P.length) (h' : j < R.length), P[j] ≠ R[j] → ans = false) := fun j h h' n => EA.out.trans (decide_eq_false (fun e => n (by subst e; rfl)))
  clear EA
  go_upto_region 3 with fail
  clear c1 c2
  go_wp2_with fail
  go_loopg [13] P.length (fun g i wr => ∃ k : Nat, k + g = P.length ∧ i = .int .i64 k ∧ Hid (Below w.heap.size w wr) ∧ Hid (∀ j (h : j < P.length) (h' : j < R.length), j < k → P[j] = R[j]))
  case atStart => exact ⟨0, by omega, rfl, Below.refl _ _, fun j h h' q => absurd q (by omega)⟩
  case round =>
    obtain ⟨k, hk, rfl, BW, H⟩ := hrel
    have k0 : (0 : Int) ≤ (k : Int) := by omega
    by_cases hlt : k < P.length
    · have hlr : k < R.length := by have := CL.out; omega
      have k1 : (k : Int) < (P.length : Int) := by omega
      have k2 : (k : Int) < (R.length : Int) := by omega
      obtain ⟨bP, oP, rfl, lP, hcP⟩ := HP.out (by omega)
      obtain ⟨bR, oR, rfl, lR, hcR⟩ := HR.out (by omega)
      have d0 := (BW.out.cell (p := ⟨bP, oP + k, none⟩) lP).trans (hcP k hlt)
      have d1 := (BW.out.cell (p := ⟨bR, oR + k, none⟩) lR).trans (hcR k hlr)
      by_cases c : P[k] = R[k]
      · have H2 : Hid (∀ j (h : j < P.length) (h' : j < R.length), j < k + 1 → P[j] = R[j]) := fun j h h' q => by
          by_cases e : j = k
          · subst e; exact c
          · exact H.out j h h' (by omega)
        rw [← c] at d1
        have hk2 : Hid ((k + 1) + (P.length - (k + 1)) = P.length) := by unfold Hid; omega
        have hg2 : P.length - (k + 1) < gk := by omega
        clear H YES NO c hcP hcR
        have CL2 : P.length ≤ R.length := by have := CL.out; omega
        clear CL
        generalize P[k] = x at *
        go_upto_region 6 with fail
        go_quiet (fail)
        go_wp2
        go_roundg (P.length - (k + 1))
        case measure => exact hg2
        case rel => exact ⟨k + 1, hk2.out, by go_num, below_drewS BW.out _, H2.out⟩
      · obtain rfl : ans = false := NO.out k hlt hlr c
        have c3 : (P[k].toList == R[k].toList) = false := by
          rw [beq_eq_false_iff_ne]
          intro e
          exact c (ByteArray.ext (Array.ext' (by rw [← Lib.toList_data, ← Lib.toList_data]; exact e)))
        clear H YES NO hcP hcR CL
        generalize P[k] = x at *
        generalize R[k] = y at *
        go_upto_region 6 with fail
        go_quiet (fail)
        go_wp2
        go_ret
        exact ⟨rfl, below_drewS BW.out _⟩
    · obtain rfl : k = P.length := by omega
      obtain rfl : ans = true := YES.out (fun j h h' => H.out j h h' h)
      clear H YES NO CL HP HR
      go_wp2
      go_ret
      exact ⟨rfl, BW.out⟩
end Go.Proofs.YtmeiionabonhnaaGreatDoor
