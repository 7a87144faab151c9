/- What a right device is: by the program, and by the model. -/
import Derived.Test.YtbjcoeimcdodjaaDoorZAE
import Derived.Test.YtbjcoeimcdodjaaDoorWord
namespace Go.Proofs.YtbjcoeimcdodjaaDoor
open Go.RowKit
def blkB (ws : List Int) (ps : List Se) : Bool := decide (ws.length = 32 ∧ ps.length ≤ 400 ∧ (∀ k (h : k < ws.length), wordB ws[k] = true) ∧ ∀ k (h : k < ps.length), secB ps[k].at_ = true ∧ wordB ps[k].val = true)
theorem blkB_mk {ws : List Int} {ps : List Se} (h1 : ws.length = 32) (h2 : ps.length ≤ 400) (h3 : ∀ k (h : k < ws.length), wordB ws[k] = true) (h4 : ∀ k (h : k < ps.length), secB ps[k].at_ = true ∧ wordB ps[k].val = true) : blkB ws ps = true := decide_eq_true ⟨h1, h2, h3, h4⟩
theorem blkB_len {ws : List Int} {ps : List Se} (h : blkB ws ps = true) : ws.length = 32 ∧ ps.length ≤ 400 := ⟨(of_decide_eq_true h).1, (of_decide_eq_true h).2.1⟩
theorem blkB_store {ws : List Int} {ps : List Se} (h : blkB ws ps = true) (k : Nat) (hk : k < ps.length) : secB ps[k].at_ = true ∧ wordB ps[k].val = true := (of_decide_eq_true h).2.2.2 k hk
theorem blkB_len1 {ws : List Int} {ps : List Se} (h : ¬ ws.length = 32) : blkB ws ps = false := decide_eq_false (fun x => h x.1)
theorem blkB_len2 {ws : List Int} {ps : List Se} (h : 400 < ps.length) : blkB ws ps = false := decide_eq_false (fun x => absurd x.2.1 (by omega))
theorem blkB_w {ws : List Int} {ps : List Se} {k : Nat} (hk : k < ws.length) (h : wordB ws[k] = false) : blkB ws ps = false := decide_eq_false (fun x => by have := x.2.2.1 k hk; rw [h] at this; cases this)
theorem blkB_a {ws : List Int} {ps : List Se} {k : Nat} (hk : k < ps.length) (h : secB ps[k].at_ = false) : blkB ws ps = false := decide_eq_false (fun x => by have := (x.2.2.2 k hk).1; rw [h] at this; cases this)
theorem blkB_v {ws : List Int} {ps : List Se} {k : Nat} (hk : k < ps.length) (h : wordB ps[k].val = false) : blkB ws ps = false := decide_eq_false (fun x => by have := (x.2.2.2 k hk).2; rw [h] at this; cases this)
set_option maxHeartbeats 4000000 in
theorem specBlkOK_any (v : Value) (ws : List Int) (ps : List Se) (w : World) (h : RdBlk w v ws ps) (hw : ws.length ≤ 1048576) (hp : ps.length ≤ 1048576) :
    Calls Tryd.prog 36 #[v] w fun e w' => e = .returned (.bool (blkB ws ps)) ∧ Below w.heap.size w w' := by
  obtain ⟨vW, vP, rfl, h1, h2⟩ := h
  obtain ⟨aW, cW, rfl, _, hcW⟩ := h1.shape
  obtain ⟨aP, cP, rfl, _, hcP⟩ := h2.shape
  clear h1 h2
  have hb0 : Below w.heap.size w (w.alloc (.cells #[.slice aW ws.length cW, .slice aP ps.length cP] 26)) := (Below.refl _ _).alloc (Nat.le_refl _) _
  by_cases c1 : ws.length = 32
  case neg =>
    have E := hideIt (blkB_len1 (ps := ps) c1)
    have c1' : ((ws.length : Int) != 32) = true := by simp; omega
    clear c1
    go_enter Tryd.func36, Tryd.ntmps36
    go_wp2
    go_ret
    exact ⟨ret_bool E.out.symm, hb0⟩
  have c1n : ((ws.length : Int) != 32) = false := by simp; omega
  have hpos : 0 < ws.length := by omega
  have C1 := hideIt c1
  clear c1
  by_cases c2 : 400 < ps.length
  · have E := hideIt (blkB_len2 (ws := ws) c2)
    go_enter Tryd.func36, Tryd.ntmps36
    go_wp2
    go_ret
    exact ⟨ret_bool E.out.symm, hb0⟩
  obtain ⟨b, o, rfl, hbl, hcell⟩ := hcW hpos
  clear hcW hpos
  go_enter Tryd.func36, Tryd.ntmps36
  go_wp2
  go_loop [3] (fun i => ∃ k : Nat, k ≤ ws.length ∧ i = .int .i64 k ∧ Hid (∀ j (h : j < ws.length), j < k → wordB ws[j] = true)) (fun i => ws.length - (intOf i).toNat)
  case atStart => exact ⟨0, by omega, rfl, fun j h a => absurd a (by omega)⟩
  case round =>
    obtain ⟨k, hk, rfl, H⟩ := hrel
    by_cases hlt : k < ws.length
    · have hck := (hb0.cell (p := ⟨b, o + k, none⟩) hbl).trans (hcell k hlt)
      clear hcell hcP
      by_cases q : wordB ws[k] = true
      · go_wp2_with (go_at_call 58; refine (l01Word_any _ _).mono ?_; rintro e w' ⟨rfl, rfl⟩)
        go_round
        case rel =>
          refine ⟨k + 1, by omega, by go_num, fun j h a => ?_⟩
          by_cases e : j = k
          · subst e; exact q
          · exact H.out j h (by omega)
        case measure => simp [intOf]; omega
      · have q' : wordB ws[k] = false := by simpa using q
        have E := hideIt (blkB_w (ps := ps) hlt q')
        go_wp2_with (go_at_call 58; refine (l01Word_any _ _).mono ?_; rintro e w' ⟨rfl, rfl⟩)
        go_ret
        exact ⟨ret_bool E.out.symm, hb0⟩
    · have HW := hideIt (fun j (h : j < ws.length) => H.out j h (by omega))
      clear H hcell
      go_wp2
      go_loop [4] (fun i => ∃ k : Nat, k ≤ ps.length ∧ i = .int .i64 k ∧ Hid (∀ j (h : j < ps.length), j < k → secB ps[j].at_ = true ∧ wordB ps[j].val = true)) (fun i => ps.length - (intOf i).toNat)
      case atStart => exact ⟨0, by omega, rfl, fun j h a => absurd a (by omega)⟩
      case round =>
        obtain ⟨m, hm, rfl, H⟩ := hrel
        by_cases hlt2 : m < ps.length
        · obtain ⟨b2, o2, rfl, hbl2, hcell2⟩ := hcP (by omega)
          obtain ⟨d0, d1⟩ := hcell2 m hlt2
          have e0 := (hb0.cell (p := ⟨b2, o2 + m * 2, none⟩) hbl2).trans d0
          have e1 := (hb0.cell (p := ⟨b2, o2 + m * 2 + 1, none⟩) hbl2).trans d1
          clear d0 d1 hcell2 hcP
          by_cases q : secB ps[m].at_ = true
          · by_cases q2 : wordB ps[m].val = true
            · go_wp2_with (first | (go_at_call 59; refine (l01InSec_any _ _).mono ?_; rintro e w' ⟨rfl, rfl⟩) | (go_at_call 58; refine (l01Word_any _ _).mono ?_; rintro e w' ⟨rfl, rfl⟩))
              go_round
              case rel =>
                refine ⟨m + 1, by omega, by go_num, fun j h a => ?_⟩
                by_cases e : j = m
                · subst e; exact ⟨q, q2⟩
                · exact H.out j h (by omega)
              case measure => simp [intOf]; omega
            · have q2' : wordB ps[m].val = false := by simpa using q2
              have E := hideIt (blkB_v (ws := ws) hlt2 q2')
              go_wp2_with (first | (go_at_call 59; refine (l01InSec_any _ _).mono ?_; rintro e w' ⟨rfl, rfl⟩) | (go_at_call 58; refine (l01Word_any _ _).mono ?_; rintro e w' ⟨rfl, rfl⟩))
              go_ret
              exact ⟨ret_bool E.out.symm, hb0⟩
          · have q' : secB ps[m].at_ = false := by simpa using q
            have E := hideIt (blkB_a (ws := ws) hlt2 q')
            go_wp2_with (first | (go_at_call 59; refine (l01InSec_any _ _).mono ?_; rintro e w' ⟨rfl, rfl⟩) | (go_at_call 58; refine (l01Word_any _ _).mono ?_; rintro e w' ⟨rfl, rfl⟩))
            go_ret
            exact ⟨ret_bool E.out.symm, hb0⟩
        · have E := hideIt (blkB_mk C1.out (by omega) HW.out (fun j h => H.out j h (by omega)))
          go_wp2
          go_ret
          exact ⟨ret_bool E.out.symm, hb0⟩
end Go.Proofs.YtbjcoeimcdodjaaDoor
