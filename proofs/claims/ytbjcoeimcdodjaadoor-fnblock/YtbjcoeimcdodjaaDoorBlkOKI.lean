/- What a right device is: by the program, which asks each of a list by a function that it hands on. -/
import Derived.Test.YtbjcoeimcdodjaaDoorBlkOK
import Derived.Test.YtbjcoeimcdodjaaDoorEv
namespace Go.Proofs.YtbjcoeimcdodjaaDoor
open Go.RowKit
def seB (s : Se) : Bool := secB s.at_ && wordB s.val
theorem seB_true {s : Se} (h : seB s = true) : secB s.at_ = true ∧ wordB s.val = true := by unfold seB at h; simpa using h
theorem seB_false {s : Se} {p : Prop} (h : seB s = false) (h1 : secB s.at_ = false → p) (h2 : wordB s.val = false → p) : p := by
  unfold seB at h
  rw [Bool.and_eq_false_iff] at h
  exact h.elim h1 h2
def sesB (ps : List Se) : Bool := decide (∀ k (h : k < ps.length), seB ps[k] = true)
theorem sesB_true {ps : List Se} (h : sesB ps = true) : ∀ k (h : k < ps.length), seB ps[k] = true := of_decide_eq_true h
theorem sesB_mk {ps : List Se} (h : ∀ k (h : k < ps.length), seB ps[k] = true) : sesB ps = true := decide_eq_true h
theorem sesB_not {ps : List Se} {k : Nat} (hk : k < ps.length) (h : seB ps[k] = false) : sesB ps = false := decide_eq_false (fun x => by have := x k hk; rw [h] at this; cases this)
theorem sesB_ex {ps : List Se} (h : sesB ps = false) : ∃ k, ∃ h : k < ps.length, seB ps[k] = false := by
  apply Classical.byContradiction
  intro hn
  have : sesB ps = true := sesB_mk (fun k hk => by
    cases e : seB ps[k] with
    | true => rfl
    | false => exact absurd ⟨k, hk, e⟩ hn)
  rw [h] at this
  cases this
set_option maxHeartbeats 1000000 in
theorem isWrite_any (s : Se) (w : World) : Calls Tryd.prog 42 #[.agg #[.int .i64 s.at_, .int .i64 s.val]] w fun e w' => e = .returned (.bool (seB s)) ∧ Below w.heap.size w w' := by
  have hb0 : Below w.heap.size w (w.alloc (.cells #[.int .i64 s.at_, .int .i64 s.val] 59)) := (Below.refl _ _).alloc (Nat.le_refl _) _
  by_cases q : secB s.at_ = true
  · have E := hideIt (show seB s = wordB s.val by unfold seB; rw [q]; rfl)
    have Q := hideIt q
    clear q
    go_enter Tryd.func42, Tryd.ntmps42
    go_wp2_with (first | (go_at_call 55; refine (isSector_any _ _).mono ?_; rw [Q.out]; rintro e w' ⟨rfl, rfl⟩) | (go_at_call 31; refine (isWord_any _ _).mono ?_; rintro e w' ⟨rfl, rfl⟩))
    go_ret
    exact ⟨ret_bool E.out.symm, hb0⟩
  · have q' : secB s.at_ = false := by simpa using q
    have E := hideIt (show seB s = false by unfold seB; rw [q']; rfl)
    have Q := hideIt q'
    clear q q'
    go_enter Tryd.func42, Tryd.ntmps42
    go_wp2_with (go_at_call 55; refine (isSector_any _ _).mono ?_; rw [Q.out]; rintro e w' ⟨rfl, rfl⟩)
    go_ret
    exact ⟨ret_bool E.out.symm, hb0⟩
set_option maxHeartbeats 4000000 in
theorem everyWrite_any (v : Value) (ps : List Se) (w : World) (h : RdE w v ps) (hn : ps.length ≤ 1048576) :
    Calls Tryd.prog 41 #[v, .func (.func 42) #[] #[]] w fun e w' => e = .returned (.bool (sesB ps)) ∧ Below w.heap.size w w' := by
  obtain ⟨aP, cP, rfl, _, hcP⟩ := h.shape
  clear h
  go_enter Tryd.func41, Tryd.ntmps41
  go_wp2
  go_loopw [6, 9] (fun _ i wr => ∃ k : Nat, k ≤ ps.length ∧ i = .int .i64 k ∧ Hid (∀ j (h : j < ps.length), j < k → seB ps[j] = true) ∧ Below w.heap.size w wr) (fun _ i _ => ps.length - (intOf i).toNat)
  case atStart => exact ⟨0, by omega, rfl, fun j h a => absurd a (by omega), Below.refl _ _⟩
  case round =>
    obtain ⟨m, hm, rfl, H, hbw⟩ := hrel
    have hz := hbw.size
    by_cases hlt2 : m < ps.length
    · obtain ⟨b2, o2, rfl, hbl2, hcell2⟩ := hcP (by omega)
      obtain ⟨d0, d1⟩ := hcell2 m hlt2
      have e0 := (hbw.cell (p := ⟨b2, o2 + m * 2, none⟩) hbl2).trans d0
      have e1 := (hbw.cell (p := ⟨b2, o2 + m * 2 + 1, none⟩) hbl2).trans d1
      have hb1 := hideIt (hbw.alloc hz (.cells #[.int .i64 ps[m].at_, .int .i64 ps[m].val] 59))
      clear d0 d1 hcell2 hcP
      by_cases q : seB ps[m] = true
      · have Q := hideIt q
        clear q
        go_wp2_with (go_at_call 42; refine (isWrite_any ps[m] _).mono ?_; rw [Q.out]; rintro e w' ⟨rfl, hw'⟩)
        have hw2 := hb1.out.trans (hw'.mono (by simp; omega))
        clear hb1 hw'
        go_roundw
        case rel =>
          refine ⟨m + 1, by omega, by go_num, fun j h a => ?_, hw2⟩
          by_cases e : j = m
          · subst e; exact Q.out
          · exact H.out j h (by omega)
        case measure => simp [intOf]; omega
      · have Q := hideIt (show seB ps[m] = false by simpa using q)
        have E := hideIt (sesB_not hlt2 Q.out)
        clear q
        go_wp2_with (go_at_call 42; refine (isWrite_any ps[m] _).mono ?_; rw [Q.out]; rintro e w' ⟨rfl, hw'⟩)
        have hw2 := hb1.out.trans (hw'.mono (by simp; omega))
        go_ret
        exact ⟨ret_bool E.out.symm, hw2⟩
    · have E := hideIt (sesB_mk (fun j h => H.out j h (by omega)))
      go_wp2
      go_ret
      exact ⟨ret_bool E.out.symm, hbw⟩
set_option maxHeartbeats 4000000 in
theorem implBlkOK_any (v : Value) (ws : List Int) (ps : List Se) (w : World) (h : RdBlk w v ws ps) (hw : ws.length ≤ 1048576) (hp : ps.length ≤ 1048576) :
    Calls Tryd.prog 18 #[v] w fun e w' => e = .returned (.bool (blkB ws ps)) ∧ Below w.heap.size w w' := by
  obtain ⟨vW, vP, rfl, h1, h2⟩ := h
  obtain ⟨aW, cW, rfl, _, hcW⟩ := h1.shape
  obtain ⟨aP, cP, rfl, _, hcP⟩ := h2.shape
  have H1 := hideIt h1
  have H2 := hideIt h2
  clear h1 h2 hcW hcP
  have hb0 : Below w.heap.size w (w.alloc (.cells #[.slice aW ws.length cW, .slice aP ps.length cP] 26)) := (Below.refl _ _).alloc (Nat.le_refl _) _
  have HB := hideIt hb0
  by_cases c1 : ws.length = 32
  case neg =>
    have E := hideIt (blkB_len1 (ps := ps) c1)
    have c1' : ((ws.length : Int) == 32) = false := by rw [beq_eq_false_iff_ne]; omega
    clear c1
    go_enter Tryd.func18, Tryd.ntmps18
    go_wp2
    go_ret
    exact ⟨ret_bool E.out.symm, HB.out⟩
  have c1n : ((ws.length : Int) == 32) = true := by simp; omega
  have C1 := hideIt c1
  clear c1
  by_cases c2 : 400 < ps.length
  · have E := hideIt (blkB_len2 (ws := ws) c2)
    have c2' : decide ((ps.length : Int) ≤ 400) = false := by simp; omega
    go_enter Tryd.func18, Tryd.ntmps18
    go_wp2
    go_ret
    exact ⟨ret_bool E.out.symm, HB.out⟩
  by_cases c3 : wordsB ws = true
  case neg =>
    have c3' : wordsB ws = false := by simpa using c3
    obtain ⟨k, hk, hkf⟩ := wordsB_ex c3'
    have E := hideIt (blkB_w (ps := ps) hk hkf)
    have W0 := hideIt c3'
    clear c3 c3' hkf hk
    go_enter Tryd.func18, Tryd.ntmps18
    go_wp2_with (go_at_call 40; refine (everyWord_any _ ws _ (Rd.below H1.out HB.out) (by omega)).mono ?_; rw [W0.out]; rintro e w' ⟨rfl, rfl⟩)
    go_ret
    exact ⟨ret_bool E.out.symm, HB.out⟩
  have HW := hideIt (wordsB_true c3)
  have W1 := hideIt c3
  clear c3
  cases c4 : sesB ps with
  | true =>
    have E := hideIt (blkB_mk C1.out (by omega) HW.out (fun j h => seB_true (sesB_true c4 j h)))
    have W2 := hideIt c4
    clear c4
    go_enter Tryd.func18, Tryd.ntmps18
    go_wp2_with (first | (go_at_call 40; refine (everyWord_any _ ws _ (Rd.below H1.out HB.out) (by omega)).mono ?_; rw [W1.out]; rintro e w' ⟨rfl, rfl⟩) | (go_at_call 41; refine (everyWrite_any _ ps _ (Rd.below H2.out HB.out) (by omega)).mono ?_; rw [W2.out]; rintro e w' ⟨rfl, hw'⟩))
    go_ret
    exact ⟨ret_bool E.out.symm, HB.out.trans (hw'.mono (by simp))⟩
  | false =>
    obtain ⟨k, hk, hkf⟩ := sesB_ex c4
    have E := hideIt (show blkB ws ps = false from seB_false hkf (blkB_a (ws := ws) hk) (blkB_v (ws := ws) hk))
    have W2 := hideIt c4
    clear c4 hk hkf
    go_enter Tryd.func18, Tryd.ntmps18
    go_wp2_with (first | (go_at_call 40; refine (everyWord_any _ ws _ (Rd.below H1.out HB.out) (by omega)).mono ?_; rw [W1.out]; rintro e w' ⟨rfl, rfl⟩) | (go_at_call 41; refine (everyWrite_any _ ps _ (Rd.below H2.out HB.out) (by omega)).mono ?_; rw [W2.out]; rintro e w' ⟨rfl, hw'⟩))
    go_ret
    exact ⟨ret_bool E.out.symm, HB.out.trans (hw'.mono (by simp))⟩
end Go.Proofs.YtbjcoeimcdodjaaDoor
