/- What a right memory is: by the program. -/
import Derived.Test.YtbdmfjlbjohanaaPmOK
namespace Go.Proofs.Ytbdmfjlbjohanaa
open Go.RowKit

set_option maxHeartbeats 4000000 in
theorem implPmOK_any (v : Value) (ws : List Int) (ps : List St) (w : World) (h : RdPm w v ws ps) (hw : ws.length ≤ 1048576) (hp : ps.length ≤ 1048576) :
    Calls Try.prog 18 #[v] w fun e w' => e = .returned (.bool (pmB ws ps)) ∧ Below w.heap.size w w' := by
  obtain ⟨vW, vP, rfl, h1, h2⟩ := h
  obtain ⟨aW, cW, rfl, _, hcW⟩ := h1.shape
  obtain ⟨aP, cP, rfl, _, hcP⟩ := h2.shape
  have H1 := hideIt h1
  clear h1 h2 hcW
  have hb0 : Below w.heap.size w (w.alloc (.cells #[.slice aW ws.length cW, .slice aP ps.length cP] 26)) := (Below.refl _ _).alloc (Nat.le_refl _) _
  by_cases c1 : ws.length = 336
  case neg =>
    have E := hideIt (pmB_len1 (ps := ps) c1)
    have c1' : ((ws.length : Int) != 336) = true := by simp; omega
    clear c1
    go_enter Try.func18, Try.ntmps18
    go_wp2
    go_ret
    exact ⟨ret_bool E.out.symm, hb0⟩
  have c1n : ((ws.length : Int) != 336) = false := by simp; omega
  have hpos : 0 < ws.length := by omega
  have C1 := hideIt c1
  clear c1
  by_cases c2 : 400 < ps.length
  · have E := hideIt (pmB_len2 (ws := ws) c2)
    go_enter Try.func18, Try.ntmps18
    go_wp2
    go_ret
    exact ⟨ret_bool E.out.symm, hb0⟩
  by_cases c3 : wordsB ws = true
  case neg =>
    have c3' : wordsB ws = false := by simpa using c3
    obtain ⟨k, hk, hkf⟩ := wordsB_ex c3'
    have E := hideIt (pmB_w (ps := ps) hk hkf)
    have W0 := hideIt c3'
    clear c3 c3' hkf
    go_enter Try.func18, Try.ntmps18
    go_wp2_with (go_at_call 40; refine (areWords_any _ ws _ (Rd.below H1.out hb0) (by omega)).mono ?_; rw [W0.out]; rintro e w' ⟨rfl, rfl⟩)
    go_ret
    exact ⟨ret_bool E.out.symm, hb0⟩
  have HW := hideIt (wordsB_true c3)
  have W1 := hideIt c3
  clear c3 hpos
  go_enter Try.func18, Try.ntmps18
  go_wp2_with (go_at_call 40; refine (areWords_any _ ws _ (Rd.below H1.out hb0) (by omega)).mono ?_; rw [W1.out]; rintro e w' ⟨rfl, rfl⟩)
  go_loopw [4, 24] (fun _ i wr => ∃ k : Nat, k ≤ ps.length ∧ i = .int .i64 k ∧ Hid (∀ j (h : j < ps.length), j < k → placeB ps[j].at_ = true ∧ wordB ps[j].val = true) ∧ Below w.heap.size w wr) (fun _ i _ => ps.length - (intOf i).toNat)
  case atStart => exact ⟨0, by omega, rfl, fun j h a => absurd a (by omega), hb0⟩
  case round =>
    obtain ⟨m, hm, rfl, H, hbw⟩ := hrel
    have hz := hbw.size
    by_cases hlt2 : m < ps.length
    · obtain ⟨b2, o2, rfl, hbl2, hcell2⟩ := hcP (by omega)
      obtain ⟨d0, d1, d2⟩ := hcell2 m hlt2
      have e0 := (hbw.cell (p := ⟨b2, o2 + m * 3, none⟩) hbl2).trans d0
      have e1 := (hbw.cell (p := ⟨b2, o2 + m * 3 + 1, none⟩) hbl2).trans d1
      have e2 := (hbw.cell (p := ⟨b2, o2 + m * 3 + 2, none⟩) hbl2).trans d2
      have hb1 := hideIt (hbw.alloc hz (.cells #[.int .i64 ps[m].at_, .int .i64 ps[m].val, .bool ps[m].fl] 45))
      clear d0 d1 d2 hcell2 hcP
      by_cases q : placeB ps[m].at_ = true
      · by_cases q2 : wordB ps[m].val = true
        · go_wp2_with (first | (go_at_call 41; refine (isPlace_any _ _).mono ?_; rintro e w' ⟨rfl, rfl⟩) | (go_at_call 32; refine (isWord_any _ _).mono ?_; rintro e w' ⟨rfl, rfl⟩))
          go_roundw
          case rel =>
            refine ⟨m + 1, by omega, by go_num, fun j h a => ?_, hb1.out⟩
            by_cases e : j = m
            · subst e; exact ⟨q, q2⟩
            · exact H.out j h (by omega)
          case measure => simp [intOf]; omega
        · have q2' : wordB ps[m].val = false := by simpa using q2
          have E := hideIt (pmB_v (ws := ws) hlt2 q2')
          go_wp2_with (first | (go_at_call 41; refine (isPlace_any _ _).mono ?_; rintro e w' ⟨rfl, rfl⟩) | (go_at_call 32; refine (isWord_any _ _).mono ?_; rintro e w' ⟨rfl, rfl⟩))
          go_ret
          exact ⟨ret_bool E.out.symm, hb1.out⟩
      · have q' : placeB ps[m].at_ = false := by simpa using q
        have E := hideIt (pmB_a (ws := ws) hlt2 q')
        go_wp2_with (first | (go_at_call 41; refine (isPlace_any _ _).mono ?_; rintro e w' ⟨rfl, rfl⟩) | (go_at_call 32; refine (isWord_any _ _).mono ?_; rintro e w' ⟨rfl, rfl⟩))
        go_ret
        exact ⟨ret_bool E.out.symm, hb1.out⟩
    · have E := hideIt (pmB_mk C1.out (by omega) HW.out (fun j h => H.out j h (by omega)))
      go_wp2
      go_ret
      exact ⟨ret_bool E.out.symm, hbw⟩
end Go.Proofs.Ytbdmfjlbjohanaa
