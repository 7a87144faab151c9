/- What a right device is: by the program. -/
import Derived.Test.YtbdmfjlbjohanaaDoorBlkOK
namespace Go.Proofs.YtbdmfjlbjohanaaDoor
open Go.RowKit

set_option maxHeartbeats 4000000 in
theorem implBlkOK_any (v : Value) (ws : List Int) (ps : List Se) (w : World) (h : RdBlk w v ws ps) (hw : ws.length ≤ 1048576) (hp : ps.length ≤ 1048576) :
    Calls Tryd.prog 18 #[v] w fun e w' => e = .returned (.bool (blkB ws ps)) ∧ Below w.heap.size w w' := by
  obtain ⟨vW, vP, rfl, h1, h2⟩ := h
  obtain ⟨aW, cW, rfl, _, hcW⟩ := h1.shape
  obtain ⟨aP, cP, rfl, _, hcP⟩ := h2.shape
  have H1 := hideIt h1
  clear h1 h2 hcW
  have hb0 : Below w.heap.size w (w.alloc (.cells #[.slice aW ws.length cW, .slice aP ps.length cP] 26)) := (Below.refl _ _).alloc (Nat.le_refl _) _
  by_cases c1 : ws.length = 32
  case neg =>
    have E := hideIt (blkB_len1 (ps := ps) c1)
    have c1' : ((ws.length : Int) != 32) = true := by simp; omega
    clear c1
    go_enter Tryd.func18, Tryd.ntmps18
    go_wp2
    go_ret
    exact ⟨ret_bool E.out.symm, hb0⟩
  have c1n : ((ws.length : Int) != 32) = false := by simp; omega
  have hpos : 0 < ws.length := by omega
  have C1 := hideIt c1
  clear c1
  by_cases c2 : 400 < ps.length
  · have E := hideIt (blkB_len2 (ws := ws) c2)
    go_enter Tryd.func18, Tryd.ntmps18
    go_wp2
    go_ret
    exact ⟨ret_bool E.out.symm, hb0⟩
  by_cases c3 : wordsB ws = true
  case neg =>
    have c3' : wordsB ws = false := by simpa using c3
    obtain ⟨k, hk, hkf⟩ := wordsB_ex c3'
    have E := hideIt (blkB_w (ps := ps) hk hkf)
    have W0 := hideIt c3'
    clear c3 c3' hkf
    go_enter Tryd.func18, Tryd.ntmps18
    go_wp2_with (go_at_call 38; refine (areWords_any _ ws _ (Rd.below H1.out hb0) (by omega)).mono ?_; rw [W0.out]; rintro e w' ⟨rfl, rfl⟩)
    go_ret
    exact ⟨ret_bool E.out.symm, hb0⟩
  have HW := hideIt (wordsB_true c3)
  have W1 := hideIt c3
  clear c3 hpos
  go_enter Tryd.func18, Tryd.ntmps18
  go_wp2_with (go_at_call 38; refine (areWords_any _ ws _ (Rd.below H1.out hb0) (by omega)).mono ?_; rw [W1.out]; rintro e w' ⟨rfl, rfl⟩)
  go_loopw [4, 24] (fun _ i wr => ∃ k : Nat, k ≤ ps.length ∧ i = .int .i64 k ∧ Hid (∀ j (h : j < ps.length), j < k → secB ps[j].at_ = true ∧ wordB ps[j].val = true) ∧ Below w.heap.size w wr) (fun _ i _ => ps.length - (intOf i).toNat)
  case atStart => exact ⟨0, by omega, rfl, fun j h a => absurd a (by omega), hb0⟩
  case round =>
    obtain ⟨m, hm, rfl, H, hbw⟩ := hrel
    have hz := hbw.size
    by_cases hlt2 : m < ps.length
    · obtain ⟨b2, o2, rfl, hbl2, hcell2⟩ := hcP (by omega)
      obtain ⟨d0, d1⟩ := hcell2 m hlt2
      have e0 := (hbw.cell (p := ⟨b2, o2 + m * 2, none⟩) hbl2).trans d0
      have e1 := (hbw.cell (p := ⟨b2, o2 + m * 2 + 1, none⟩) hbl2).trans d1
      have hb1 := hideIt (hbw.alloc hz (.cells #[.int .i64 ps[m].at_, .int .i64 ps[m].val] 53))
      clear d0 d1 hcell2 hcP
      by_cases q : secB ps[m].at_ = true
      · by_cases q2 : wordB ps[m].val = true
        · go_wp2_with (first | (go_at_call 39; refine (isSector_any _ _).mono ?_; rintro e w' ⟨rfl, rfl⟩) | (go_at_call 29; refine (isWord_any _ _).mono ?_; rintro e w' ⟨rfl, rfl⟩))
          go_roundw
          case rel =>
            refine ⟨m + 1, by omega, by go_num, fun j h a => ?_, hb1.out⟩
            by_cases e : j = m
            · subst e; exact ⟨q, q2⟩
            · exact H.out j h (by omega)
          case measure => simp [intOf]; omega
        · have q2' : wordB ps[m].val = false := by simpa using q2
          have E := hideIt (blkB_v (ws := ws) hlt2 q2')
          go_wp2_with (first | (go_at_call 39; refine (isSector_any _ _).mono ?_; rintro e w' ⟨rfl, rfl⟩) | (go_at_call 29; refine (isWord_any _ _).mono ?_; rintro e w' ⟨rfl, rfl⟩))
          go_ret
          exact ⟨ret_bool E.out.symm, hb1.out⟩
      · have q' : secB ps[m].at_ = false := by simpa using q
        have E := hideIt (blkB_a (ws := ws) hlt2 q')
        go_wp2_with (first | (go_at_call 39; refine (isSector_any _ _).mono ?_; rintro e w' ⟨rfl, rfl⟩) | (go_at_call 29; refine (isWord_any _ _).mono ?_; rintro e w' ⟨rfl, rfl⟩))
        go_ret
        exact ⟨ret_bool E.out.symm, hb1.out⟩
    · have E := hideIt (blkB_mk C1.out (by omega) HW.out (fun j h => H.out j h (by omega)))
      go_wp2
      go_ret
      exact ⟨ret_bool E.out.symm, hbw⟩
end Go.Proofs.YtbdmfjlbjohanaaDoor
