/- What stands beneath what: by the model. -/
import Derived.Test.YtpgdpachomdfhaaGreatDoorPaA
namespace Go.Proofs.YtpgdpachomdfhaaGreatDoor
open Go.RowKit

set_option maxRecDepth 100000 in
set_option maxHeartbeats 2000000 in
theorem l06Beneath_any (v : Value) (ws : List Ino) (ps : List Den) (a b : Int) (w : World) (h : RdIm w v ws ps) (hn : ps.length ≤ 1048576) :
    Calls Tryz.prog 80 #[v, .int .i64 a, .int .i64 b] w fun e w' => e = .returned (.bool (benN ps 17 a b)) ∧ Below w.heap.size w w' := by
  have HR := hideIt h
  obtain ⟨vW, vP, rfl, h1, h2⟩ := h
  obtain ⟨aW, cW, rfl, _⟩ := h1.shape
  obtain ⟨aP, cP, rfl, _, hcP⟩ := h2.shape
  clear h1 h2 hcP
  obtain ⟨W, hW⟩ : ∃ W, W = w.alloc (.cells #[.slice aW ws.length cW, .slice aP ps.length cP] 33) := ⟨_, rfl⟩
  have CA : Hid (∀ w', Below W.heap.size W w' → w'.cell? ⟨w.heap.size, 0, none⟩ = some (.slice aW ws.length cW) ∧ w'.cell? ⟨w.heap.size, 1, none⟩ = some (.slice aP ps.length cP)) := fun w' hb => by
    have : w'.heap[w.heap.size]? = some (.cells #[.slice aW ws.length cW, .slice aP ps.length cP] 33 (0, 0)) := (hb.block _ (by rw [hW]; simp)).trans (by rw [hW]; exact at_new rfl)
    exact ⟨(two_cells this).1, (two_cells this).2.1⟩
  have BW : Hid (Below w.heap.size w W) := by rw [hW]; exact (Below.refl _ _).alloc (Nat.le_refl _) _
  have hz : w.heap.size ≤ W.heap.size := BW.out.size
  have LU := hideIt (fun d w1 h => l05Up_any (.agg #[.slice aW ws.length cW, .slice aP ps.length cP]) ws ps d w1 h hn)
  go_enter Tryz.func80, Tryz.ntmps80
  go_wp2
  rw [← hW]
  clear hW
  go_loopw [1, 7] (fun d i wr => ∃ (k : Nat) (z : Int), k ≤ 17 ∧ i = .int .i64 k ∧ d = .int .i64 z ∧ Hid (Below W.heap.size W wr ∧ benN ps 17 a b = benN ps (17 - k) z b)) (fun _ i _ => 17 - (intOf i).toNat)
  case atStart => exact ⟨0, a, by omega, rfl, rfl, Below.refl _ _, rfl⟩
  case round =>
    obtain ⟨k, z, hk, rfl, rfl, J⟩ := hrel
    obtain ⟨x0, x1⟩ := CA.out wr J.out.1
    have B := hideIt (below_trans BW.out J.out.1 hz)
    by_cases hlt : k < 17
    · have ES := hideIt (show benN ps (17 - k) z b = if z < 0 then false else if z = b then true else benN ps (17 - (k + 1)) (upD ps z) b by
        rw [show 17 - k = (17 - (k + 1)) + 1 by omega]; rfl)
      have k16 : (k : Int) ≤ 16 := by omega
      by_cases q : z < 0
      · have E := hideIt (show benN ps 17 a b = false by rw [J.out.2, ES.out, if_pos q])
        have q1 : ¬ z ≥ 0 := by omega
        clear ES J
        go_wp2
        go_ret
        exact ⟨ret_bool E.out.symm, B.out⟩
      · have q1 : z ≥ 0 := by omega
        by_cases r : z = b
        · subst r
          have E := hideIt (show benN ps 17 a z = true by rw [J.out.2, ES.out, if_neg q, if_pos rfl])
          clear ES J
          go_wp2
          go_ret
          exact ⟨ret_bool E.out.symm, B.out⟩
        · have r1 : (z == b) = false := beq_eq_false_iff_ne.2 r
          have R := hideIt (HR.out.below B.out)
          have E := hideIt (show benN ps 17 a b = benN ps (17 - (k + 1)) (upD ps z) b by rw [J.out.2, ES.out, if_neg q, if_neg r])
          have J1 := hideIt J.out.1
          clear ES J q r
          go_wp2_with fail
          refine (LU.out _ _ R.out).mono ?_
          rintro e w1 ⟨rfl, hb1⟩
          have B1 := hideIt (below_trans J1.out hb1 J1.out.size)
          clear hb1
          go_wp2
          go_roundw
          case rel => exact ⟨k + 1, _, by omega, by go_num, rfl, B1.out, E.out⟩
          case measure => simp [intOf]; omega
    · obtain rfl : k = 17 := by omega
      have E := hideIt (show benN ps 17 a b = false by rw [J.out.2]; rfl)
      clear J
      go_wp2
      go_ret
      exact ⟨ret_bool E.out.symm, B.out⟩

theorem be_not {ws : List Ino} {ps : List Den} {a b : Int} (h : imgB ws ps = false) : beC ws ps a b = 1 ∧ beV ws ps a b = false := by
  have e : beC ws ps a b = 1 := by unfold beC; rw [h]; rfl
  exact ⟨e, by unfold beV; rw [e]; rfl⟩
theorem be_range {ws : List Ino} {ps : List Den} {a b : Int} (h : imgB ws ps = true) (q : ¬ ((0 ≤ a ∧ a ≤ 15) ∧ (0 ≤ b ∧ b ≤ 15))) : beC ws ps a b = 4 ∧ beV ws ps a b = false := by
  have e : beC ws ps a b = 4 := by unfold beC; rw [if_pos h, if_neg q]
  exact ⟨e, by unfold beV; rw [e]; rfl⟩
theorem be_nodir {ws : List Ino} {ps : List Den} {a b : Int} (h : imgB ws ps = true) (q : (0 ≤ a ∧ a ≤ 15) ∧ (0 ≤ b ∧ b ≤ 15)) (r : ¬ (kindAt ws a = 2 ∧ kindAt ws b = 2)) : beC ws ps a b = 10 ∧ beV ws ps a b = false := by
  have e : beC ws ps a b = 10 := by unfold beC; rw [if_pos h, if_pos q, if_neg r]
  exact ⟨e, by unfold beV; rw [e]; rfl⟩
theorem be_ok {ws : List Ino} {ps : List Den} {a b : Int} (h : imgB ws ps = true) (q : (0 ≤ a ∧ a ≤ 15) ∧ (0 ≤ b ∧ b ≤ 15)) (r : kindAt ws a = 2 ∧ kindAt ws b = 2) : beC ws ps a b = 0 ∧ beV ws ps a b = benN ps 17 a b := by
  have e : beC ws ps a b = 0 := by unfold beC; rw [if_pos h, if_pos q, if_pos r]
  exact ⟨e, by unfold beV; rw [e]; rfl⟩

end Go.Proofs.YtpgdpachomdfhaaGreatDoor
