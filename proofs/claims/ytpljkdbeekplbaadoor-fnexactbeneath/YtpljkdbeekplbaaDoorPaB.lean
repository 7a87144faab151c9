/- What stands beneath what: by the model. -/
import Derived.Test.YtpljkdbeekplbaaDoorPaA
namespace Go.Proofs.YtpljkdbeekplbaaDoor
open Go.RowKit

set_option maxRecDepth 100000 in
set_option maxHeartbeats 2000000 in
theorem l06Beneath_any (v : Value) (ws : List Ino) (ps : List Den) (a b : Int) (w : World) (h : RdIm w v ws ps) (hn : ps.length ≤ 1048576) :
    Calls Tryd.prog 80 #[v, .int .i64 a, .int .i64 b] w fun e w' => e = .returned (.bool (benN ps 17 a b)) ∧ Below w.heap.size w w' := by
  have HR := hideIt h
  obtain ⟨vW, vP, rfl, h1, h2⟩ := h
  obtain ⟨aW, cW, rfl, _⟩ := h1.shape
  obtain ⟨aP, cP, rfl, _, hcP⟩ := h2.shape
  clear h1 h2 hcP
  obtain ⟨W, hW⟩ : ∃ W, W = w.alloc (.cells #[.slice aW ws.length cW, .slice aP ps.length cP] 30) := ⟨_, rfl⟩
  have CA : Hid (∀ w', Below W.heap.size W w' → w'.cell? ⟨w.heap.size, 0, none⟩ = some (.slice aW ws.length cW) ∧ w'.cell? ⟨w.heap.size, 1, none⟩ = some (.slice aP ps.length cP)) := fun w' hb => by
    have : w'.heap[w.heap.size]? = some (.cells #[.slice aW ws.length cW, .slice aP ps.length cP] 30 (0, 0)) := (hb.block _ (by rw [hW]; simp)).trans (by rw [hW]; exact at_new rfl)
    exact ⟨(two_cells this).1, (two_cells this).2.1⟩
  have BW : Hid (Below w.heap.size w W) := by rw [hW]; exact (Below.refl _ _).alloc (Nat.le_refl _) _
  have hz : w.heap.size ≤ W.heap.size := BW.out.size
  have LU := hideIt (fun d w1 h => l05Up_any (.agg #[.slice aW ws.length cW, .slice aP ps.length cP]) ws ps d w1 h hn)
  go_enter Tryd.func80, Tryd.ntmps80
  go_wp2
  rw [← hW]
  clear hW
  go_loopw [1, 7] (fun d i wr => ∃ (k : Nat) (z : Int), k ≤ 17 ∧ i = .int .i64 k ∧ d = .int .i64 z ∧ Hid (Below W.heap.size W wr ∧ benN ps 17 a b = benN ps (17 - k) z b)) (fun _ i _ => 17 - (intOf i).toNat)
  case atStart => exact ⟨0, a, by omega, rfl, rfl, Below.refl _ _, rfl⟩
  case round =>
    obtain ⟨k, z, hk, rfl, rfl, J⟩ := hrel
    obtain ⟨x0, x1⟩ := CA.out wr J.out.1
    have B := hideIt (below_trans BW.out J.out.1 hz)
    by_cases hlt : k < 17
    · have ES := hideIt (show benN ps (17 - k) z b = if z < 0 then false else if z = b then true else benN ps (17 - (k + 1)) (upD ps z) b by
        rw [show 17 - k = (17 - (k + 1)) + 1 by omega]; rfl)
      have k16 : (k : Int) ≤ 16 := by omega
      by_cases q : z < 0
      · have E := hideIt (show benN ps 17 a b = false by rw [J.out.2, ES.out, if_pos q])
        have q1 : ¬ z ≥ 0 := by omega
        clear ES J
        go_wp2
        go_ret
        exact ⟨ret_bool E.out.symm, B.out⟩
      · have q1 : z ≥ 0 := by omega
        by_cases r : z = b
        · subst r
          have E := hideIt (show benN ps 17 a z = true by rw [J.out.2, ES.out, if_neg q, if_pos rfl])
          clear ES J
          go_wp2
          go_ret
          exact ⟨ret_bool E.out.symm, B.out⟩
        · have r1 : (z == b) = false := beq_eq_false_iff_ne.2 r
          have R := hideIt (HR.out.below B.out)
          have E := hideIt (show benN ps 17 a b = benN ps (17 - (k + 1)) (upD ps z) b by rw [J.out.2, ES.out, if_neg q, if_neg r])
          have J1 := hideIt J.out.1
          clear ES J q r
          go_wp2_with fail
          refine (LU.out _ _ R.out).mono ?_
          rintro e w1 ⟨rfl, hb1⟩
          have B1 := hideIt (below_trans J1.out hb1 J1.out.size)
          clear hb1
          go_wp2
          go_roundw
          case rel => exact ⟨k + 1, _, by omega, by go_num, rfl, B1.out, E.out⟩
          case measure => simp [intOf]; omega
    · obtain rfl : k = 17 := by omega
      have E := hideIt (show benN ps 17 a b = false by rw [J.out.2]; rfl)
      clear J
      go_wp2
      go_ret
      exact ⟨ret_bool E.out.symm, B.out⟩

theorem be_not {ws : List Ino} {ps : List Den} {a b : Int} (h : imgB ws ps = false) : beC ws ps a b = 1 ∧ beV ws ps a b = false := by
  have e : beC ws ps a b = 1 := by unfold beC; rw [h]; rfl
  exact ⟨e, by unfold beV; rw [e]; rfl⟩
theorem be_range {ws : List Ino} {ps : List Den} {a b : Int} (h : imgB ws ps = true) (q : ¬ ((0 ≤ a ∧ a ≤ 15) ∧ (0 ≤ b ∧ b ≤ 15))) : beC ws ps a b = 4 ∧ beV ws ps a b = false := by
  have e : beC ws ps a b = 4 := by unfold beC; rw [if_pos h, if_neg q]
  exact ⟨e, by unfold beV; rw [e]; rfl⟩
theorem be_nodir {ws : List Ino} {ps : List Den} {a b : Int} (h : imgB ws ps = true) (q : (0 ≤ a ∧ a ≤ 15) ∧ (0 ≤ b ∧ b ≤ 15)) (r : ¬ (kindAt ws a = 2 ∧ kindAt ws b = 2)) : beC ws ps a b = 10 ∧ beV ws ps a b = false := by
  have e : beC ws ps a b = 10 := by unfold beC; rw [if_pos h, if_pos q, if_neg r]
  exact ⟨e, by unfold beV; rw [e]; rfl⟩
theorem be_ok {ws : List Ino} {ps : List Den} {a b : Int} (h : imgB ws ps = true) (q : (0 ≤ a ∧ a ≤ 15) ∧ (0 ≤ b ∧ b ≤ 15)) (r : kindAt ws a = 2 ∧ kindAt ws b = 2) : beC ws ps a b = 0 ∧ beV ws ps a b = benN ps 17 a b := by
  have e : beC ws ps a b = 0 := by unfold beC; rw [if_pos h, if_pos q, if_pos r]
  exact ⟨e, by unfold beV; rw [e]; rfl⟩

set_option maxRecDepth 100000 in
set_option maxHeartbeats 4000000 in
theorem specBeneath_any (v : Value) (ws : List Ino) (ps : List Den) (a b : Int) (w : World) (h : RdIm w v ws ps) (hw : ws.length ≤ 1048576) (hp : ps.length ≤ 1048576) (hr : ∀ k (h : k < ws.length), ws[k].R) (hs : ∀ k (h : k < ps.length), ps[k].name.size ≤ maxLen) :
    Calls Tryd.prog 34 #[v, .int .i64 a, .int .i64 b] w fun e w' => e = .returned (.tuple #[.bool (beV ws ps a b), .int .i64 (beC ws ps a b)]) ∧ Below w.heap.size w w' := by
  have HRD := hideIt h
  have LI := hideIt (fun w1 h => specImageOK_any v ws ps w1 h hw hp hr hs)
  have LB := hideIt (fun w1 h => l06Beneath_any v ws ps a b w1 h hp)
  obtain ⟨vW, vP, rfl, h1, h2⟩ := h
  obtain ⟨aW, cW, rfl, _, hcW⟩ := h1.shape
  obtain ⟨aP, cP, rfl, _, _⟩ := h2.shape
  have HW := hideIt hcW
  clear h1 h2 hr hs hcW
  have CA : Hid (∀ w', Below (w.alloc (.cells #[.slice aW ws.length cW, .slice aP ps.length cP] 30)).heap.size (w.alloc (.cells #[.slice aW ws.length cW, .slice aP ps.length cP] 30)) w' → w'.cell? ⟨w.heap.size, 0, none⟩ = some (.slice aW ws.length cW) ∧ w'.cell? ⟨w.heap.size, 1, none⟩ = some (.slice aP ps.length cP)) := fun w' hb => by
    have : w'.heap[w.heap.size]? = some (.cells #[.slice aW ws.length cW, .slice aP ps.length cP] 30 (0, 0)) := (hb.block _ (by simp)).trans (at_new rfl)
    exact ⟨(two_cells this).1, (two_cells this).2.1⟩
  have BW : Hid (Below w.heap.size w (w.alloc (.cells #[.slice aW ws.length cW, .slice aP ps.length cP] 30))) := (Below.refl _ _).alloc (Nat.le_refl _) _
  obtain ⟨x0, x1⟩ := CA.out _ (Below.refl _ _)
  cases c1 : imgB ws ps with
  | false =>
    obtain ⟨E1, E2⟩ := be_not (a := a) (b := b) c1
    rw [c1] at LI
    rw [E1, E2]
    clear c1 E1 E2
    go_enter Tryd.func34, Tryd.ntmps34
    go_wp2_with fail
    refine (LI.out _ (HRD.out.below BW.out)).mono ?_
    rintro e w1 ⟨rfl, hb1⟩
    have B1 := hideIt (below_trans BW.out hb1 BW.out.size)
    clear hb1 x0 x1
    go_wp2
    go_ret2
    exact ⟨rfl, B1.out⟩
  | true =>
  have C1 := hideIt c1
  rw [c1] at LI
  by_cases c2 : 0 ≤ a ∧ a ≤ 15
  case neg =>
    obtain ⟨E1, E2⟩ := be_range (a := a) (b := b) c1 (fun q => c2 q.1)
    rw [E1, E2]
    have C2 := hideIt c2
    clear c1 E1 E2 c2
    go_enter Tryd.func34, Tryd.ntmps34
    go_wp2_with fail
    refine (LI.out _ (HRD.out.below BW.out)).mono ?_
    rintro e w1 ⟨rfl, hb1⟩
    have B1 := hideIt (below_trans BW.out hb1 BW.out.size)
    clear hb1 x0 x1
    go_wp2_with fail
    refine (l01In_no _ _ _ _ C2.out).mono ?_
    rintro e w2 ⟨rfl, hw2⟩
    subst w2
    go_wp2
    go_ret2
    exact ⟨rfl, B1.out⟩
  by_cases c3 : 0 ≤ b ∧ b ≤ 15
  case neg =>
    obtain ⟨E1, E2⟩ := be_range (a := a) (b := b) c1 (fun q => c3 q.2)
    rw [E1, E2]
    have C2 := hideIt c2
    have C3 := hideIt c3
    clear c1 E1 E2 c2 c3
    go_enter Tryd.func34, Tryd.ntmps34
    go_wp2_with fail
    refine (LI.out _ (HRD.out.below BW.out)).mono ?_
    rintro e w1 ⟨rfl, hb1⟩
    have B1 := hideIt (below_trans BW.out hb1 BW.out.size)
    clear hb1 x0 x1
    go_wp2_with fail
    refine (l01In_yes _ _ _ _ C2.out).mono ?_
    rintro e w2 ⟨rfl, hw2⟩
    subst w2
    go_wp2_with fail
    refine (l01In_no _ _ _ _ C3.out).mono ?_
    rintro e w2 ⟨rfl, hw2⟩
    subst w2
    go_wp2
    go_ret2
    exact ⟨rfl, B1.out⟩
  obtain ⟨an, rfl⟩ : ∃ n : Nat, a = (n : Int) := ⟨a.toNat, by omega⟩
  obtain ⟨bn, rfl⟩ : ∃ n : Nat, b = (n : Int) := ⟨b.toNat, by omega⟩
  have L16 := (pimg_all c1).1
  have a1 : an < ws.length := by omega
  have b1 : bn < ws.length := by omega
  obtain ⟨bW, oW, rfl, hblW, hcellW⟩ := HW.out (by omega)
  have HK : Hid (∀ w', Below w.heap.size w w' → w'.cell? ⟨bW, oW + an * 11, none⟩ = some (.int .i64 (kindAt ws an)) ∧ w'.cell? ⟨bW, oW + bn * 11, none⟩ = some (.int .i64 (kindAt ws bn))) := fun w' hb => by
    rw [kindAt_of a1, kindAt_of b1]
    exact ⟨(hb.cell (p := ⟨bW, oW + an * 11, none⟩) hblW).trans (hcellW an a1).1, (hb.cell (p := ⟨bW, oW + bn * 11, none⟩) hblW).trans (hcellW bn b1).1⟩
  have C2 := hideIt c2
  have C3 := hideIt c3
  have a2 : (0 : Int) ≤ (an : Int) := by omega
  have a3 : (an : Int) < (ws.length : Int) := by omega
  have b2 : (0 : Int) ≤ (bn : Int) := by omega
  have b3 : (bn : Int) < (ws.length : Int) := by omega
  have NO := hideIt (fun r => be_nodir C1.out ⟨C2.out, C3.out⟩ r)
  have YES := hideIt (fun r => be_ok C1.out ⟨C2.out, C3.out⟩ r)
  clear c1 c2 c3 L16 hcellW HW
  generalize kindAt ws (an : Int) = ka at *
  generalize kindAt ws (bn : Int) = kb at *
  generalize beC ws ps (an : Int) (bn : Int) = ec at *
  generalize beV ws ps (an : Int) (bn : Int) = ev at *
  by_cases c4 : ka = 2
  case neg =>
    obtain ⟨E1, E2⟩ := NO.out (fun q => c4 q.1)
    have q1 : (ka != 2) = true := by rw [bne_iff_ne]; exact c4
    subst E1 E2
    clear c4 NO YES
    go_enter Tryd.func34, Tryd.ntmps34
    go_wp2_with fail
    refine (LI.out _ (HRD.out.below BW.out)).mono ?_
    rintro e w1 ⟨rfl, hb1⟩
    have B1 := hideIt (below_trans BW.out hb1 BW.out.size)
    clear x0 x1
    obtain ⟨x0, x1⟩ := CA.out _ hb1
    obtain ⟨k0, k1⟩ := HK.out _ B1.out
    clear hb1
    go_wp2_with fail
    refine (l01In_yes _ _ _ _ C2.out).mono ?_
    rintro e w2 ⟨rfl, hw2⟩
    subst w2
    go_wp2_with fail
    refine (l01In_yes _ _ _ _ C3.out).mono ?_
    rintro e w2 ⟨rfl, hw2⟩
    subst w2
    go_wp2
    go_ret2
    exact ⟨rfl, B1.out⟩
  by_cases c5 : kb = 2
  case neg =>
    obtain ⟨E1, E2⟩ := NO.out (fun q => c5 q.2)
    have q1 : (ka != 2) = false := by rw [c4]; rfl
    have q2 : (kb != 2) = true := by rw [bne_iff_ne]; exact c5
    subst E1 E2
    clear c4 c5 NO YES
    go_enter Tryd.func34, Tryd.ntmps34
    go_wp2_with fail
    refine (LI.out _ (HRD.out.below BW.out)).mono ?_
    rintro e w1 ⟨rfl, hb1⟩
    have B1 := hideIt (below_trans BW.out hb1 BW.out.size)
    clear x0 x1
    obtain ⟨x0, x1⟩ := CA.out _ hb1
    obtain ⟨k0, k1⟩ := HK.out _ B1.out
    clear hb1
    go_wp2_with fail
    refine (l01In_yes _ _ _ _ C2.out).mono ?_
    rintro e w2 ⟨rfl, hw2⟩
    subst w2
    go_wp2_with fail
    refine (l01In_yes _ _ _ _ C3.out).mono ?_
    rintro e w2 ⟨rfl, hw2⟩
    subst w2
    go_wp2
    go_ret2
    exact ⟨rfl, B1.out⟩
  obtain ⟨E1, E2⟩ := YES.out ⟨c4, c5⟩
  have q1 : (ka != 2) = false := by rw [c4]; rfl
  have q2 : (kb != 2) = false := by rw [c5]; rfl
  subst E1
  have E3 := hideIt E2
  clear c4 c5 NO YES E2
  generalize benN ps 17 (an : Int) (bn : Int) = r at *
  obtain rfl := E3.out
  clear E3
  go_enter Tryd.func34, Tryd.ntmps34
  go_wp2_with fail
  refine (LI.out _ (HRD.out.below BW.out)).mono ?_
  rintro e w1 ⟨rfl, hb1⟩
  have B1 := hideIt (below_trans BW.out hb1 BW.out.size)
  clear x0 x1
  obtain ⟨x0, x1⟩ := CA.out _ hb1
  obtain ⟨k0, k1⟩ := HK.out _ B1.out
  clear hb1
  go_wp2_with fail
  refine (l01In_yes _ _ _ _ C2.out).mono ?_
  rintro e w2 ⟨rfl, hw2⟩
  subst w2
  go_wp2_with fail
  refine (l01In_yes _ _ _ _ C3.out).mono ?_
  rintro e w2 ⟨rfl, hw2⟩
  subst w2
  go_wp2_with fail
  refine (LB.out _ (HRD.out.below B1.out)).mono ?_
  rintro e w2 ⟨rfl, hb2⟩
  have B2 := hideIt (below_trans B1.out hb2 B1.out.size)
  clear hb2 x0 x1 k0 k1
  go_wp2
  go_ret2
  exact ⟨rfl, B2.out⟩
end Go.Proofs.YtpljkdbeekplbaaDoor
