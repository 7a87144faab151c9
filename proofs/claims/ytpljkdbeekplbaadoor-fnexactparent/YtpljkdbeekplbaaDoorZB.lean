/- Several texts laid together: PaA, PaB, PaC. -/
import Derived.Test.YtpljkdbeekplbaaDoorImP
import Derived.Deep.LoopGhost
import Derived.WalkMore
namespace Go.Proofs.YtpljkdbeekplbaaDoor
open Go.RowKit

/-- One stands in another, or is it, within n steps up. -/
def benN (ps : List Den) : Nat → Int → Int → Bool
  | 0, _, _ => false
  | n + 1, a, b => if a < 0 then false else if a = b then true else benN ps n (upD ps a) b
theorem benN_succ (ps : List Den) (n : Nat) (a b : Int) : benN ps (n + 1) a b = if a < 0 then false else if a = b then true else benN ps n (upD ps a) b := rfl
theorem benN_neg (ps : List Den) : ∀ (n : Nat) (a b : Int), a < 0 → benN ps n a b = false
  | 0, _, _, _ => rfl
  | n + 1, a, b, h => by rw [benN_succ, if_pos h]
theorem hangs_succ (ps : List Den) (n : Nat) (d : Int) : hangs ps (n + 1) d = if d = 0 then true else if upD ps d < 0 then false else hangs ps n (upD ps d) := rfl
theorem hangs_none (ps : List Den) (d : Int) : hangs ps 0 d = false := rfl
theorem hangs_mono {ps : List Den} : ∀ (k : Nat) (x : Int), hangs ps k x = true → hangs ps (k + 1) x = true
  | 0, x, h => by rw [hangs_none] at h; cases h
  | k + 1, x, h => by
    rw [hangs_succ] at h ⊢
    by_cases q : x = 0
    · rw [if_pos q]
    · rw [if_neg q] at h ⊢
      by_cases r : upD ps x < 0
      · rw [if_pos r] at h; cases h
      · rw [if_neg r] at h ⊢; exact hangs_mono k _ h
theorem ben_fuel {ps : List Den} (u0 : upD ps 0 = -1) : ∀ (k n : Nat) (a b : Int), hangs ps k a = true → 0 ≤ a → k ≤ n → benN ps n a b = benN ps k a b
  | 0, _, _, _, h, _, _ => by rw [hangs_none] at h; cases h
  | k + 1, 0, _, _, _, _, hn => absurd hn (by omega)
  | k + 1, n + 1, a, b, h, ha, hn => by
    have n0 : ¬ a < 0 := by omega
    rw [benN_succ, benN_succ, if_neg n0, if_neg n0]
    by_cases q : a = b
    · rw [if_pos q, if_pos q]
    · rw [if_neg q, if_neg q]
      rw [hangs_succ] at h
      by_cases r : a = 0
      · subst r
        rw [u0, benN_neg ps n (-1) b (by omega), benN_neg ps k (-1) b (by omega)]
      · rw [if_neg r] at h
        by_cases s : upD ps a < 0
        · rw [if_pos s] at h; cases h
        · rw [if_neg s] at h
          exact ben_fuel u0 k n _ _ h (by omega) (by omega)
theorem hang_step {ps : List Den} {k : Nat} {x : Int} (h : hangs ps (k + 1) x = true) (q : ¬ x = 0) : 0 ≤ upD ps x ∧ hangs ps k (upD ps x) = true := by
  rw [hangs_succ, if_neg q] at h
  by_cases r : upD ps x < 0
  · rw [if_pos r] at h; cases h
  · rw [if_neg r] at h; exact ⟨by omega, h⟩
theorem pimg_all {ws : List Ino} {ps : List Den} (h : imgB ws ps = true) : ws.length = 16 ∧ ps.length = 24 ∧ kindAt ws 0 = 2 ∧ okNs ws = true ∧ entsB ws ps = true ∧ linksB ws ps = true ∧ singB ws = true := by
  unfold imgB at h
  simp only [Bool.and_eq_true, decide_eq_true_eq, beq_iff_eq] at h
  exact h
theorem pimg_ent {ws : List Ino} {ps : List Den} (h : imgB ws ps = true) (i : Nat) (hi : i < ps.length) : (ps[i].child = -1 ∧ ps[i].name.size = 0) ∨ ((1 ≤ ps[i].child ∧ ps[i].child ≤ 15) ∧ (0 ≤ ps[i].dir ∧ ps[i].dir ≤ 15) ∧ nmB ps[i].name = true ∧ ¬ kindAt ws ps[i].child = 0 ∧ kindAt ws ps[i].dir = 2) := by
  obtain ⟨_, _, _, _, he, _, _⟩ := pimg_all h
  have e := (of_decide_eq_true he : ∀ i (h : i < ps.length), entOne ws ps i ps[i] = true) i hi
  unfold entOne at e
  split at e
  · rename_i c
    left
    refine ⟨c, ?_⟩
    unfold Den.freeB at e
    simp only [Bool.and_eq_true, beq_iff_eq] at e
    have := e.2.1
    first
      | exact this
      | simpa using this
      | (simp at this; rw [this]; rfl)
  · right
    simp only [Bool.and_eq_true, decide_eq_true_eq, Bool.not_eq_true', beq_eq_false_iff_ne, beq_iff_eq] at e
    exact ⟨e.1, e.2.1, e.2.2.1, e.2.2.2.1, e.2.2.2.2.1⟩
theorem pimg_root {ws : List Ino} {ps : List Den} (h : imgB ws ps = true) : upD ps 0 = -1 := by
  apply upD_no
  intro j hj e
  rcases pimg_ent h j hj with q | q
  · omega
  · omega
theorem pimg_hangs {ws : List Ino} {ps : List Den} (h : imgB ws ps = true) {i : Int} (h0 : 0 ≤ i ∧ i ≤ 15) (hk : kindAt ws i = 2) : hangs ps 16 i = true := by
  obtain ⟨hl, _, _, _, _, hL, _⟩ := pimg_all h
  obtain ⟨n, rfl⟩ : ∃ n : Nat, i = (n : Int) := ⟨i.toNat, by omega⟩
  have hn : n < ws.length := by omega
  have := (of_decide_eq_true hL : ∀ i (h : i < ws.length), linkB ps i ws[i] = true) n hn
  unfold linkB at this
  rw [kindAt_of hn] at hk
  simp only [Bool.and_eq_true, Bool.or_eq_true, decide_eq_true_eq] at this
  rcases this.2 with q | q
  · exact absurd hk q
  · exact q

/-- What Beneath answers. -/
def beC (ws : List Ino) (ps : List Den) (a b : Int) : Int := if imgB ws ps = true then (if (0 ≤ a ∧ a ≤ 15) ∧ (0 ≤ b ∧ b ≤ 15) then (if kindAt ws a = 2 ∧ kindAt ws b = 2 then 0 else 10) else 4) else 1
def beV (ws : List Ino) (ps : List Den) (a b : Int) : Bool := if beC ws ps a b = 0 then benN ps 17 a b else false
end Go.Proofs.YtpljkdbeekplbaaDoor

namespace Go.Proofs.YtpljkdbeekplbaaDoor
open Go.RowKit

set_option maxRecDepth 100000 in
set_option maxHeartbeats 2000000 in
theorem l06Beneath_any (v : Value) (ws : List Ino) (ps : List Den) (a b : Int) (w : World) (h : RdIm w v ws ps) (hn : ps.length ≤ 1048576) :
    Calls Tryd.prog 80 #[v, .int .i64 a, .int .i64 b] w fun e w' => e = .returned (.bool (benN ps 17 a b)) ∧ Below w.heap.size w w' := by
  have HR := hideIt h
  obtain ⟨vW, vP, rfl, h1, h2⟩ := h
  obtain ⟨aW, cW, rfl, _⟩ := h1.shape
  obtain ⟨aP, cP, rfl, _, hcP⟩ := h2.shape
  clear h1 h2 hcP
  obtain ⟨W, hW⟩ : ∃ W, W = w.alloc (.cells #[.slice aW ws.length cW, .slice aP ps.length cP] 30) := ⟨_, rfl⟩
  have CA : Hid (∀ w', Below W.heap.size W w' → w'.cell? ⟨w.heap.size, 0, none⟩ = some (.slice aW ws.length cW) ∧ w'.cell? ⟨w.heap.size, 1, none⟩ = some (.slice aP ps.length cP)) := fun w' hb => by
    have : w'.heap[w.heap.size]? = some (.cells #[.slice aW ws.length cW, .slice aP ps.length cP] 30 (0, 0)) := (hb.block _ (by rw [hW]; simp)).trans (by rw [hW]; exact at_new rfl)
    exact ⟨(two_cells this).1, (two_cells this).2.1⟩
  have BW : Hid (Below w.heap.size w W) := by rw [hW]; exact (Below.refl _ _).alloc (Nat.le_refl _) _
  have hz : w.heap.size ≤ W.heap.size := BW.out.size
  have LU := hideIt (fun d w1 h => l05Up_any (.agg #[.slice aW ws.length cW, .slice aP ps.length cP]) ws ps d w1 h hn)
  go_enter Tryd.func80, Tryd.ntmps80
  go_wp2
  rw [← hW]
  clear hW
  go_loopw [1, 7] (fun d i wr => ∃ (k : Nat) (z : Int), k ≤ 17 ∧ i = .int .i64 k ∧ d = .int .i64 z ∧ Hid (Below W.heap.size W wr ∧ benN ps 17 a b = benN ps (17 - k) z b)) (fun _ i _ => 17 - (intOf i).toNat)
  case atStart => exact ⟨0, a, by omega, rfl, rfl, Below.refl _ _, rfl⟩
  case round =>
    obtain ⟨k, z, hk, rfl, rfl, J⟩ := hrel
    obtain ⟨x0, x1⟩ := CA.out wr J.out.1
    have B := hideIt (below_trans BW.out J.out.1 hz)
    by_cases hlt : k < 17
    · have ES := hideIt (show benN ps (17 - k) z b = if z < 0 then false else if z = b then true else benN ps (17 - (k + 1)) (upD ps z) b by
        rw [show 17 - k = (17 - (k + 1)) + 1 by omega]; rfl)
      have k16 : (k : Int) ≤ 16 := by omega
      by_cases q : z < 0
      · have E := hideIt (show benN ps 17 a b = false by rw [J.out.2, ES.out, if_pos q])
        have q1 : ¬ z ≥ 0 := by omega
        clear ES J
        go_wp2
        go_ret
        exact ⟨ret_bool E.out.symm, B.out⟩
      · have q1 : z ≥ 0 := by omega
        by_cases r : z = b
        · subst r
          have E := hideIt (show benN ps 17 a z = true by rw [J.out.2, ES.out, if_neg q, if_pos rfl])
          clear ES J
          go_wp2
          go_ret
          exact ⟨ret_bool E.out.symm, B.out⟩
        · have r1 : (z == b) = false := beq_eq_false_iff_ne.2 r
          have R := hideIt (HR.out.below B.out)
          have E := hideIt (show benN ps 17 a b = benN ps (17 - (k + 1)) (upD ps z) b by rw [J.out.2, ES.out, if_neg q, if_neg r])
          have J1 := hideIt J.out.1
          clear ES J q r
          go_wp2_with fail
          refine (LU.out _ _ R.out).mono ?_
          rintro e w1 ⟨rfl, hb1⟩
          have B1 := hideIt (below_trans J1.out hb1 J1.out.size)
          clear hb1
          go_wp2
          go_roundw
          case rel => exact ⟨k + 1, _, by omega, by go_num, rfl, B1.out, E.out⟩
          case measure => simp [intOf]; omega
    · obtain rfl : k = 17 := by omega
      have E := hideIt (show benN ps 17 a b = false by rw [J.out.2]; rfl)
      clear J
      go_wp2
      go_ret
      exact ⟨ret_bool E.out.symm, B.out⟩

theorem be_not {ws : List Ino} {ps : List Den} {a b : Int} (h : imgB ws ps = false) : beC ws ps a b = 1 ∧ beV ws ps a b = false := by
  have e : beC ws ps a b = 1 := by unfold beC; rw [h]; rfl
  exact ⟨e, by unfold beV; rw [e]; rfl⟩
theorem be_range {ws : List Ino} {ps : List Den} {a b : Int} (h : imgB ws ps = true) (q : ¬ ((0 ≤ a ∧ a ≤ 15) ∧ (0 ≤ b ∧ b ≤ 15))) : beC ws ps a b = 4 ∧ beV ws ps a b = false := by
  have e : beC ws ps a b = 4 := by unfold beC; rw [if_pos h, if_neg q]
  exact ⟨e, by unfold beV; rw [e]; rfl⟩
theorem be_nodir {ws : List Ino} {ps : List Den} {a b : Int} (h : imgB ws ps = true) (q : (0 ≤ a ∧ a ≤ 15) ∧ (0 ≤ b ∧ b ≤ 15)) (r : ¬ (kindAt ws a = 2 ∧ kindAt ws b = 2)) : beC ws ps a b = 10 ∧ beV ws ps a b = false := by
  have e : beC ws ps a b = 10 := by unfold beC; rw [if_pos h, if_pos q, if_neg r]
  exact ⟨e, by unfold beV; rw [e]; rfl⟩
theorem be_ok {ws : List Ino} {ps : List Den} {a b : Int} (h : imgB ws ps = true) (q : (0 ≤ a ∧ a ≤ 15) ∧ (0 ≤ b ∧ b ≤ 15)) (r : kindAt ws a = 2 ∧ kindAt ws b = 2) : beC ws ps a b = 0 ∧ beV ws ps a b = benN ps 17 a b := by
  have e : beC ws ps a b = 0 := by unfold beC; rw [if_pos h, if_pos q, if_pos r]
  exact ⟨e, by unfold beV; rw [e]; rfl⟩

set_option maxRecDepth 100000 in
set_option maxHeartbeats 4000000 in
theorem specBeneath_any (v : Value) (ws : List Ino) (ps : List Den) (a b : Int) (w : World) (h : RdIm w v ws ps) (hw : ws.length ≤ 1048576) (hp : ps.length ≤ 1048576) (hr : ∀ k (h : k < ws.length), ws[k].R) (hs : ∀ k (h : k < ps.length), ps[k].name.size ≤ maxLen) :
    Calls Tryd.prog 34 #[v, .int .i64 a, .int .i64 b] w fun e w' => e = .returned (.tuple #[.bool (beV ws ps a b), .int .i64 (beC ws ps a b)]) ∧ Below w.heap.size w w' := by
  have HRD := hideIt h
  have LI := hideIt (fun w1 h => specImageOK_any v ws ps w1 h hw hp hr hs)
  have LB := hideIt (fun w1 h => l06Beneath_any v ws ps a b w1 h hp)
  obtain ⟨vW, vP, rfl, h1, h2⟩ := h
  obtain ⟨aW, cW, rfl, _, hcW⟩ := h1.shape
  obtain ⟨aP, cP, rfl, _, _⟩ := h2.shape
  have HW := hideIt hcW
  clear h1 h2 hr hs hcW
  have CA : Hid (∀ w', Below (w.alloc (.cells #[.slice aW ws.length cW, .slice aP ps.length cP] 30)).heap.size (w.alloc (.cells #[.slice aW ws.length cW, .slice aP ps.length cP] 30)) w' → w'.cell? ⟨w.heap.size, 0, none⟩ = some (.slice aW ws.length cW) ∧ w'.cell? ⟨w.heap.size, 1, none⟩ = some (.slice aP ps.length cP)) := fun w' hb => by
    have : w'.heap[w.heap.size]? = some (.cells #[.slice aW ws.length cW, .slice aP ps.length cP] 30 (0, 0)) := (hb.block _ (by simp)).trans (at_new rfl)
    exact ⟨(two_cells this).1, (two_cells this).2.1⟩
  have BW : Hid (Below w.heap.size w (w.alloc (.cells #[.slice aW ws.length cW, .slice aP ps.length cP] 30))) := (Below.refl _ _).alloc (Nat.le_refl _) _
  obtain ⟨x0, x1⟩ := CA.out _ (Below.refl _ _)
  cases c1 : imgB ws ps with
  | false =>
    obtain ⟨E1, E2⟩ := be_not (a := a) (b := b) c1
    rw [c1] at LI
    rw [E1, E2]
    clear c1 E1 E2
    go_enter Tryd.func34, Tryd.ntmps34
    go_wp2_with fail
    refine (LI.out _ (HRD.out.below BW.out)).mono ?_
    rintro e w1 ⟨rfl, hb1⟩
    have B1 := hideIt (below_trans BW.out hb1 BW.out.size)
    clear hb1 x0 x1
    go_wp2
    go_ret2
    exact ⟨rfl, B1.out⟩
  | true =>
  have C1 := hideIt c1
  rw [c1] at LI
  by_cases c2 : 0 ≤ a ∧ a ≤ 15
  case neg =>
    obtain ⟨E1, E2⟩ := be_range (a := a) (b := b) c1 (fun q => c2 q.1)
    rw [E1, E2]
    have C2 := hideIt c2
    clear c1 E1 E2 c2
    go_enter Tryd.func34, Tryd.ntmps34
    go_wp2_with fail
    refine (LI.out _ (HRD.out.below BW.out)).mono ?_
    rintro e w1 ⟨rfl, hb1⟩
    have B1 := hideIt (below_trans BW.out hb1 BW.out.size)
    clear hb1 x0 x1
    go_wp2_with fail
    refine (l01In_no _ _ _ _ C2.out).mono ?_
    rintro e w2 ⟨rfl, hw2⟩
    subst w2
    go_wp2
    go_ret2
    exact ⟨rfl, B1.out⟩
  by_cases c3 : 0 ≤ b ∧ b ≤ 15
  case neg =>
    obtain ⟨E1, E2⟩ := be_range (a := a) (b := b) c1 (fun q => c3 q.2)
    rw [E1, E2]
    have C2 := hideIt c2
    have C3 := hideIt c3
    clear c1 E1 E2 c2 c3
    go_enter Tryd.func34, Tryd.ntmps34
    go_wp2_with fail
    refine (LI.out _ (HRD.out.below BW.out)).mono ?_
    rintro e w1 ⟨rfl, hb1⟩
    have B1 := hideIt (below_trans BW.out hb1 BW.out.size)
    clear hb1 x0 x1
    go_wp2_with fail
    refine (l01In_yes _ _ _ _ C2.out).mono ?_
    rintro e w2 ⟨rfl, hw2⟩
    subst w2
    go_wp2_with fail
    refine (l01In_no _ _ _ _ C3.out).mono ?_
    rintro e w2 ⟨rfl, hw2⟩
    subst w2
    go_wp2
    go_ret2
    exact ⟨rfl, B1.out⟩
  obtain ⟨an, rfl⟩ : ∃ n : Nat, a = (n : Int) := ⟨a.toNat, by omega⟩
  obtain ⟨bn, rfl⟩ : ∃ n : Nat, b = (n : Int) := ⟨b.toNat, by omega⟩
  have L16 := (pimg_all c1).1
  have a1 : an < ws.length := by omega
  have b1 : bn < ws.length := by omega
  obtain ⟨bW, oW, rfl, hblW, hcellW⟩ := HW.out (by omega)
  have HK : Hid (∀ w', Below w.heap.size w w' → w'.cell? ⟨bW, oW + an * 11, none⟩ = some (.int .i64 (kindAt ws an)) ∧ w'.cell? ⟨bW, oW + bn * 11, none⟩ = some (.int .i64 (kindAt ws bn))) := fun w' hb => by
    rw [kindAt_of a1, kindAt_of b1]
    exact ⟨(hb.cell (p := ⟨bW, oW + an * 11, none⟩) hblW).trans (hcellW an a1).1, (hb.cell (p := ⟨bW, oW + bn * 11, none⟩) hblW).trans (hcellW bn b1).1⟩
  have C2 := hideIt c2
  have C3 := hideIt c3
  have a2 : (0 : Int) ≤ (an : Int) := by omega
  have a3 : (an : Int) < (ws.length : Int) := by omega
  have b2 : (0 : Int) ≤ (bn : Int) := by omega
  have b3 : (bn : Int) < (ws.length : Int) := by omega
  have NO := hideIt (fun r => be_nodir C1.out ⟨C2.out, C3.out⟩ r)
  have YES := hideIt (fun r => be_ok C1.out ⟨C2.out, C3.out⟩ r)
  clear c1 c2 c3 L16 hcellW HW
  generalize kindAt ws (an : Int) = ka at *
  generalize kindAt ws (bn : Int) = kb at *
  generalize beC ws ps (an : Int) (bn : Int) = ec at *
  generalize beV ws ps (an : Int) (bn : Int) = ev at *
  by_cases c4 : ka = 2
  case neg =>
    obtain ⟨E1, E2⟩ := NO.out (fun q => c4 q.1)
    have q1 : (ka != 2) = true := by rw [bne_iff_ne]; exact c4
    subst E1 E2
    clear c4 NO YES
    go_enter Tryd.func34, Tryd.ntmps34
    go_wp2_with fail
    refine (LI.out _ (HRD.out.below BW.out)).mono ?_
    rintro e w1 ⟨rfl, hb1⟩
    have B1 := hideIt (below_trans BW.out hb1 BW.out.size)
    clear x0 x1
    obtain ⟨x0, x1⟩ := CA.out _ hb1
    obtain ⟨k0, k1⟩ := HK.out _ B1.out
    clear hb1
    go_wp2_with fail
    refine (l01In_yes _ _ _ _ C2.out).mono ?_
    rintro e w2 ⟨rfl, hw2⟩
    subst w2
    go_wp2_with fail
    refine (l01In_yes _ _ _ _ C3.out).mono ?_
    rintro e w2 ⟨rfl, hw2⟩
    subst w2
    go_wp2
    go_ret2
    exact ⟨rfl, B1.out⟩
  by_cases c5 : kb = 2
  case neg =>
    obtain ⟨E1, E2⟩ := NO.out (fun q => c5 q.2)
    have q1 : (ka != 2) = false := by rw [c4]; rfl
    have q2 : (kb != 2) = true := by rw [bne_iff_ne]; exact c5
    subst E1 E2
    clear c4 c5 NO YES
    go_enter Tryd.func34, Tryd.ntmps34
    go_wp2_with fail
    refine (LI.out _ (HRD.out.below BW.out)).mono ?_
    rintro e w1 ⟨rfl, hb1⟩
    have B1 := hideIt (below_trans BW.out hb1 BW.out.size)
    clear x0 x1
    obtain ⟨x0, x1⟩ := CA.out _ hb1
    obtain ⟨k0, k1⟩ := HK.out _ B1.out
    clear hb1
    go_wp2_with fail
    refine (l01In_yes _ _ _ _ C2.out).mono ?_
    rintro e w2 ⟨rfl, hw2⟩
    subst w2
    go_wp2_with fail
    refine (l01In_yes _ _ _ _ C3.out).mono ?_
    rintro e w2 ⟨rfl, hw2⟩
    subst w2
    go_wp2
    go_ret2
    exact ⟨rfl, B1.out⟩
  obtain ⟨E1, E2⟩ := YES.out ⟨c4, c5⟩
  have q1 : (ka != 2) = false := by rw [c4]; rfl
  have q2 : (kb != 2) = false := by rw [c5]; rfl
  subst E1
  have E3 := hideIt E2
  clear c4 c5 NO YES E2
  generalize benN ps 17 (an : Int) (bn : Int) = r at *
  obtain rfl := E3.out
  clear E3
  go_enter Tryd.func34, Tryd.ntmps34
  go_wp2_with fail
  refine (LI.out _ (HRD.out.below BW.out)).mono ?_
  rintro e w1 ⟨rfl, hb1⟩
  have B1 := hideIt (below_trans BW.out hb1 BW.out.size)
  clear x0 x1
  obtain ⟨x0, x1⟩ := CA.out _ hb1
  obtain ⟨k0, k1⟩ := HK.out _ B1.out
  clear hb1
  go_wp2_with fail
  refine (l01In_yes _ _ _ _ C2.out).mono ?_
  rintro e w2 ⟨rfl, hw2⟩
  subst w2
  go_wp2_with fail
  refine (l01In_yes _ _ _ _ C3.out).mono ?_
  rintro e w2 ⟨rfl, hw2⟩
  subst w2
  go_wp2_with fail
  refine (LB.out _ (HRD.out.below B1.out)).mono ?_
  rintro e w2 ⟨rfl, hb2⟩
  have B2 := hideIt (below_trans B1.out hb2 B1.out.size)
  clear hb2 x0 x1 k0 k1
  go_wp2
  go_ret2
  exact ⟨rfl, B2.out⟩
end Go.Proofs.YtpljkdbeekplbaaDoor

namespace Go.Proofs.YtpljkdbeekplbaaDoor
open Go.RowKit

set_option maxRecDepth 100000 in
set_option maxHeartbeats 2000000 in
theorem isDir_any (v : Value) (ws : List Ino) (ps : List Den) (i : Int) (w : World) (h : RdIm w v ws ps) (hl : ws.length = 16) (h0 : 0 ≤ i ∧ i ≤ 15) :
    Calls Tryd.prog 72 #[v, .int .i64 i] w fun e w' => e = .returned (.bool (kindAt ws i == 2)) ∧ Below w.heap.size w w' := by
  obtain ⟨vW, vP, rfl, h1, h2⟩ := h
  obtain ⟨aW, cW, rfl, _, hcW⟩ := h1.shape
  obtain ⟨aP, cP, rfl, _, _⟩ := h2.shape
  obtain ⟨n, rfl⟩ : ∃ n : Nat, i = (n : Int) := ⟨i.toNat, by omega⟩
  have hn : n < ws.length := by omega
  obtain ⟨bW, oW, rfl, hblW, hcellW⟩ := hcW (by omega)
  have BW : Hid (Below w.heap.size w (w.alloc (.cells #[.slice (some ⟨bW, oW, none⟩) ws.length cW, .slice aP ps.length cP] 30))) := (Below.refl _ _).alloc (Nat.le_refl _) _
  have k0 := (BW.out.cell (p := ⟨bW, oW + n * 11, none⟩) hblW).trans (hcellW n hn).1
  rw [← kindAt_of hn] at k0
  have n0 : (0 : Int) ≤ (n : Int) := by omega
  have n1 : (n : Int) < (ws.length : Int) := by omega
  clear h1 h2 hcW hcellW hl h0 hn
  generalize kindAt ws (n : Int) = kk at *
  go_enter Tryd.func72, Tryd.ntmps72
  go_wp2
  go_ret
  exact ⟨rfl, BW.out⟩

theorem ben_step {ps : List Den} (u0 : upD ps 0 = -1) {x b : Int} (h : hangs ps 16 x = true) (hx : 0 ≤ x) (q : ¬ x = b) : (x = 0 → benN ps 16 x b = false) ∧ (¬ x = 0 → 0 ≤ upD ps x ∧ hangs ps 16 (upD ps x) = true ∧ benN ps 16 x b = benN ps 16 (upD ps x) b) := by
  have n0 : ¬ x < 0 := by omega
  have e : benN ps 16 x b = benN ps 15 (upD ps x) b := by rw [show (16 : Nat) = 15 + 1 from rfl, benN_succ, if_neg n0, if_neg q]
  refine ⟨fun z => ?_, fun z => ?_⟩
  · rw [e, z, u0, benN_neg ps 15 (-1) b (by omega)]
  · obtain ⟨h1, h2⟩ := hang_step (k := 15) h z
    refine ⟨h1, hangs_mono 15 _ h2, ?_⟩
    rw [e, ben_fuel u0 15 16 _ b h2 h1 (by omega)]
/-- How far below the root one is. -/
def deep (ps : List Den) : Nat → Int → Nat
  | 0, _ => 0
  | n + 1, x => if x = 0 then 0 else 1 + deep ps n (upD ps x)
theorem deep_fuel {ps : List Den} : ∀ (k n : Nat) (a : Int), hangs ps k a = true → k ≤ n → deep ps n a = deep ps k a
  | 0, _, _, h, _ => by rw [hangs_none] at h; cases h
  | k + 1, 0, _, _, hn => absurd hn (by omega)
  | k + 1, n + 1, a, h, hn => by
    show (if a = 0 then 0 else 1 + deep ps n (upD ps a)) = (if a = 0 then 0 else 1 + deep ps k (upD ps a))
    by_cases r : a = 0
    · rw [if_pos r, if_pos r]
    · rw [if_neg r, if_neg r, deep_fuel k n _ (hang_step h r).2 (by omega)]
theorem deep_step {ps : List Den} {x : Int} (h : hangs ps 16 x = true) (q : ¬ x = 0) : deep ps 16 (upD ps x) < deep ps 16 x := by
  have e : deep ps 16 x = 1 + deep ps 15 (upD ps x) := by
    show (if x = 0 then 0 else 1 + deep ps 15 (upD ps x)) = _
    rw [if_neg q]
  rw [e, deep_fuel 15 16 _ (hang_step (k := 15) h q).2 (by omega)]
  omega

set_option maxRecDepth 100000 in
set_option maxHeartbeats 4000000 in
theorem implBeneath_any (v : Value) (ws : List Ino) (ps : List Den) (a b : Int) (w : World) (h : RdIm w v ws ps) (hw : ws.length ≤ 1048576) (hp : ps.length ≤ 1048576) (hT : TS w) (hE : ED w) (hF : FD w) (hr : ∀ k (h : k < ws.length), ws[k].R) (hs : ∀ k (h : k < ps.length), ps[k].name.size ≤ maxLen) :
    Calls Tryd.prog 35 #[v, .int .i64 a, .int .i64 b] w fun e w' => e = .returned (.tuple #[.bool (beV ws ps a b), .int .i64 (beC ws ps a b)]) ∧ Below w.heap.size w w' := by
  have HRD := hideIt h
  have LI := hideIt (fun w1 (hb : Below w.heap.size w w1) => implImageOK_any v ws ps w1 (h.below hb) hw hp (hT.below hb) (hE.below hb) (hF.below hb) hr hs)
  have LD := hideIt (fun i w1 h (hl : ws.length = 16) (h0 : 0 ≤ i ∧ i ≤ 15) => isDir_any v ws ps i w1 h hl h0)
  obtain ⟨vW, vP, rfl, h1, h2⟩ := h
  obtain ⟨aW, cW, rfl, _, _⟩ := h1.shape
  obtain ⟨aP, cP, rfl, _, hcP⟩ := h2.shape
  have HP := hideIt hcP
  clear h1 h2 hr hs hcP hT hE hF
  obtain ⟨W, hW⟩ : ∃ W, W = w.alloc (.cells #[.slice aW ws.length cW, .slice aP ps.length cP] 30) := ⟨_, rfl⟩
  have CA : Hid (∀ w', Below W.heap.size W w' → w'.cell? ⟨w.heap.size, 0, none⟩ = some (.slice aW ws.length cW) ∧ w'.cell? ⟨w.heap.size, 1, none⟩ = some (.slice aP ps.length cP)) := fun w' hb => by
    have : w'.heap[w.heap.size]? = some (.cells #[.slice aW ws.length cW, .slice aP ps.length cP] 30 (0, 0)) := (hb.block _ (by rw [hW]; simp)).trans (by rw [hW]; exact at_new rfl)
    exact ⟨(two_cells this).1, (two_cells this).2.1⟩
  have BW : Hid (Below w.heap.size w W) := by rw [hW]; exact (Below.refl _ _).alloc (Nat.le_refl _) _
  have hzW : w.heap.size ≤ W.heap.size := BW.out.size
  cases c1 : imgB ws ps with
  | false =>
    obtain ⟨E1, E2⟩ := be_not (a := a) (b := b) c1
    rw [c1] at LI
    rw [E1, E2]
    clear c1 E1 E2
    go_enter Tryd.func35, Tryd.ntmps35
    go_wp2_with fail
    go_step3
    go_wp2_with fail
    rw [← hW]
    clear hW
    refine (LI.out _ BW.out).mono ?_
    rintro e w1 ⟨rfl, hb1⟩
    have B1 := hideIt (below_trans BW.out hb1 BW.out.size)
    have BA1 := hideIt hb1
    obtain ⟨x0, x1⟩ := CA.out _ hb1
    clear hb1
    go_wp2
    try rw [Exit.noGoto_ret]
    go_ret2
    exact ⟨rfl, B1.out⟩
  | true =>
  have C1 := hideIt c1
  rw [c1] at LI
  by_cases c2 : 0 ≤ a ∧ a ≤ 15
  case neg =>
    obtain ⟨E1, E2⟩ := be_range (a := a) (b := b) c1 (fun q => c2 q.1)
    rw [E1, E2]
    have C2 : Hid (¬ (0 ≤ a ∧ a < 16)) := fun q => c2 (by omega)
    clear c1 E1 E2 c2
    go_enter Tryd.func35, Tryd.ntmps35
    go_wp2_with fail
    go_step3
    go_wp2_with fail
    rw [← hW]
    clear hW
    refine (LI.out _ BW.out).mono ?_
    rintro e w1 ⟨rfl, hb1⟩
    have B1 := hideIt (below_trans BW.out hb1 BW.out.size)
    have BA1 := hideIt hb1
    obtain ⟨x0, x1⟩ := CA.out _ hb1
    clear hb1
    go_wp2_with fail
    refine (isIndex_no _ _ _ C2.out).mono ?_
    rintro e w2 ⟨rfl, hw2⟩
    subst w2
    go_wp2
    try rw [Exit.noGoto_ret]
    go_ret2
    exact ⟨rfl, B1.out⟩
  by_cases c3 : 0 ≤ b ∧ b ≤ 15
  case neg =>
    obtain ⟨E1, E2⟩ := be_range (a := a) (b := b) c1 (fun q => c3 q.2)
    rw [E1, E2]
    have C2 : Hid (0 ≤ a ∧ a < 16) := by unfold Hid; omega
    have C3 : Hid (¬ (0 ≤ b ∧ b < 16)) := fun q => c3 (by omega)
    clear c1 E1 E2 c2 c3
    go_enter Tryd.func35, Tryd.ntmps35
    go_wp2_with fail
    go_step3
    go_wp2_with fail
    rw [← hW]
    clear hW
    refine (LI.out _ BW.out).mono ?_
    rintro e w1 ⟨rfl, hb1⟩
    have B1 := hideIt (below_trans BW.out hb1 BW.out.size)
    have BA1 := hideIt hb1
    obtain ⟨x0, x1⟩ := CA.out _ hb1
    clear hb1
    go_wp2_with fail
    refine (isIndex_yes _ _ _ C2.out).mono ?_
    rintro e w2 ⟨rfl, hw2⟩
    subst w2
    go_wp2_with fail
    refine (isIndex_no _ _ _ C3.out).mono ?_
    rintro e w2 ⟨rfl, hw2⟩
    subst w2
    go_wp2
    try rw [Exit.noGoto_ret]
    go_ret2
    exact ⟨rfl, B1.out⟩
  have L16 := hideIt (pimg_all c1).1
  have L24 := hideIt (pimg_all c1).2.1
  have U0 := hideIt (pimg_root c1)
  have C2 : Hid (0 ≤ a ∧ a < 16) := by unfold Hid; omega
  have C3 : Hid (0 ≤ b ∧ b < 16) := by unfold Hid; omega
  have D2 := hideIt c2
  have D3 := hideIt c3
  have NO := hideIt (fun r => be_nodir C1.out ⟨D2.out, D3.out⟩ r)
  have YES := hideIt (fun r => be_ok C1.out ⟨D2.out, D3.out⟩ r)
  have HG := hideIt (fun hk => pimg_hangs C1.out D2.out hk)
  have HD : Hid (∀ k (h : k < ps.length), ps[k].child = 0 → False) := fun k h e => by
    rcases pimg_ent C1.out k h with q | q <;> omega
  have LA := hideIt (fun w1 (hb : Below w.heap.size w w1) => LD.out a w1 (HRD.out.below hb) L16.out D2.out)
  have LB := hideIt (fun w1 (hb : Below w.heap.size w w1) => LD.out b w1 (HRD.out.below hb) L16.out D3.out)
  clear c1 c2 c3 LD
  generalize kindAt ws a = ka at *
  generalize kindAt ws b = kb at *
  generalize beC ws ps a b = ec at *
  generalize beV ws ps a b = ev at *
  by_cases c4 : ka = 2
  case neg =>
    obtain ⟨E1, E2⟩ := NO.out (fun q => c4 q.1)
    have Q1 : Hid ((ka == 2) = false) := by unfold Hid; rw [beq_eq_false_iff_ne]; exact c4
    subst E1 E2
    clear c4 NO YES HG
    go_enter Tryd.func35, Tryd.ntmps35
    go_wp2_with fail
    go_step3
    go_wp2_with fail
    rw [← hW]
    clear hW
    refine (LI.out _ BW.out).mono ?_
    rintro e w1 ⟨rfl, hb1⟩
    have B1 := hideIt (below_trans BW.out hb1 BW.out.size)
    have BA1 := hideIt hb1
    obtain ⟨x0, x1⟩ := CA.out _ hb1
    clear hb1
    go_wp2_with fail
    refine (isIndex_yes _ _ _ C2.out).mono ?_
    rintro e w2 ⟨rfl, hw2⟩
    subst w2
    go_wp2_with fail
    refine (isIndex_yes _ _ _ C3.out).mono ?_
    rintro e w2 ⟨rfl, hw2⟩
    subst w2
    go_wp2_with fail
    refine (LA.out _ B1.out).mono ?_
    rw [Q1.out]
    rintro e w3 ⟨rfl, hb⟩
    have B3 := hideIt (below_trans B1.out hb B1.out.size)
    have BA3 := hideIt (below_trans BA1.out hb BA1.out.size)
    clear hb x0 x1
    obtain ⟨x0, x1⟩ := CA.out _ BA3.out
    go_wp2
    try rw [Exit.noGoto_ret]
    go_ret2
    exact ⟨rfl, B3.out⟩
  by_cases c5 : kb = 2
  case neg =>
    obtain ⟨E1, E2⟩ := NO.out (fun q => c5 q.2)
    have Q1 : Hid ((ka == 2) = true) := by unfold Hid; rw [c4]; rfl
    have Q2 : Hid ((kb == 2) = false) := by unfold Hid; rw [beq_eq_false_iff_ne]; exact c5
    subst E1 E2
    clear c4 c5 NO YES HG
    go_enter Tryd.func35, Tryd.ntmps35
    go_wp2_with fail
    go_step3
    go_wp2_with fail
    rw [← hW]
    clear hW
    refine (LI.out _ BW.out).mono ?_
    rintro e w1 ⟨rfl, hb1⟩
    have B1 := hideIt (below_trans BW.out hb1 BW.out.size)
    have BA1 := hideIt hb1
    obtain ⟨x0, x1⟩ := CA.out _ hb1
    clear hb1
    go_wp2_with fail
    refine (isIndex_yes _ _ _ C2.out).mono ?_
    rintro e w2 ⟨rfl, hw2⟩
    subst w2
    go_wp2_with fail
    refine (isIndex_yes _ _ _ C3.out).mono ?_
    rintro e w2 ⟨rfl, hw2⟩
    subst w2
    go_wp2_with fail
    refine (LA.out _ B1.out).mono ?_
    rw [Q1.out]
    rintro e w3 ⟨rfl, hb⟩
    have B3 := hideIt (below_trans B1.out hb B1.out.size)
    have BA3 := hideIt (below_trans BA1.out hb BA1.out.size)
    clear hb x0 x1
    obtain ⟨x0, x1⟩ := CA.out _ BA3.out
    go_wp2_with fail
    refine (LB.out _ B3.out).mono ?_
    rw [Q2.out]
    rintro e w4 ⟨rfl, hb⟩
    have B4 := hideIt (below_trans B3.out hb B3.out.size)
    have BA4 := hideIt (below_trans BA3.out hb BA3.out.size)
    clear hb x0 x1
    obtain ⟨x0, x1⟩ := CA.out _ BA4.out
    go_wp2
    try rw [Exit.noGoto_ret]
    go_ret2
    exact ⟨rfl, B4.out⟩
  obtain ⟨E1, E2⟩ := YES.out ⟨c4, c5⟩
  have Q1 : Hid ((ka == 2) = true) := by unfold Hid; rw [c4]; rfl
  have Q2 : Hid ((kb == 2) = true) := by unfold Hid; rw [c5]; rfl
  have G := hideIt (HG.out c4)
  have ST := hideIt (fun x h hx q => ben_step U0.out (x := x) (b := b) h hx q)
  have EV : Hid (ev = benN ps 16 a b) := E2.trans (ben_fuel U0.out 16 17 a b G.out D2.out.1 (by omega))
  subst E1
  clear c4 c5 NO YES HG E2
  go_enter Tryd.func35, Tryd.ntmps35
  go_wp2_with fail
  go_step3
  go_wp2_with fail
  rw [← hW]
  clear hW
  refine (LI.out _ BW.out).mono ?_
  rintro e w1 ⟨rfl, hb1⟩
  have B1 := hideIt (below_trans BW.out hb1 BW.out.size)
  have BA1 := hideIt hb1
  obtain ⟨x0, x1⟩ := CA.out _ hb1
  clear hb1
  go_wp2_with fail
  refine (isIndex_yes _ _ _ C2.out).mono ?_
  rintro e w2 ⟨rfl, hw2⟩
  subst w2
  go_wp2_with fail
  refine (isIndex_yes _ _ _ C3.out).mono ?_
  rintro e w2 ⟨rfl, hw2⟩
  subst w2
  go_wp2_with fail
  refine (LA.out _ B1.out).mono ?_
  rw [Q1.out]
  rintro e w3 ⟨rfl, hb⟩
  have B3 := hideIt (below_trans B1.out hb B1.out.size)
  have BA3 := hideIt (below_trans BA1.out hb BA1.out.size)
  clear hb x0 x1
  obtain ⟨x0, x1⟩ := CA.out _ BA3.out
  go_wp2_with fail
  refine (LB.out _ B3.out).mono ?_
  rw [Q2.out]
  rintro e w4 ⟨rfl, hb⟩
  have B4 := hideIt (below_trans B3.out hb B3.out.size)
  have BA4 := hideIt (below_trans BA3.out hb BA3.out.size)
  clear hb x0 x1
  obtain ⟨x0, x1⟩ := CA.out _ BA4.out

  clear B3 BA3 B1 BA1 LA LB LI Q1 Q2 x0 x1
  have hz4 : W.heap.size ≤ w4.heap.size := BA4.out.size
  go_wp2_with fail
  go_step3
  go_wp2_with fail
  go_loopg [1] (deep ps 16 a) (fun g d wr => ∃ z : Int, d = .int .i64 z ∧ Hid ((0 ≤ z ∧ hangs ps 16 z = true) ∧ benN ps 16 a b = benN ps 16 z b ∧ Below w4.heap.size w4 wr ∧ deep ps 16 z ≤ g))
  case atStart => exact ⟨a, rfl, ⟨D2.out.1, G.out⟩, rfl, Below.refl _ _, Nat.le_refl _⟩
  case round =>
    obtain ⟨z, rfl, J⟩ := hrel
    have JW := hideIt (below_trans B4.out J.out.2.2.1 B4.out.size)
    have JA := hideIt (below_trans BA4.out J.out.2.2.1 hz4)
    obtain ⟨x0, x1⟩ := CA.out _ JA.out
    by_cases q : z = b
    · have q1 : (z != b) = false := by rw [q]; simp
      have E : Hid (ev = true) := by
        unfold Hid
        rw [EV.out, J.out.2.1, q, show (16 : Nat) = 15 + 1 from rfl, benN_succ, if_neg (by have := J.out.1.1; omega), if_pos rfl]
      clear J q
      obtain rfl := E.out
      go_wp2
      try rw [Exit.noGoto_ret]
      go_ret2
      exact ⟨rfl, JW.out⟩
    · have q1 : (z != b) = true := by rw [bne_iff_ne]; exact q
      obtain ⟨S0, S1⟩ := ST.out z J.out.1.2 J.out.1.1 q
      have S0 := hideIt S0
      have S1 := hideIt S1
      have J3 := hideIt J.out.2.2.1
      have DS := hideIt (fun q => deep_step (ps := ps) (x := z) J.out.1.2 q)
      clear q
      go_wp2_with fail
      generalize gk = G0 at *
      generalize hV : wr = V at *
      clear hV
      have hzV : w4.heap.size ≤ V.heap.size := J3.out.size
      have JD := hideIt J.out
      clear J
      go_loopg [1, 37] ps.length (fun g2 d i wq => ∃ k : Nat, k + g2 = ps.length ∧ d = .int .i64 z ∧ i = .int .i64 k ∧ Hid (Below V.heap.size V wq ∧ ∀ j (h : j < ps.length), j < k → ¬ ps[j].child = z))
      case atStart => exact ⟨0, by omega, rfl, rfl, Below.refl _ _, fun j h a => absurd a (by omega)⟩
      case round =>
        obtain ⟨k, hk, rfl, rfl, K⟩ := hrel
        have KW := hideIt (below_trans JW.out K.out.1 JW.out.size)
        have K4 := hideIt (below_trans J3.out K.out.1 hzV)
        have k0 : (0 : Int) ≤ (k : Int) := by omega
        by_cases hlt : k < ps.length
        · obtain ⟨b0, o0, rfl, hbl, hcell⟩ := HP.out (by omega)
          obtain ⟨a0, a1, a2⟩ := hcell k hlt
          have d0 := (KW.out.cell (p := ⟨b0, o0 + k * 3, none⟩) hbl).trans a0
          have d1 := (KW.out.cell (p := ⟨b0, o0 + k * 3 + 1, none⟩) hbl).trans a1
          have d2 := (KW.out.cell (p := ⟨b0, o0 + k * 3 + 2, none⟩) hbl).trans a2
          have k1 : (k : Int) < (ps.length : Int) := by omega
          have HY := hideIt (fun e : ps[k].child = z => upD_yes hlt K.out.2 e)
          have HX := hideIt (fun (e : ¬ ps[k].child = z) j (h : j < ps.length) (a : j < k + 1) => show ¬ ps[j].child = z by
            by_cases q : j = k
            · subst q; exact e
            · exact K.out.2 j h (by omega))
          have HZ := hideIt (fun e : ps[k].child = z => fun z0 : z = 0 => HD.out k hlt (e.trans z0))
          have K1 := hideIt K.out.1
          clear hcell a0 a1 a2 K
          generalize ps[k].child = y at *
          generalize ps[k].dir = yd at *
          generalize ps[k].name = yn at *
          have BX := hideIt ((Below.refl wr.heap.size wr).alloc (Nat.le_refl _) (.cells #[.int .i64 yd, .string yn, .int .i64 y] 79))
          by_cases q : y = z
          · have q1 : (y == z) = true := beq_iff_eq.2 q
            have E := hideIt (HY.out q)
            have z0 := HZ.out q
            have S2 := hideIt (S1.out z0)
            have D2' := hideIt (DS.out z0)
            have B5 := hideIt (below_trans K4.out BX.out K4.out.size)
            rw [E.out] at S2 D2'
            clear q HX HY HZ
            go_wp2
            go_roundg (deep ps 16 yd)
            case measure => have := JD.out.2.2.2; have := D2'.out; omega
            case rel => exact ⟨yd, rfl, ⟨S2.out.1, S2.out.2.1⟩, by rw [JD.out.2.1, S2.out.2.2], B5.out, Nat.le_refl _⟩
          · have q1 : (y == z) = false := beq_eq_false_iff_ne.2 q
            have E := hideIt (HX.out q)
            have B5 := hideIt (below_trans K1.out BX.out K1.out.size)
            clear q HX HY HZ
            go_wp2
            go_roundg (ps.length - (k + 1))
            case measure => omega
            case rel => exact ⟨k + 1, by omega, rfl, by go_num, B5.out, E.out⟩
        · obtain rfl : k = ps.length := by omega
          have E : Hid (ev = false) := by
            unfold Hid
            have un := upD_no (fun j h => K.out.2 j h h)
            have z0 : z = 0 := Classical.byContradiction fun n => by have := (S1.out n).1; omega
            rw [EV.out, JD.out.2.1]
            exact S0.out z0
          clear K
          obtain rfl := E.out
          go_wp2
          try rw [Exit.noGoto_ret]
          go_ret2
          exact ⟨rfl, KW.out⟩
end Go.Proofs.YtpljkdbeekplbaaDoor
