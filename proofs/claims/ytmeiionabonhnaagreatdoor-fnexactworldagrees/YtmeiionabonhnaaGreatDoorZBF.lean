/- Several texts laid together: TrD, DevI, JiA. -/
import Derived.Test.YtmeiionabonhnaaGreatDoorZAQ
import Derived.Laws.CopyOwn
import Derived.Laws.Cover3
import Derived.Test.YtmeiionabonhnaaGreatDoorZAH
import Derived.Test.YtmeiionabonhnaaGreatDoorZAI
import Derived.Test.YtmeiionabonhnaaGreatDoorZAJ
namespace Go.Proofs.YtmeiionabonhnaaGreatDoor
open Go.RowKit
def isH (n : Int) : Bool := decide (0 ≤ n ∧ n < 65)
def heatsB (zs : List Int) : Bool := decide (∀ k (h : k < zs.length), isH zs[k] = true)
theorem heatsB_mk {zs : List Int} (h : ∀ k (h : k < zs.length), isH zs[k] = true) : heatsB zs = true := decide_eq_true h
theorem heatsB_not {zs : List Int} {k : Nat} (hk : k < zs.length) (h : isH zs[k] = false) : heatsB zs = false := decide_eq_false (fun x => by have := x k hk; rw [h] at this; cases this)
theorem heat_every {hs : List Int} : heatB hs = (decide (hs.length = 128) && heatsB hs) := by
  unfold heatB heatsB isH
  rw [Bool.eq_iff_iff, Bool.and_eq_true]
  simp only [decide_eq_true_eq]
  constructor
  · exact fun h => ⟨h.1, fun k hk => ⟨(h.2 k hk).1, by have := (h.2 k hk).2; omega⟩⟩
  · exact fun h => ⟨h.1, fun k hk => ⟨(h.2 k hk).1, by have := (h.2 k hk).2; omega⟩⟩
theorem isHeat_any (n : Int) (w : World) : Calls Tryz.prog 210 #[.int .i64 n] w fun e w' => e = .returned (.bool (isH n)) ∧ w' = w := by
  by_cases h : 0 ≤ n ∧ n < 65
  · have e : isH n = true := decide_eq_true h
    rw [e]; clear e
    go_enter Tryz.func210, Tryz.ntmps210
    go_wp2_with fail
    refine (isIndex_yes _ _ _ h).mono ?_
    rintro e w' ⟨rfl, hw'⟩
    subst w'
    go_wp2
    go_ret
    exact ⟨rfl, rfl⟩
  · have e : isH n = false := decide_eq_false h
    rw [e]; clear e
    go_enter Tryz.func210, Tryz.ntmps210
    go_wp2_with fail
    refine (isIndex_no _ _ _ h).mono ?_
    rintro e w' ⟨rfl, hw'⟩
    subst w'
    go_wp2
    go_ret
    exact ⟨rfl, rfl⟩
set_option maxHeartbeats 2000000 in
theorem everyHeat_any (v : Value) (zs : List Int) (w : World) (h : RdI w v zs) (hn : zs.length ≤ 2147483648) :
    Calls Tryz.prog 123 #[v, .func (.func 210) #[] #[]] w fun e w' => e = .returned (.bool (heatsB zs)) ∧ w' = w := by
  obtain ⟨ao, cap, rfl, _, hc⟩ := h.shape
  clear h
  go_enter Tryz.func123, Tryz.ntmps123
  go_wp2
  go_loop [6, 9] (fun _ i => ∃ k : Nat, k ≤ zs.length ∧ i = .int .i64 k ∧ Hid (∀ j (h : j < zs.length), j < k → isH zs[j] = true)) (fun _ i => zs.length - (intOf i).toNat)
  case atStart => exact ⟨0, by omega, rfl, fun j h a => absurd a (by omega)⟩
  case round =>
    obtain ⟨k, hk, rfl, H⟩ := hrel
    by_cases hlt : k < zs.length
    · obtain ⟨b, o, rfl, hbl, hcell⟩ := hc (by omega)
      have hck := hcell k hlt
      clear hcell hc
      by_cases q : isH zs[k] = true
      · go_wp2_with (go_at_call 210; refine (isHeat_any _ _).mono ?_; rintro e w' ⟨rfl, rfl⟩)
        go_round
        case rel =>
          refine ⟨k + 1, by omega, by go_num, fun j h a => ?_⟩
          by_cases e : j = k
          · subst e; exact q
          · exact H.out j h (by omega)
        case measure => simp [intOf]; omega
      · have q' : isH zs[k] = false := by simpa using q
        have E := hideIt (heatsB_not hlt q')
        go_wp2_with (go_at_call 210; refine (isHeat_any _ _).mono ?_; rintro e w' ⟨rfl, rfl⟩)
        go_ret
        exact ⟨ret_bool E.out.symm, rfl⟩
    · have E := hideIt (heatsB_mk (fun j h => H.out j h (by omega)))
      clear H
      go_wp2
      go_ret
      exact ⟨ret_bool E.out.symm, rfl⟩
set_option maxRecDepth 100000 in
set_option maxHeartbeats 4000000 in
theorem implHeatOK_any (v : Value) (hs : List Int) (w : World) (h : RdI w v hs) (hn : hs.length ≤ 1048576) : Calls Tryz.prog 153 #[v] w fun e w' => e = .returned (.bool (heatB hs)) ∧ w' = w := by
  have LE := hideIt (everyHeat_any v hs w h (by omega))
  obtain ⟨ao, cap, rfl, -, -⟩ := h.shape
  rw [heat_every]
  clear h
  generalize heatsB hs = b at *
  by_cases c : hs.length = 128
  · rw [decide_eq_true c, Bool.true_and]
    have q : ((hs.length : Int) == 128) = true := by rw [beq_iff_eq]; omega
    clear c
    go_enter Tryz.func153, Tryz.ntmps153
    go_wp2_with fail
    refine LE.out.mono ?_
    rintro e w' ⟨rfl, hw'⟩
    subst w'
    go_wp2
    go_ret
    exact ⟨rfl, rfl⟩
  · rw [decide_eq_false c, Bool.false_and]
    have q : ((hs.length : Int) == 128) = false := by rw [beq_eq_false_iff_ne]; omega
    clear c LE
    go_enter Tryz.func153, Tryz.ntmps153
    go_wp2
    go_ret
    exact ⟨rfl, rfl⟩
@[go_sem] theorem eqlNilInt (a : Option Addr) (l c : Nat) (w : World) : (binOp .eql 43 (.slice a l c) (.slice none 0 0)).run Tryz.prog w = .ok (.bool a.isNone) w := by
  simp only [binOp]
  simp [run_equal_slice_nil w 43 3 a l c Tryz.underlying43]
end Go.Proofs.YtmeiionabonhnaaGreatDoor

namespace Go.Proofs.YtmeiionabonhnaaGreatDoor
open Go.RowKit
set_option maxHeartbeats 2000000 in
theorem implDevicesOK_any (v : Value) (ws : List Int) (ps : List St) (es : List Int) (qs : List Se) (w : World) (h : RdDev w v ws ps es qs) (hw : ws.length ≤ 1048576) (hp : ps.length ≤ 1048576) (he : es.length ≤ 1048576) (hq : qs.length ≤ 1048576) :
    Calls Tryz.prog 152 #[v] w fun e w' => e = .returned (.bool (pmB ws ps && blkB es qs)) ∧ Below w.heap.size w w' := by
  obtain ⟨aW, cW, aP, cP, aS, cS, aQ, cQ, rfl, h1, h2⟩ := h.form
  have H1 := hideIt h1
  have H2 := hideIt h2
  clear h h1 h2
  have hb0 : Below w.heap.size w (w.alloc (.cells #[.slice aW ws.length cW, .slice aP ps.length cP, .slice aS es.length cS, .slice aQ qs.length cQ] 71)) := (Below.refl _ _).alloc (Nat.le_refl _) _
  by_cases c : pmB ws ps = true
  · have C := hideIt c
    rw [c]
    clear c
    go_enter Tryz.func152, Tryz.ntmps152
    go_wp2_with fail
    refine (implPmOK_any _ ws ps _ (H1.out.below hb0) hw hp).mono ?_
    rw [C.out]
    rintro e w1 ⟨rfl, hb1⟩
    obtain ⟨x0, x1, x2, x3, -, -, -, -⟩ := four_cells ((hb1.block w.heap.size (by simp)).trans (at_new rfl))
    have B1 := hideIt (below_trans hb0 hb1 (by simp))
    clear hb0 hb1
    go_wp2_with fail
    refine (implBlkOK_any _ es qs _ (H2.out.below B1.out) he hq).mono ?_
    rintro e w2 ⟨rfl, hb2⟩
    have B2 := hideIt (below_trans B1.out hb2 B1.out.size)
    clear hb2
    go_wp2
    go_ret
    exact ⟨rfl, B2.out⟩
  · have c' : pmB ws ps = false := by simpa using c
    have C := hideIt c'
    rw [c']
    clear c c'
    go_enter Tryz.func152, Tryz.ntmps152
    go_wp2_with fail
    refine (implPmOK_any _ ws ps _ (H1.out.below hb0) hw hp).mono ?_
    rw [C.out]
    rintro e w1 ⟨rfl, hb1⟩
    have B1 := hideIt (below_trans hb0 hb1 (by simp))
    clear hb0 hb1
    go_wp2
    go_ret
    exact ⟨rfl, B1.out⟩
end Go.Proofs.YtmeiionabonhnaaGreatDoor

namespace Go.Proofs.YtmeiionabonhnaaGreatDoor
open Go.RowKit
def SB (w : World) : Prop := ∃ t fr, w.heap[3]? = some (.cells #[.int .i64 0, .int .i64 0, .int .i64 336, .int .i64 1099511627776, .int .i64 336, .int .i64 1, .int .i64 1, .int .i64 1, .int .i64 32, .int .i64 1099511627776, .int .i64 1, .int .i64 1] t fr)
theorem SB.lt {w : World} (h : SB w) : 3 < w.heap.size := by
  obtain ⟨t, fr, h⟩ := h
  exact (Array.getElem?_eq_some_iff.1 h).1
theorem SB.below {w w' : World} (h : SB w) (hb : Below w.heap.size w w') : SB w' := by
  have hl := h.lt
  obtain ⟨t, fr, h⟩ := h
  exact ⟨t, fr, (hb.block _ hl).trans h⟩
theorem SB.cells {w : World} (h : SB w) : w.cell? ⟨3, 0, none⟩ = some (.int .i64 0) ∧ w.cell? ⟨3, 1, none⟩ = some (.int .i64 0) ∧ w.cell? ⟨3, 2, none⟩ = some (.int .i64 336) ∧ w.cell? ⟨3, 3, none⟩ = some (.int .i64 1099511627776) ∧ w.cell? ⟨3, 4, none⟩ = some (.int .i64 336) ∧ w.cell? ⟨3, 5, none⟩ = some (.int .i64 1) ∧ w.cell? ⟨3, 6, none⟩ = some (.int .i64 1) ∧ w.cell? ⟨3, 7, none⟩ = some (.int .i64 1) ∧ w.cell? ⟨3, 8, none⟩ = some (.int .i64 32) ∧ w.cell? ⟨3, 9, none⟩ = some (.int .i64 1099511627776) ∧ w.cell? ⟨3, 10, none⟩ = some (.int .i64 1) ∧ w.cell? ⟨3, 11, none⟩ = some (.int .i64 1) := by
  obtain ⟨t, fr, h⟩ := h
  simp [World.cell?, h]
theorem miB_in {k a x : Int} (h : (k = 1 ∧ (0 ≤ a ∧ a < 336) ∧ 0 ≤ x ∧ x < 1099511627776) ∨ (k = 2 ∧ (0 ≤ a ∧ a < 336) ∧ x = 0) ∨ (k = 4 ∧ (0 ≤ a ∧ a < 32) ∧ 0 ≤ x ∧ x < 1099511627776) ∨ ((k = 3 ∨ k = 5) ∧ a = 0 ∧ x = 0)) : miB ⟨k, a, x⟩ = true := (miB_of k a x).2 h
theorem miB_out {k a x : Int} (h : ¬ ((k = 1 ∧ (0 ≤ a ∧ a < 336) ∧ 0 ≤ x ∧ x < 1099511627776) ∨ (k = 2 ∧ (0 ≤ a ∧ a < 336) ∧ x = 0) ∨ (k = 4 ∧ (0 ≤ a ∧ a < 32) ∧ 0 ≤ x ∧ x < 1099511627776) ∨ ((k = 3 ∨ k = 5) ∧ a = 0 ∧ x = 0))) : miB ⟨k, a, x⟩ = false := by
  cases e : miB ⟨k, a, x⟩ with
  | false => rfl
  | true => exact absurd ((miB_of k a x).1 e) h
set_option maxRecDepth 100000 in
set_option maxHeartbeats 8000000 in
theorem isStep_of (k a x : Int) (w : World) (hS : SB w) : Calls Tryz.prog 212 #[.agg #[.int .i64 k, .int .i64 a, .int .i64 x]] w fun e w' => e = .returned (.bool (miB ⟨k, a, x⟩)) ∧ Below w.heap.size w w' := by
  have hb0 : Below w.heap.size w (w.alloc (.cells #[.int .i64 k, .int .i64 a, .int .i64 x] 206)) := (Below.refl _ _).alloc (Nat.le_refl _) _
  obtain ⟨c0, c1, c2, c3, c4, c5, c6, c7, c8, c9, c10, c11⟩ := (hS.below hb0).cells
  clear hS
  by_cases hk : 0 ≤ k ∧ k < 6
  case neg =>
    have E := hideIt (miB_out (k := k) (a := a) (x := x) (by omega))
    have HK := hideIt hk
    clear hk c0 c1 c2 c3 c4 c5 c6 c7 c8 c9 c10 c11
    go_enter Tryz.func212, Tryz.ntmps212
    go_wp2_with (go_at_call 235; refine (isIndex_no _ _ _ HK.out).mono ?_; rintro e w' ⟨rfl, rfl⟩)
    go_ret
    exact ⟨ret_bool E.out.symm, hb0⟩
  rcases (show k = 0 ∨ k = 1 ∨ k = 2 ∨ k = 3 ∨ k = 4 ∨ k = 5 by omega) with rfl | rfl | rfl | rfl | rfl | rfl
  · have hb1 : Below w.heap.size w ((w.alloc (.cells #[.int .i64 0, .int .i64 a, .int .i64 x] 206)).alloc (.cells #[.int .i64 0, .int .i64 0] 306)) := hb0.alloc (by simp) _
    clear c2 c3 c4 c5 c6 c7 c8 c9 c10 c11
    have E := hideIt (miB_out (k := 0) (a := a) (x := x) (by omega))
    have HA : Hid (¬ (0 ≤ a ∧ a < 0)) := fun h => by omega
    go_enter Tryz.func212, Tryz.ntmps212
    go_wp2_with (first | (go_at_call 235; refine (isIndex_yes _ _ _ (by omega)).mono ?_; rintro e w' ⟨rfl, rfl⟩) | (go_at_call 235; refine (isIndex_no _ _ _ HA.out).mono ?_; rintro e w' ⟨rfl, rfl⟩))
    go_ret
    exact ⟨ret_bool E.out.symm, hb1⟩
  · have hb1 : Below w.heap.size w ((w.alloc (.cells #[.int .i64 1, .int .i64 a, .int .i64 x] 206)).alloc (.cells #[.int .i64 336, .int .i64 1099511627776] 306)) := hb0.alloc (by simp) _
    clear c0 c1 c4 c5 c6 c7 c8 c9 c10 c11
    by_cases ha : 0 ≤ a ∧ a < 336
    · by_cases hx : 0 ≤ x ∧ x < 1099511627776
      · have E := hideIt (miB_in (k := 1) (a := a) (x := x) (by omega))
        go_enter Tryz.func212, Tryz.ntmps212
        go_wp2_with (go_at_call 235; refine (isIndex_yes _ _ _ (by omega)).mono ?_; rintro e w' ⟨rfl, rfl⟩)
        go_ret
        exact ⟨ret_bool E.out.symm, hb1⟩
      · have E := hideIt (miB_out (k := 1) (a := a) (x := x) (by omega))
        have HX := hideIt hx
        clear hx
        go_enter Tryz.func212, Tryz.ntmps212
        go_wp2_with (first | (go_at_call 235; refine (isIndex_yes _ _ _ (by omega)).mono ?_; rintro e w' ⟨rfl, rfl⟩) | (go_at_call 235; refine (isIndex_no _ _ _ HX.out).mono ?_; rintro e w' ⟨rfl, rfl⟩))
        go_ret
        exact ⟨ret_bool E.out.symm, hb1⟩
    · have E := hideIt (miB_out (k := 1) (a := a) (x := x) (by omega))
      have HA := hideIt ha
      clear ha
      go_enter Tryz.func212, Tryz.ntmps212
      go_wp2_with (first | (go_at_call 235; refine (isIndex_yes _ _ _ (by omega)).mono ?_; rintro e w' ⟨rfl, rfl⟩) | (go_at_call 235; refine (isIndex_no _ _ _ HA.out).mono ?_; rintro e w' ⟨rfl, rfl⟩))
      go_ret
      exact ⟨ret_bool E.out.symm, hb1⟩
  · have hb1 : Below w.heap.size w ((w.alloc (.cells #[.int .i64 2, .int .i64 a, .int .i64 x] 206)).alloc (.cells #[.int .i64 336, .int .i64 1] 306)) := hb0.alloc (by simp) _
    clear c0 c1 c2 c3 c6 c7 c8 c9 c10 c11
    by_cases ha : 0 ≤ a ∧ a < 336
    · by_cases hx : 0 ≤ x ∧ x < 1
      · have E := hideIt (miB_in (k := 2) (a := a) (x := x) (by omega))
        go_enter Tryz.func212, Tryz.ntmps212
        go_wp2_with (go_at_call 235; refine (isIndex_yes _ _ _ (by omega)).mono ?_; rintro e w' ⟨rfl, rfl⟩)
        go_ret
        exact ⟨ret_bool E.out.symm, hb1⟩
      · have E := hideIt (miB_out (k := 2) (a := a) (x := x) (by omega))
        have HX := hideIt hx
        clear hx
        go_enter Tryz.func212, Tryz.ntmps212
        go_wp2_with (first | (go_at_call 235; refine (isIndex_yes _ _ _ (by omega)).mono ?_; rintro e w' ⟨rfl, rfl⟩) | (go_at_call 235; refine (isIndex_no _ _ _ HX.out).mono ?_; rintro e w' ⟨rfl, rfl⟩))
        go_ret
        exact ⟨ret_bool E.out.symm, hb1⟩
    · have E := hideIt (miB_out (k := 2) (a := a) (x := x) (by omega))
      have HA := hideIt ha
      clear ha
      go_enter Tryz.func212, Tryz.ntmps212
      go_wp2_with (first | (go_at_call 235; refine (isIndex_yes _ _ _ (by omega)).mono ?_; rintro e w' ⟨rfl, rfl⟩) | (go_at_call 235; refine (isIndex_no _ _ _ HA.out).mono ?_; rintro e w' ⟨rfl, rfl⟩))
      go_ret
      exact ⟨ret_bool E.out.symm, hb1⟩
  · have hb1 : Below w.heap.size w ((w.alloc (.cells #[.int .i64 3, .int .i64 a, .int .i64 x] 206)).alloc (.cells #[.int .i64 1, .int .i64 1] 306)) := hb0.alloc (by simp) _
    clear c0 c1 c2 c3 c4 c5 c8 c9 c10 c11
    by_cases ha : 0 ≤ a ∧ a < 1
    · by_cases hx : 0 ≤ x ∧ x < 1
      · have E := hideIt (miB_in (k := 3) (a := a) (x := x) (by omega))
        go_enter Tryz.func212, Tryz.ntmps212
        go_wp2_with (go_at_call 235; refine (isIndex_yes _ _ _ (by omega)).mono ?_; rintro e w' ⟨rfl, rfl⟩)
        go_ret
        exact ⟨ret_bool E.out.symm, hb1⟩
      · have E := hideIt (miB_out (k := 3) (a := a) (x := x) (by omega))
        have HX := hideIt hx
        clear hx
        go_enter Tryz.func212, Tryz.ntmps212
        go_wp2_with (first | (go_at_call 235; refine (isIndex_yes _ _ _ (by omega)).mono ?_; rintro e w' ⟨rfl, rfl⟩) | (go_at_call 235; refine (isIndex_no _ _ _ HX.out).mono ?_; rintro e w' ⟨rfl, rfl⟩))
        go_ret
        exact ⟨ret_bool E.out.symm, hb1⟩
    · have E := hideIt (miB_out (k := 3) (a := a) (x := x) (by omega))
      have HA := hideIt ha
      clear ha
      go_enter Tryz.func212, Tryz.ntmps212
      go_wp2_with (first | (go_at_call 235; refine (isIndex_yes _ _ _ (by omega)).mono ?_; rintro e w' ⟨rfl, rfl⟩) | (go_at_call 235; refine (isIndex_no _ _ _ HA.out).mono ?_; rintro e w' ⟨rfl, rfl⟩))
      go_ret
      exact ⟨ret_bool E.out.symm, hb1⟩
  · have hb1 : Below w.heap.size w ((w.alloc (.cells #[.int .i64 4, .int .i64 a, .int .i64 x] 206)).alloc (.cells #[.int .i64 32, .int .i64 1099511627776] 306)) := hb0.alloc (by simp) _
    clear c0 c1 c2 c3 c4 c5 c6 c7 c10 c11
    by_cases ha : 0 ≤ a ∧ a < 32
    · by_cases hx : 0 ≤ x ∧ x < 1099511627776
      · have E := hideIt (miB_in (k := 4) (a := a) (x := x) (by omega))
        go_enter Tryz.func212, Tryz.ntmps212
        go_wp2_with (go_at_call 235; refine (isIndex_yes _ _ _ (by omega)).mono ?_; rintro e w' ⟨rfl, rfl⟩)
        go_ret
        exact ⟨ret_bool E.out.symm, hb1⟩
      · have E := hideIt (miB_out (k := 4) (a := a) (x := x) (by omega))
        have HX := hideIt hx
        clear hx
        go_enter Tryz.func212, Tryz.ntmps212
        go_wp2_with (first | (go_at_call 235; refine (isIndex_yes _ _ _ (by omega)).mono ?_; rintro e w' ⟨rfl, rfl⟩) | (go_at_call 235; refine (isIndex_no _ _ _ HX.out).mono ?_; rintro e w' ⟨rfl, rfl⟩))
        go_ret
        exact ⟨ret_bool E.out.symm, hb1⟩
    · have E := hideIt (miB_out (k := 4) (a := a) (x := x) (by omega))
      have HA := hideIt ha
      clear ha
      go_enter Tryz.func212, Tryz.ntmps212
      go_wp2_with (first | (go_at_call 235; refine (isIndex_yes _ _ _ (by omega)).mono ?_; rintro e w' ⟨rfl, rfl⟩) | (go_at_call 235; refine (isIndex_no _ _ _ HA.out).mono ?_; rintro e w' ⟨rfl, rfl⟩))
      go_ret
      exact ⟨ret_bool E.out.symm, hb1⟩
  · have hb1 : Below w.heap.size w ((w.alloc (.cells #[.int .i64 5, .int .i64 a, .int .i64 x] 206)).alloc (.cells #[.int .i64 1, .int .i64 1] 306)) := hb0.alloc (by simp) _
    clear c0 c1 c2 c3 c4 c5 c6 c7 c8 c9
    by_cases ha : 0 ≤ a ∧ a < 1
    · by_cases hx : 0 ≤ x ∧ x < 1
      · have E := hideIt (miB_in (k := 5) (a := a) (x := x) (by omega))
        go_enter Tryz.func212, Tryz.ntmps212
        go_wp2_with (go_at_call 235; refine (isIndex_yes _ _ _ (by omega)).mono ?_; rintro e w' ⟨rfl, rfl⟩)
        go_ret
        exact ⟨ret_bool E.out.symm, hb1⟩
      · have E := hideIt (miB_out (k := 5) (a := a) (x := x) (by omega))
        have HX := hideIt hx
        clear hx
        go_enter Tryz.func212, Tryz.ntmps212
        go_wp2_with (first | (go_at_call 235; refine (isIndex_yes _ _ _ (by omega)).mono ?_; rintro e w' ⟨rfl, rfl⟩) | (go_at_call 235; refine (isIndex_no _ _ _ HX.out).mono ?_; rintro e w' ⟨rfl, rfl⟩))
        go_ret
        exact ⟨ret_bool E.out.symm, hb1⟩
    · have E := hideIt (miB_out (k := 5) (a := a) (x := x) (by omega))
      have HA := hideIt ha
      clear ha
      go_enter Tryz.func212, Tryz.ntmps212
      go_wp2_with (first | (go_at_call 235; refine (isIndex_yes _ _ _ (by omega)).mono ?_; rintro e w' ⟨rfl, rfl⟩) | (go_at_call 235; refine (isIndex_no _ _ _ HA.out).mono ?_; rintro e w' ⟨rfl, rfl⟩))
      go_ret
      exact ⟨ret_bool E.out.symm, hb1⟩
def misB (ps : List Mi) : Bool := decide (∀ k (h : k < ps.length), miB ps[k] = true)
theorem misB_mk {ps : List Mi} (h : ∀ k (h : k < ps.length), miB ps[k] = true) : misB ps = true := decide_eq_true h
theorem misB_not {ps : List Mi} {k : Nat} (hk : k < ps.length) (h : miB ps[k] = false) : misB ps = false := decide_eq_false (fun x => by have := x k hk; rw [h] at this; cases this)
set_option maxHeartbeats 4000000 in
theorem everyStep_any (v : Value) (ps : List Mi) (w : World) (hS : SB w) (h : RdM w v ps) (hn : ps.length ≤ 1048576) :
    Calls Tryz.prog 211 #[v, .func (.func 212) #[] #[]] w fun e w' => e = .returned (.bool (misB ps)) ∧ Below w.heap.size w w' := by
  obtain ⟨aP, cP, rfl, _, hcP⟩ := h.shape
  have HS := hideIt hS
  clear h hS
  go_enter Tryz.func211, Tryz.ntmps211
  go_wp2
  go_loopw [6, 9] (fun _ i wr => ∃ k : Nat, k ≤ ps.length ∧ i = .int .i64 k ∧ Hid (∀ j (h : j < ps.length), j < k → miB ps[j] = true) ∧ Below w.heap.size w wr) (fun _ i _ => ps.length - (intOf i).toNat)
  case atStart => exact ⟨0, by omega, rfl, fun j h a => absurd a (by omega), Below.refl _ _⟩
  case round =>
    obtain ⟨m, hm, rfl, H, hbw⟩ := hrel
    have hz := hbw.size
    by_cases hlt2 : m < ps.length
    · obtain ⟨b2, o2, rfl, hbl2, hcell2⟩ := hcP (by omega)
      obtain ⟨d0, d1, d2⟩ := hcell2 m hlt2
      have e0 := (hbw.cell (p := ⟨b2, o2 + m * 3, none⟩) hbl2).trans d0
      have e1 := (hbw.cell (p := ⟨b2, o2 + m * 3 + 1, none⟩) hbl2).trans d1
      have e2 := (hbw.cell (p := ⟨b2, o2 + m * 3 + 2, none⟩) hbl2).trans d2
      have hb1 := hideIt (hbw.alloc hz (.cells #[.int .i64 ps[m].kind, .int .i64 ps[m].at_, .int .i64 ps[m].val] 206))
      clear d0 d1 d2 hcell2 hcP
      by_cases q : miB ps[m] = true
      · have Q := hideIt q
        clear q
        go_wp2_with (go_at_call 212; refine (isStep_of ps[m].kind ps[m].at_ ps[m].val _ (HS.out.below hb1.out)).mono ?_; rw [Q.out]; rintro e w' ⟨rfl, hw'⟩)
        have hw2 := hb1.out.trans (hw'.mono (by simp; omega))
        clear hb1 hw'
        go_roundw
        case rel =>
          refine ⟨m + 1, by omega, by go_num, fun j h a => ?_, hw2⟩
          by_cases e : j = m
          · subst e; exact Q.out
          · exact H.out j h (by omega)
        case measure => simp [intOf]; omega
      · have Q := hideIt (show miB ps[m] = false by simpa using q)
        have E := hideIt (misB_not hlt2 Q.out)
        clear q
        go_wp2_with (go_at_call 212; refine (isStep_of ps[m].kind ps[m].at_ ps[m].val _ (HS.out.below hb1.out)).mono ?_; rw [Q.out]; rintro e w' ⟨rfl, hw'⟩)
        have hw2 := hb1.out.trans (hw'.mono (by simp; omega))
        go_ret
        exact ⟨ret_bool E.out.symm, hw2⟩
    · have E := hideIt (misB_mk (fun j h => H.out j h (by omega)))
      go_wp2
      go_ret
      exact ⟨ret_bool E.out.symm, hbw⟩
end Go.Proofs.YtmeiionabonhnaaGreatDoor
