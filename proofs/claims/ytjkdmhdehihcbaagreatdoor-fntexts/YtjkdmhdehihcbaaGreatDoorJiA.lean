/- A step that is right: by the program, out of its table of bounds. -/
import Derived.Test.YtjkdmhdehihcbaaGreatDoorMiS
import Derived.Test.YtjkdmhdehihcbaaGreatDoorZAS
namespace Go.Proofs.YtjkdmhdehihcbaaGreatDoor
open Go.RowKit
def SB (w : World) : Prop := ∃ t fr, w.heap[1]? = some (.cells #[.int .i64 0, .int .i64 0, .int .i64 336, .int .i64 1099511627776, .int .i64 336, .int .i64 1, .int .i64 1, .int .i64 1, .int .i64 32, .int .i64 1099511627776, .int .i64 1, .int .i64 1] t fr)
theorem SB.lt {w : World} (h : SB w) : 1 < w.heap.size := by
  obtain ⟨t, fr, h⟩ := h
  exact (Array.getElem?_eq_some_iff.1 h).1
theorem SB.below {w w' : World} (h : SB w) (hb : Below w.heap.size w w') : SB w' := by
  have hl := h.lt
  obtain ⟨t, fr, h⟩ := h
  exact ⟨t, fr, (hb.block _ hl).trans h⟩
theorem SB.cells {w : World} (h : SB w) : w.cell? ⟨1, 0, none⟩ = some (.int .i64 0) ∧ w.cell? ⟨1, 1, none⟩ = some (.int .i64 0) ∧ w.cell? ⟨1, 2, none⟩ = some (.int .i64 336) ∧ w.cell? ⟨1, 3, none⟩ = some (.int .i64 1099511627776) ∧ w.cell? ⟨1, 4, none⟩ = some (.int .i64 336) ∧ w.cell? ⟨1, 5, none⟩ = some (.int .i64 1) ∧ w.cell? ⟨1, 6, none⟩ = some (.int .i64 1) ∧ w.cell? ⟨1, 7, none⟩ = some (.int .i64 1) ∧ w.cell? ⟨1, 8, none⟩ = some (.int .i64 32) ∧ w.cell? ⟨1, 9, none⟩ = some (.int .i64 1099511627776) ∧ w.cell? ⟨1, 10, none⟩ = some (.int .i64 1) ∧ w.cell? ⟨1, 11, none⟩ = some (.int .i64 1) := by
  obtain ⟨t, fr, h⟩ := h
  simp [World.cell?, h]
theorem miB_in {k a x : Int} (h : (k = 1 ∧ (0 ≤ a ∧ a < 336) ∧ 0 ≤ x ∧ x < 1099511627776) ∨ (k = 2 ∧ (0 ≤ a ∧ a < 336) ∧ x = 0) ∨ (k = 4 ∧ (0 ≤ a ∧ a < 32) ∧ 0 ≤ x ∧ x < 1099511627776) ∨ ((k = 3 ∨ k = 5) ∧ a = 0 ∧ x = 0)) : miB ⟨k, a, x⟩ = true := (miB_of k a x).2 h
theorem miB_out {k a x : Int} (h : ¬ ((k = 1 ∧ (0 ≤ a ∧ a < 336) ∧ 0 ≤ x ∧ x < 1099511627776) ∨ (k = 2 ∧ (0 ≤ a ∧ a < 336) ∧ x = 0) ∨ (k = 4 ∧ (0 ≤ a ∧ a < 32) ∧ 0 ≤ x ∧ x < 1099511627776) ∨ ((k = 3 ∨ k = 5) ∧ a = 0 ∧ x = 0))) : miB ⟨k, a, x⟩ = false := by
  cases e : miB ⟨k, a, x⟩ with
  | false => rfl
  | true => exact absurd ((miB_of k a x).1 e) h
set_option maxRecDepth 100000 in
set_option maxHeartbeats 8000000 in
theorem isStep_of (k a x : Int) (w : World) (hS : SB w) : Calls Tryz.prog 39 #[.agg #[.int .i64 k, .int .i64 a, .int .i64 x]] w fun e w' => e = .returned (.bool (miB ⟨k, a, x⟩)) ∧ Below w.heap.size w w' := by
  have hb0 : Below w.heap.size w (w.alloc (.cells #[.int .i64 k, .int .i64 a, .int .i64 x] 41)) := (Below.refl _ _).alloc (Nat.le_refl _) _
  obtain ⟨c0, c1, c2, c3, c4, c5, c6, c7, c8, c9, c10, c11⟩ := (hS.below hb0).cells
  clear hS
  by_cases hk : 0 ≤ k ∧ k < 6
  case neg =>
    have E := hideIt (miB_out (k := k) (a := a) (x := x) (by omega))
    have HK := hideIt hk
    clear hk c0 c1 c2 c3 c4 c5 c6 c7 c8 c9 c10 c11
    go_enter Tryz.func39, Tryz.ntmps39
    go_wp2_with (go_at_call 79; refine (isIndex_no _ _ _ HK.out).mono ?_; rintro e w' ⟨rfl, rfl⟩)
    go_ret
    exact ⟨ret_bool E.out.symm, hb0⟩
  rcases (show k = 0 ∨ k = 1 ∨ k = 2 ∨ k = 3 ∨ k = 4 ∨ k = 5 by omega) with rfl | rfl | rfl | rfl | rfl | rfl
  · have hb1 : Below w.heap.size w ((w.alloc (.cells #[.int .i64 0, .int .i64 a, .int .i64 x] 41)).alloc (.cells #[.int .i64 0, .int .i64 0] 123)) := hb0.alloc (by simp) _
    clear c2 c3 c4 c5 c6 c7 c8 c9 c10 c11
    have E := hideIt (miB_out (k := 0) (a := a) (x := x) (by omega))
    have HA : Hid (¬ (0 ≤ a ∧ a < 0)) := fun h => by omega
    go_enter Tryz.func39, Tryz.ntmps39
    go_wp2_with (first | (go_at_call 79; refine (isIndex_yes _ _ _ (by omega)).mono ?_; rintro e w' ⟨rfl, rfl⟩) | (go_at_call 79; refine (isIndex_no _ _ _ HA.out).mono ?_; rintro e w' ⟨rfl, rfl⟩))
    go_ret
    exact ⟨ret_bool E.out.symm, hb1⟩
  · have hb1 : Below w.heap.size w ((w.alloc (.cells #[.int .i64 1, .int .i64 a, .int .i64 x] 41)).alloc (.cells #[.int .i64 336, .int .i64 1099511627776] 123)) := hb0.alloc (by simp) _
    clear c0 c1 c4 c5 c6 c7 c8 c9 c10 c11
    by_cases ha : 0 ≤ a ∧ a < 336
    · by_cases hx : 0 ≤ x ∧ x < 1099511627776
      · have E := hideIt (miB_in (k := 1) (a := a) (x := x) (by omega))
        go_enter Tryz.func39, Tryz.ntmps39
        go_wp2_with (go_at_call 79; refine (isIndex_yes _ _ _ (by omega)).mono ?_; rintro e w' ⟨rfl, rfl⟩)
        go_ret
        exact ⟨ret_bool E.out.symm, hb1⟩
      · have E := hideIt (miB_out (k := 1) (a := a) (x := x) (by omega))
        have HX := hideIt hx
        clear hx
        go_enter Tryz.func39, Tryz.ntmps39
        go_wp2_with (first | (go_at_call 79; refine (isIndex_yes _ _ _ (by omega)).mono ?_; rintro e w' ⟨rfl, rfl⟩) | (go_at_call 79; refine (isIndex_no _ _ _ HX.out).mono ?_; rintro e w' ⟨rfl, rfl⟩))
        go_ret
        exact ⟨ret_bool E.out.symm, hb1⟩
    · have E := hideIt (miB_out (k := 1) (a := a) (x := x) (by omega))
      have HA := hideIt ha
      clear ha
      go_enter Tryz.func39, Tryz.ntmps39
      go_wp2_with (first | (go_at_call 79; refine (isIndex_yes _ _ _ (by omega)).mono ?_; rintro e w' ⟨rfl, rfl⟩) | (go_at_call 79; refine (isIndex_no _ _ _ HA.out).mono ?_; rintro e w' ⟨rfl, rfl⟩))
      go_ret
      exact ⟨ret_bool E.out.symm, hb1⟩
  · have hb1 : Below w.heap.size w ((w.alloc (.cells #[.int .i64 2, .int .i64 a, .int .i64 x] 41)).alloc (.cells #[.int .i64 336, .int .i64 1] 123)) := hb0.alloc (by simp) _
    clear c0 c1 c2 c3 c6 c7 c8 c9 c10 c11
    by_cases ha : 0 ≤ a ∧ a < 336
    · by_cases hx : 0 ≤ x ∧ x < 1
      · have E := hideIt (miB_in (k := 2) (a := a) (x := x) (by omega))
        go_enter Tryz.func39, Tryz.ntmps39
        go_wp2_with (go_at_call 79; refine (isIndex_yes _ _ _ (by omega)).mono ?_; rintro e w' ⟨rfl, rfl⟩)
        go_ret
        exact ⟨ret_bool E.out.symm, hb1⟩
      · have E := hideIt (miB_out (k := 2) (a := a) (x := x) (by omega))
        have HX := hideIt hx
        clear hx
        go_enter Tryz.func39, Tryz.ntmps39
        go_wp2_with (first | (go_at_call 79; refine (isIndex_yes _ _ _ (by omega)).mono ?_; rintro e w' ⟨rfl, rfl⟩) | (go_at_call 79; refine (isIndex_no _ _ _ HX.out).mono ?_; rintro e w' ⟨rfl, rfl⟩))
        go_ret
        exact ⟨ret_bool E.out.symm, hb1⟩
    · have E := hideIt (miB_out (k := 2) (a := a) (x := x) (by omega))
      have HA := hideIt ha
      clear ha
      go_enter Tryz.func39, Tryz.ntmps39
      go_wp2_with (first | (go_at_call 79; refine (isIndex_yes _ _ _ (by omega)).mono ?_; rintro e w' ⟨rfl, rfl⟩) | (go_at_call 79; refine (isIndex_no _ _ _ HA.out).mono ?_; rintro e w' ⟨rfl, rfl⟩))
      go_ret
      exact ⟨ret_bool E.out.symm, hb1⟩
  · have hb1 : Below w.heap.size w ((w.alloc (.cells #[.int .i64 3, .int .i64 a, .int .i64 x] 41)).alloc (.cells #[.int .i64 1, .int .i64 1] 123)) := hb0.alloc (by simp) _
    clear c0 c1 c2 c3 c4 c5 c8 c9 c10 c11
    by_cases ha : 0 ≤ a ∧ a < 1
    · by_cases hx : 0 ≤ x ∧ x < 1
      · have E := hideIt (miB_in (k := 3) (a := a) (x := x) (by omega))
        go_enter Tryz.func39, Tryz.ntmps39
        go_wp2_with (go_at_call 79; refine (isIndex_yes _ _ _ (by omega)).mono ?_; rintro e w' ⟨rfl, rfl⟩)
        go_ret
        exact ⟨ret_bool E.out.symm, hb1⟩
      · have E := hideIt (miB_out (k := 3) (a := a) (x := x) (by omega))
        have HX := hideIt hx
        clear hx
        go_enter Tryz.func39, Tryz.ntmps39
        go_wp2_with (first | (go_at_call 79; refine (isIndex_yes _ _ _ (by omega)).mono ?_; rintro e w' ⟨rfl, rfl⟩) | (go_at_call 79; refine (isIndex_no _ _ _ HX.out).mono ?_; rintro e w' ⟨rfl, rfl⟩))
        go_ret
        exact ⟨ret_bool E.out.symm, hb1⟩
    · have E := hideIt (miB_out (k := 3) (a := a) (x := x) (by omega))
      have HA := hideIt ha
      clear ha
      go_enter Tryz.func39, Tryz.ntmps39
      go_wp2_with (first | (go_at_call 79; refine (isIndex_yes _ _ _ (by omega)).mono ?_; rintro e w' ⟨rfl, rfl⟩) | (go_at_call 79; refine (isIndex_no _ _ _ HA.out).mono ?_; rintro e w' ⟨rfl, rfl⟩))
      go_ret
      exact ⟨ret_bool E.out.symm, hb1⟩
  · have hb1 : Below w.heap.size w ((w.alloc (.cells #[.int .i64 4, .int .i64 a, .int .i64 x] 41)).alloc (.cells #[.int .i64 32, .int .i64 1099511627776] 123)) := hb0.alloc (by simp) _
    clear c0 c1 c2 c3 c4 c5 c6 c7 c10 c11
    by_cases ha : 0 ≤ a ∧ a < 32
    · by_cases hx : 0 ≤ x ∧ x < 1099511627776
      · have E := hideIt (miB_in (k := 4) (a := a) (x := x) (by omega))
        go_enter Tryz.func39, Tryz.ntmps39
        go_wp2_with (go_at_call 79; refine (isIndex_yes _ _ _ (by omega)).mono ?_; rintro e w' ⟨rfl, rfl⟩)
        go_ret
        exact ⟨ret_bool E.out.symm, hb1⟩
      · have E := hideIt (miB_out (k := 4) (a := a) (x := x) (by omega))
        have HX := hideIt hx
        clear hx
        go_enter Tryz.func39, Tryz.ntmps39
        go_wp2_with (first | (go_at_call 79; refine (isIndex_yes _ _ _ (by omega)).mono ?_; rintro e w' ⟨rfl, rfl⟩) | (go_at_call 79; refine (isIndex_no _ _ _ HX.out).mono ?_; rintro e w' ⟨rfl, rfl⟩))
        go_ret
        exact ⟨ret_bool E.out.symm, hb1⟩
    · have E := hideIt (miB_out (k := 4) (a := a) (x := x) (by omega))
      have HA := hideIt ha
      clear ha
      go_enter Tryz.func39, Tryz.ntmps39
      go_wp2_with (first | (go_at_call 79; refine (isIndex_yes _ _ _ (by omega)).mono ?_; rintro e w' ⟨rfl, rfl⟩) | (go_at_call 79; refine (isIndex_no _ _ _ HA.out).mono ?_; rintro e w' ⟨rfl, rfl⟩))
      go_ret
      exact ⟨ret_bool E.out.symm, hb1⟩
  · have hb1 : Below w.heap.size w ((w.alloc (.cells #[.int .i64 5, .int .i64 a, .int .i64 x] 41)).alloc (.cells #[.int .i64 1, .int .i64 1] 123)) := hb0.alloc (by simp) _
    clear c0 c1 c2 c3 c4 c5 c6 c7 c8 c9
    by_cases ha : 0 ≤ a ∧ a < 1
    · by_cases hx : 0 ≤ x ∧ x < 1
      · have E := hideIt (miB_in (k := 5) (a := a) (x := x) (by omega))
        go_enter Tryz.func39, Tryz.ntmps39
        go_wp2_with (go_at_call 79; refine (isIndex_yes _ _ _ (by omega)).mono ?_; rintro e w' ⟨rfl, rfl⟩)
        go_ret
        exact ⟨ret_bool E.out.symm, hb1⟩
      · have E := hideIt (miB_out (k := 5) (a := a) (x := x) (by omega))
        have HX := hideIt hx
        clear hx
        go_enter Tryz.func39, Tryz.ntmps39
        go_wp2_with (first | (go_at_call 79; refine (isIndex_yes _ _ _ (by omega)).mono ?_; rintro e w' ⟨rfl, rfl⟩) | (go_at_call 79; refine (isIndex_no _ _ _ HX.out).mono ?_; rintro e w' ⟨rfl, rfl⟩))
        go_ret
        exact ⟨ret_bool E.out.symm, hb1⟩
    · have E := hideIt (miB_out (k := 5) (a := a) (x := x) (by omega))
      have HA := hideIt ha
      clear ha
      go_enter Tryz.func39, Tryz.ntmps39
      go_wp2_with (first | (go_at_call 79; refine (isIndex_yes _ _ _ (by omega)).mono ?_; rintro e w' ⟨rfl, rfl⟩) | (go_at_call 79; refine (isIndex_no _ _ _ HA.out).mono ?_; rintro e w' ⟨rfl, rfl⟩))
      go_ret
      exact ⟨ret_bool E.out.symm, hb1⟩
theorem isStep_any (m : Mi) (w : World) (hS : SB w) : Calls Tryz.prog 39 #[m.v] w fun e w' => e = .returned (.bool (miB m)) ∧ Below w.heap.size w w' := isStep_of m.kind m.at_ m.val w hS
def misB (ps : List Mi) : Bool := decide (∀ k (h : k < ps.length), miB ps[k] = true)
theorem misB_true {ps : List Mi} (h : misB ps = true) : ∀ k (h : k < ps.length), miB ps[k] = true := of_decide_eq_true h
theorem misB_mk {ps : List Mi} (h : ∀ k (h : k < ps.length), miB ps[k] = true) : misB ps = true := decide_eq_true h
theorem misB_not {ps : List Mi} {k : Nat} (hk : k < ps.length) (h : miB ps[k] = false) : misB ps = false := decide_eq_false (fun x => by have := x k hk; rw [h] at this; cases this)
set_option maxHeartbeats 4000000 in
theorem everyStep_any (v : Value) (ps : List Mi) (w : World) (hS : SB w) (h : RdM w v ps) (hn : ps.length ≤ 1048576) :
    Calls Tryz.prog 38 #[v, .func (.func 39) #[] #[]] w fun e w' => e = .returned (.bool (misB ps)) ∧ Below w.heap.size w w' := by
  obtain ⟨aP, cP, rfl, _, hcP⟩ := h.shape
  have HS := hideIt hS
  clear h hS
  go_enter Tryz.func38, Tryz.ntmps38
  go_wp2
  go_loopw [6, 9] (fun _ i wr => ∃ k : Nat, k ≤ ps.length ∧ i = .int .i64 k ∧ Hid (∀ j (h : j < ps.length), j < k → miB ps[j] = true) ∧ Below w.heap.size w wr) (fun _ i _ => ps.length - (intOf i).toNat)
  case atStart => exact ⟨0, by omega, rfl, fun j h a => absurd a (by omega), Below.refl _ _⟩
  case round =>
    obtain ⟨m, hm, rfl, H, hbw⟩ := hrel
    have hz := hbw.size
    by_cases hlt2 : m < ps.length
    · obtain ⟨b2, o2, rfl, hbl2, hcell2⟩ := hcP (by omega)
      obtain ⟨d0, d1, d2⟩ := hcell2 m hlt2
      have e0 := (hbw.cell (p := ⟨b2, o2 + m * 3, none⟩) hbl2).trans d0
      have e1 := (hbw.cell (p := ⟨b2, o2 + m * 3 + 1, none⟩) hbl2).trans d1
      have e2 := (hbw.cell (p := ⟨b2, o2 + m * 3 + 2, none⟩) hbl2).trans d2
      have hb1 := hideIt (hbw.alloc hz (.cells #[.int .i64 ps[m].kind, .int .i64 ps[m].at_, .int .i64 ps[m].val] 41))
      clear d0 d1 d2 hcell2 hcP
      by_cases q : miB ps[m] = true
      · have Q := hideIt q
        clear q
        go_wp2_with (go_at_call 39; refine (isStep_of ps[m].kind ps[m].at_ ps[m].val _ (HS.out.below hb1.out)).mono ?_; rw [Q.out]; rintro e w' ⟨rfl, hw'⟩)
        have hw2 := hb1.out.trans (hw'.mono (by simp; omega))
        clear hb1 hw'
        go_roundw
        case rel =>
          refine ⟨m + 1, by omega, by go_num, fun j h a => ?_, hw2⟩
          by_cases e : j = m
          · subst e; exact Q.out
          · exact H.out j h (by omega)
        case measure => simp [intOf]; omega
      · have Q := hideIt (show miB ps[m] = false by simpa using q)
        have E := hideIt (misB_not hlt2 Q.out)
        clear q
        go_wp2_with (go_at_call 39; refine (isStep_of ps[m].kind ps[m].at_ ps[m].val _ (HS.out.below hb1.out)).mono ?_; rw [Q.out]; rintro e w' ⟨rfl, hw'⟩)
        have hw2 := hb1.out.trans (hw'.mono (by simp; omega))
        go_ret
        exact ⟨ret_bool E.out.symm, hw2⟩
    · have E := hideIt (misB_mk (fun j h => H.out j h (by omega)))
      go_wp2
      go_ret
      exact ⟨ret_bool E.out.symm, hbw⟩
end Go.Proofs.YtjkdmhdehihcbaaGreatDoor
