/- An entry that is right, and its updates: by the program. -/
import Derived.Test.YtihmihkhkmadmaaDoorPiE
import Derived.Test.YtihmihkhkmadmaaDoorZAF
namespace Go.Proofs.YtihmihkhkmadmaaDoor
open Go.RowKit
def FD (w : World) : Prop := ∃ t fr, w.heap[1]? = some (.cells #[.int .i64 0, .string ⟨#[]⟩, .int .i64 (-1)] t fr)
theorem FD.lt {w : World} (h : FD w) : 1 < w.heap.size := by
  obtain ⟨t, fr, h⟩ := h
  exact (Array.getElem?_eq_some_iff.1 h).1
theorem FD.below {w w' : World} (h : FD w) (hb : Below w.heap.size w w') : FD w' := by
  have hl := h.lt
  obtain ⟨t, fr, h⟩ := h
  exact ⟨t, fr, (hb.block _ hl).trans h⟩
theorem FD.cells {w : World} (h : FD w) : w.cell? ⟨1, 0, none⟩ = some (.int .i64 0) ∧ w.cell? ⟨1, 1, none⟩ = some (.string ⟨#[]⟩) ∧ w.cell? ⟨1, 2, none⟩ = some (.int .i64 (-1)) := by
  obtain ⟨t, fr, h⟩ := h
  simp [World.cell?, h]
def denEq (a : Int) (s : ByteArray) (c a' : Int) (s' : ByteArray) (c' : Int) : Bool := (a == a') && ((s.toList == s'.toList) && (c == c'))
set_option maxRecDepth 100000 in
set_option maxHeartbeats 4000000 in
@[go_sem ↓] theorem eqDen (a : Int) (s : ByteArray) (c a' : Int) (s' : ByteArray) (c' : Int) (w : World) : (Op.equalIn 10000 69 (.agg #[.int .i64 a, .string s, .int .i64 c]) (.agg #[.int .i64 a', .string s', .int .i64 c'])).run Tryd.prog w = .ok (denEq a s c a' s' c') w := by
  unfold denEq
  cases g0 : (a == a')
  · go_simp
  cases g1 : (s.toList == s'.toList)
  · go_simp
  cases g2 : (c == c')
  · go_simp
  · go_simp
theorem empty_bytes : (⟨#[]⟩ : ByteArray).toList = [] := (noBytes _).2 rfl
theorem den_free (x : Den) : denEq x.dir x.name x.child 0 ⟨#[]⟩ (-1) = x.freeB := by
  unfold denEq Den.freeB
  congr 2
  rw [empty_bytes, Bool.eq_iff_iff, beq_iff_eq, beq_iff_eq]
  exact noBytes x.name
theorem Den.okB_free {x : Den} (h : x.freeB = true) : x.okB = true := by unfold Den.okB; rw [h]; rfl
theorem Den.okB_not {x : Den} (h : x.freeB = false) : x.okB = (decide (1 ≤ x.child ∧ x.child ≤ 15) && (decide (0 ≤ x.dir ∧ x.dir ≤ 15) && nmB x.name)) := by unfold Den.okB; rw [h, Bool.false_or]
theorem packC_name (s : ByteArray) : (packC s == 0) = nmB s := by
  unfold packC
  cases h : nmB s with
  | true =>
    have := (of_decide_eq_true h : 1 ≤ s.size ∧ s.size ≤ 6 ∧ _)
    rw [if_neg (by omega), if_pos rfl]; rfl
  | false =>
    split
    · rfl
    · rw [if_neg (by decide)]; rfl
theorem isShortName_any (s : ByteArray) (w : World) (hs : s.size ≤ maxLen) : Calls Tryd.prog 97 #[.string s] w fun e w' => e = .returned (.bool (nmB s)) ∧ Below w.heap.size w w' := by
  have P := hideIt (packC_name s)
  have LP := hideIt (fun w1 => implPackName_any s w1 hs)
  generalize packV s = pv at *
  generalize packC s = pc at *
  clear hs
  go_enter Tryd.func97, Tryd.ntmps97
  go_wp2_with fail
  refine (LP.out _).mono ?_
  rintro e w1 ⟨rfl, hb1⟩
  go_wp2
  go_ret
  exact ⟨ret_bool P.out, hb1⟩
set_option maxRecDepth 100000 in
set_option maxHeartbeats 4000000 in
theorem isDirent_any (x : Den) (w : World) (hF : FD w) (hs : x.name.size ≤ maxLen) : Calls Tryd.prog 81 #[x.v] w fun e w' => e = .returned (.bool x.okB) ∧ Below w.heap.size w w' := by
  have LN := hideIt (fun w1 => isShortName_any x.name w1 hs)
  have DF := den_free x
  have OF := @Den.okB_free x
  have ON := @Den.okB_not x
  obtain ⟨d, s, c⟩ := x
  simp only at LN DF ON hs
  unfold Den.v
  simp only
  have BW := hideIt ((Below.refl w.heap.size w).alloc (Nat.le_refl _) (.cells #[.int .i64 d, .string s, .int .i64 c] 69))
  have CB : Hid (∀ w', Below (w.alloc (.cells #[.int .i64 d, .string s, .int .i64 c] 69)).heap.size (w.alloc (.cells #[.int .i64 d, .string s, .int .i64 c] 69)) w' → w'.cell? ⟨w.heap.size, 0, none⟩ = some (.int .i64 d) ∧ w'.cell? ⟨w.heap.size, 1, none⟩ = some (.string s) ∧ w'.cell? ⟨w.heap.size, 2, none⟩ = some (.int .i64 c)) := fun w' hb => three_cells ((hb.block _ (by simp)).trans (at_new rfl))
  obtain ⟨x0, x1, x2⟩ := CB.out _ (Below.refl _ _)
  obtain ⟨f0, f1, f2⟩ := FD.cells (hF.below BW.out)
  clear hF hs
  cases h0 : (Den.mk d s c).freeB with
  | true =>
    rw [h0] at DF
    have E := hideIt (OF h0)
    clear OF ON LN CB h0
    go_enter Tryd.func81, Tryd.ntmps81
    go_wp2
    go_ret
    exact ⟨ret_bool E.out.symm, BW.out⟩
  | false =>
    rw [h0] at DF
    have E := hideIt (ON h0)
    clear OF ON h0
    cases h1 : nmB s with
    | false =>
      rw [h1] at E
      have N1 := hideIt h1
      clear h1 CB
      go_enter Tryd.func81, Tryd.ntmps81
      go_wp2_with fail
      refine (LN.out _).mono ?_
      rw [N1.out]
      rintro e w1 ⟨rfl, hb1⟩
      have B1 := hideIt (below_trans BW.out hb1 BW.out.size)
      clear hb1 x0 x1 x2 f0 f1 f2
      go_wp2
      go_ret
      exact ⟨ret_bool (by rw [E.out, Bool.and_false, Bool.and_false]), B1.out⟩
    | true =>
      rw [h1] at E
      have N1 := hideIt h1
      clear h1
      by_cases h2 : 0 ≤ d ∧ d < 16
      case neg =>
        have E2 := hideIt (show (Den.mk d s c).okB = false by rw [E.out, decide_eq_false (show ¬ (0 ≤ d ∧ d ≤ 15) by omega), Bool.false_and, Bool.and_false])
        have H2 := hideIt h2
        clear h2 E
        go_enter Tryd.func81, Tryd.ntmps81
        go_wp2_with fail
        refine (LN.out _).mono ?_
        rw [N1.out]
        rintro e w1 ⟨rfl, hb1⟩
        have B1 := hideIt (below_trans BW.out hb1 BW.out.size)
        clear x0 x1 x2 f0 f1 f2
        obtain ⟨x0, x1, x2⟩ := CB.out _ hb1
        clear hb1 CB
        go_wp2_with fail
        refine (isIndex_no _ _ _ H2.out).mono ?_
        rintro e w' ⟨rfl, hw'⟩
        subst w'
        go_wp2
        go_ret
        exact ⟨ret_bool E2.out.symm, B1.out⟩
      by_cases h3 : 0 ≤ c ∧ c < 16
      case neg =>
        have E2 := hideIt (show (Den.mk d s c).okB = false by rw [E.out, decide_eq_false (show ¬ (1 ≤ c ∧ c ≤ 15) by omega), Bool.false_and])
        have H2 := hideIt h2
        have H3 := hideIt h3
        clear h2 h3 E
        go_enter Tryd.func81, Tryd.ntmps81
        go_wp2_with fail
        refine (LN.out _).mono ?_
        rw [N1.out]
        rintro e w1 ⟨rfl, hb1⟩
        have B1 := hideIt (below_trans BW.out hb1 BW.out.size)
        clear x0 x1 x2 f0 f1 f2
        obtain ⟨x0, x1, x2⟩ := CB.out _ hb1
        clear hb1 CB
        go_wp2_with fail
        refine (isIndex_yes _ _ _ H2.out).mono ?_
        rintro e w' ⟨rfl, hw'⟩
        subst w'
        go_wp2_with fail
        refine (isIndex_no _ _ _ H3.out).mono ?_
        rintro e w' ⟨rfl, hw'⟩
        subst w'
        go_wp2
        go_ret
        exact ⟨ret_bool E2.out.symm, B1.out⟩
      have E2 := hideIt (show (Den.mk d s c).okB = (c != 0) by
        rw [E.out, decide_eq_true (show 0 ≤ d ∧ d ≤ 15 by omega)]
        by_cases h : c = 0
        · rw [h]; rfl
        · rw [decide_eq_true (show 1 ≤ c ∧ c ≤ 15 by omega), eq_comm]; simpa using h)
      have H2 := hideIt h2
      have H3 := hideIt h3
      clear h2 h3 E
      go_enter Tryd.func81, Tryd.ntmps81
      go_wp2_with fail
      refine (LN.out _).mono ?_
      rw [N1.out]
      rintro e w1 ⟨rfl, hb1⟩
      have B1 := hideIt (below_trans BW.out hb1 BW.out.size)
      clear x0 x1 x2 f0 f1 f2
      obtain ⟨x0, x1, x2⟩ := CB.out _ hb1
      clear hb1 CB
      go_wp2_with fail
      refine (isIndex_yes _ _ _ H2.out).mono ?_
      rintro e w' ⟨rfl, hw'⟩
      subst w'
      go_wp2_with fail
      refine (isIndex_yes _ _ _ H3.out).mono ?_
      rintro e w' ⟨rfl, hw'⟩
      subst w'
      go_wp2
      go_ret
      exact ⟨ret_bool E2.out.symm, B1.out⟩
end Go.Proofs.YtihmihkhkmadmaaDoor
