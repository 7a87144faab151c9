/- An entry that is right, and its updates: by the program. -/
import Derived.Test.YtpgdpachomdfhaaGreatDoorZAQ
import Derived.Test.YtpgdpachomdfhaaGreatDoorZAJ
namespace Go.Proofs.YtpgdpachomdfhaaGreatDoor
open Go.RowKit

/-- The variable of a free entry lies as the program's start has laid it. -/
def FD (w : World) : Prop := ∃ t fr, w.heap[0]? = some (.cells #[.int .i64 0, .string ⟨#[]⟩, .int .i64 (-1)] t fr)
theorem FD.lt {w : World} (h : FD w) : 0 < w.heap.size := by
  obtain ⟨t, fr, h⟩ := h
  exact (Array.getElem?_eq_some_iff.1 h).1
theorem FD.below {w w' : World} (h : FD w) (hb : Below w.heap.size w w') : FD w' := by
  have hl := h.lt
  obtain ⟨t, fr, h⟩ := h
  exact ⟨t, fr, (hb.block _ hl).trans h⟩
theorem FD.cells {w : World} (h : FD w) : w.cell? ⟨0, 0, none⟩ = some (.int .i64 0) ∧ w.cell? ⟨0, 1, none⟩ = some (.string ⟨#[]⟩) ∧ w.cell? ⟨0, 2, none⟩ = some (.int .i64 (-1)) := by
  obtain ⟨t, fr, h⟩ := h
  simp [World.cell?, h]
/-- Two entries are alike. -/
def denEq (a : Int) (s : ByteArray) (c a' : Int) (s' : ByteArray) (c' : Int) : Bool := (a == a') && ((s.toList == s'.toList) && (c == c'))

set_option maxRecDepth 100000 in
set_option maxHeartbeats 4000000 in
@[go_sem ↓] theorem eqDen (a : Int) (s : ByteArray) (c a' : Int) (s' : ByteArray) (c' : Int) (w : World) : (Op.equalIn 10000 54 (.agg #[.int .i64 a, .string s, .int .i64 c]) (.agg #[.int .i64 a', .string s', .int .i64 c'])).run Tryz.prog w = .ok (denEq a s c a' s' c') w := by
  unfold denEq
  cases g0 : (a == a')
  · go_simp
  cases g1 : (s.toList == s'.toList)
  · go_simp
  cases g2 : (c == c')
  · go_simp
  · go_simp
theorem empty_bytes : (⟨#[]⟩ : ByteArray).toList = [] := (noBytes _).2 rfl
theorem den_free (x : Den) : denEq x.dir x.name x.child 0 ⟨#[]⟩ (-1) = x.freeB := by
  unfold denEq Den.freeB
  congr 2
  rw [empty_bytes, Bool.eq_iff_iff, beq_iff_eq, beq_iff_eq]
  exact noBytes x.name
theorem Den.okB_free {x : Den} (h : x.freeB = true) : x.okB = true := by unfold Den.okB; rw [h]; rfl
theorem Den.okB_not {x : Den} (h : x.freeB = false) : x.okB = (decide (1 ≤ x.child ∧ x.child ≤ 15) && (decide (0 ≤ x.dir ∧ x.dir ≤ 15) && nmB x.name)) := by unfold Den.okB; rw [h, Bool.false_or]
theorem packC_name (s : ByteArray) : (packC s == 0) = nmB s := by
  unfold packC
  cases h : nmB s with
  | true =>
    have := (of_decide_eq_true h : 1 ≤ s.size ∧ s.size ≤ 6 ∧ _)
    rw [if_neg (by omega), if_pos rfl]; rfl
  | false =>
    split
    · rfl
    · rw [if_neg (by decide)]; rfl

theorem isShortName_any (s : ByteArray) (w : World) (hs : s.size ≤ maxLen) : Calls Tryz.prog 101 #[.string s] w fun e w' => e = .returned (.bool (nmB s)) ∧ Below w.heap.size w w' := by
  have P := hideIt (packC_name s)
  have LP := hideIt (fun w1 => implPackName_any s w1 hs)
  generalize packV s = pv at *
  generalize packC s = pc at *
  clear hs
  go_enter Tryz.func101, Tryz.ntmps101
  go_wp2_with fail
  refine (LP.out _).mono ?_
  rintro e w1 ⟨rfl, hb1⟩
  go_wp2
  go_ret
  exact ⟨ret_bool P.out, hb1⟩

set_option maxRecDepth 100000 in
set_option maxHeartbeats 4000000 in
theorem isDirent_any (x : Den) (w : World) (hF : FD w) (hs : x.name.size ≤ maxLen) : Calls Tryz.prog 67 #[x.v] w fun e w' => e = .returned (.bool x.okB) ∧ Below w.heap.size w w' := by
  have LN := hideIt (fun w1 => isShortName_any x.name w1 hs)
  have DF := den_free x
  have OF := @Den.okB_free x
  have ON := @Den.okB_not x
  obtain ⟨d, s, c⟩ := x
  simp only at LN DF ON hs
  unfold Den.v
  simp only
  have BW := hideIt ((Below.refl w.heap.size w).alloc (Nat.le_refl _) (.cells #[.int .i64 d, .string s, .int .i64 c] 54))
  have CB : Hid (∀ w', Below (w.alloc (.cells #[.int .i64 d, .string s, .int .i64 c] 54)).heap.size (w.alloc (.cells #[.int .i64 d, .string s, .int .i64 c] 54)) w' → w'.cell? ⟨w.heap.size, 0, none⟩ = some (.int .i64 d) ∧ w'.cell? ⟨w.heap.size, 1, none⟩ = some (.string s) ∧ w'.cell? ⟨w.heap.size, 2, none⟩ = some (.int .i64 c)) := fun w' hb => three_cells ((hb.block _ (by simp)).trans (at_new rfl))
  obtain ⟨x0, x1, x2⟩ := CB.out _ (Below.refl _ _)
  obtain ⟨f0, f1, f2⟩ := FD.cells (hF.below BW.out)
  clear hF hs
  cases h0 : (Den.mk d s c).freeB with
  | true =>
    rw [h0] at DF
    have E := hideIt (OF h0)
    clear OF ON LN CB h0
    go_enter Tryz.func67, Tryz.ntmps67
    go_wp2
    go_ret
    exact ⟨ret_bool E.out.symm, BW.out⟩
  | false =>
    rw [h0] at DF
    have E := hideIt (ON h0)
    clear OF ON h0
    cases h1 : nmB s with
    | false =>
      rw [h1] at E
      have N1 := hideIt h1
      clear h1 CB
      go_enter Tryz.func67, Tryz.ntmps67
      go_wp2_with fail
      refine (LN.out _).mono ?_
      rw [N1.out]
      rintro e w1 ⟨rfl, hb1⟩
      have B1 := hideIt (below_trans BW.out hb1 BW.out.size)
      clear hb1 x0 x1 x2 f0 f1 f2
      go_wp2
      go_ret
      exact ⟨ret_bool (by rw [E.out, Bool.and_false, Bool.and_false]), B1.out⟩
    | true =>
      rw [h1] at E
      have N1 := hideIt h1
      clear h1
      by_cases h2 : 0 ≤ d ∧ d < 16
      case neg =>
        have E2 := hideIt (show (Den.mk d s c).okB = false by rw [E.out, decide_eq_false (show ¬ (0 ≤ d ∧ d ≤ 15) by omega), Bool.false_and, Bool.and_false])
        have H2 := hideIt h2
        clear h2 E
        go_enter Tryz.func67, Tryz.ntmps67
        go_wp2_with fail
        refine (LN.out _).mono ?_
        rw [N1.out]
        rintro e w1 ⟨rfl, hb1⟩
        have B1 := hideIt (below_trans BW.out hb1 BW.out.size)
        clear x0 x1 x2 f0 f1 f2
        obtain ⟨x0, x1, x2⟩ := CB.out _ hb1
        clear hb1 CB
        go_wp2_with fail
        refine (isIndex_no _ _ _ H2.out).mono ?_
        rintro e w' ⟨rfl, hw'⟩
        subst w'
        go_wp2
        go_ret
        exact ⟨ret_bool E2.out.symm, B1.out⟩
      by_cases h3 : 0 ≤ c ∧ c < 16
      case neg =>
        have E2 := hideIt (show (Den.mk d s c).okB = false by rw [E.out, decide_eq_false (show ¬ (1 ≤ c ∧ c ≤ 15) by omega), Bool.false_and])
        have H2 := hideIt h2
        have H3 := hideIt h3
        clear h2 h3 E
        go_enter Tryz.func67, Tryz.ntmps67
        go_wp2_with fail
        refine (LN.out _).mono ?_
        rw [N1.out]
        rintro e w1 ⟨rfl, hb1⟩
        have B1 := hideIt (below_trans BW.out hb1 BW.out.size)
        clear x0 x1 x2 f0 f1 f2
        obtain ⟨x0, x1, x2⟩ := CB.out _ hb1
        clear hb1 CB
        go_wp2_with fail
        refine (isIndex_yes _ _ _ H2.out).mono ?_
        rintro e w' ⟨rfl, hw'⟩
        subst w'
        go_wp2_with fail
        refine (isIndex_no _ _ _ H3.out).mono ?_
        rintro e w' ⟨rfl, hw'⟩
        subst w'
        go_wp2
        go_ret
        exact ⟨ret_bool E2.out.symm, B1.out⟩
      have E2 := hideIt (show (Den.mk d s c).okB = (c != 0) by
        rw [E.out, decide_eq_true (show 0 ≤ d ∧ d ≤ 15 by omega)]
        by_cases h : c = 0
        · rw [h]; rfl
        · rw [decide_eq_true (show 1 ≤ c ∧ c ≤ 15 by omega), eq_comm]; simpa using h)
      have H2 := hideIt h2
      have H3 := hideIt h3
      clear h2 h3 E
      go_enter Tryz.func67, Tryz.ntmps67
      go_wp2_with fail
      refine (LN.out _).mono ?_
      rw [N1.out]
      rintro e w1 ⟨rfl, hb1⟩
      have B1 := hideIt (below_trans BW.out hb1 BW.out.size)
      clear x0 x1 x2 f0 f1 f2
      obtain ⟨x0, x1, x2⟩ := CB.out _ hb1
      clear hb1 CB
      go_wp2_with fail
      refine (isIndex_yes _ _ _ H2.out).mono ?_
      rintro e w' ⟨rfl, hw'⟩
      subst w'
      go_wp2_with fail
      refine (isIndex_yes _ _ _ H3.out).mono ?_
      rintro e w' ⟨rfl, hw'⟩
      subst w'
      go_wp2
      go_ret
      exact ⟨ret_bool E2.out.symm, B1.out⟩

theorem arr3_all (b : Nat) (w : World) : (Instr.sliceAt 96 (.pointer (some ⟨b, 0, none⟩)) none none none).run Tryz.prog w = .ok (.slice (some ⟨b, 0, none⟩) 3 3) w := by
  have al : Tryz.prog.arrayLen 96 = 3 := by kernel_rfl
  rw [run_sliceAt_array_all w 96 ⟨b, 0, none⟩ (by kernel_rfl), al]
  have sz : (sizeOf (Tryz.prog.elem 96)).run Tryz.prog w = .ok 1 w := by kernel_rfl
  rw [sz]
  simp [Result.andThen, slicedAt, Addr.add]
theorem rd_three {w : World} {b : Nat} {t : TypeId} {x y z : Int} (h : w.heap[b]? = some (.cells #[.int .i64 x, .int .i64 y, .int .i64 z] t (0, 0))) : RdI w (.slice (some ⟨b, 0, none⟩) 3 3) [x, y, z] := by
  refine ⟨by rw [ints_len, Nat.mul_one], some ⟨b, 0, none⟩, 3, rfl, ⟨Nat.le_refl _, fun e => by cases e⟩, fun _ => ⟨b, 0, rfl, (Array.getElem?_eq_some_iff.1 h).1, fun j hj => ?_⟩⟩
  rw [Nat.zero_add]
  exact (eight_at (xs := [.int .i64 x, .int .i64 y, .int .i64 z]) h j).1
theorem pk_none {s : ByteArray} (h : s.size = 0) : pk s s.size = 0 := by
  rw [h]; rfl
theorem packV_ok {x : Den} (h : x.okB = true) : packV x.name = ((pk x.name x.name.size : Nat) : Int) := by
  cases hn : nmB x.name with
  | true => exact (pack_yes hn).1
  | false =>
    have hf : x.freeB = true := by
      unfold Den.okB at h
      rw [hn, Bool.and_false, Bool.and_false, Bool.or_false] at h
      exact h
    unfold Den.freeB at hf
    simp only [Bool.and_eq_true, beq_iff_eq] at hf
    rw [pk_none hf.2.1]
    unfold packV
    rw [hn]
    rfl
theorem ok_child {x : Den} (h : x.okB = true) : -1 ≤ x.child ∧ x.child ≤ 15 := by
  unfold Den.okB Den.freeB at h
  simp only [Bool.or_eq_true, Bool.and_eq_true, beq_iff_eq, decide_eq_true_eq] at h
  omega
theorem uf_en (k : Int) (x : Den) : ufL (240 + 3 * k) [x.dir, ((pk x.name x.name.size : Nat) : Int), x.child + 1] 3 = enL k x := by
  simp [ufL, enL, List.range_succ]

set_option maxRecDepth 100000 in
set_option maxHeartbeats 4000000 in
theorem implDirentUpdates_any (k : Int) (x : Den) (w : World) (hF : FD w) (hs : x.name.size ≤ maxLen) :
    Calls Tryz.prog 33 #[.int .i64 k, x.v] w fun e w' => ∃ v', e = .returned (.tuple #[v', .int .i64 (duC k x)]) ∧ Row w' 61 2 w.heap.size w'.heap.size v' (duL k x).length (ses (duL k x)) ∧ Below w.heap.size w w' := by
  have LF := hideIt (fun w1 (h : FD w1) => isDirent_any x w1 h hs)
  have LP := hideIt (fun w1 => implPackName_any x.name w1 hs)
  have PV := @packV_ok x
  have KC := @ok_child x
  have UE := hideIt (uf_en k x)
  have DC := du_cases k x
  have BW := hideIt ((Below.refl w.heap.size w).alloc (Nat.le_refl _) (.cells #[.int .i64 x.dir, .string x.name, .int .i64 x.child] 54))
  have CB : Hid (∀ w', Below (w.alloc (.cells #[.int .i64 x.dir, .string x.name, .int .i64 x.child] 54)).heap.size (w.alloc (.cells #[.int .i64 x.dir, .string x.name, .int .i64 x.child] 54)) w' → w'.cell? ⟨w.heap.size, 0, none⟩ = some (.int .i64 x.dir) ∧ w'.cell? ⟨w.heap.size, 1, none⟩ = some (.string x.name) ∧ w'.cell? ⟨w.heap.size, 2, none⟩ = some (.int .i64 x.child)) := fun w' hb => three_cells ((hb.block _ (by simp)).trans (at_new rfl))
  have F : Hid (FD (w.alloc (.cells #[.int .i64 x.dir, .string x.name, .int .i64 x.child] 54))) := hF.below BW.out
  have hz : w.heap.size < (w.alloc (.cells #[.int .i64 x.dir, .string x.name, .int .i64 x.child] 54)).heap.size := by simp
  obtain ⟨W, hW⟩ : ∃ W, W = w.alloc (.cells #[.int .i64 x.dir, .string x.name, .int .i64 x.child] 54) := ⟨_, rfl⟩
  rw [← hW] at BW CB F hz
  rw [show x.v = .agg #[.int .i64 x.dir, .string x.name, .int .i64 x.child] from rfl]
  clear hF hs
  rcases DC with ⟨c1, e1, e2⟩ | ⟨c1, c2, e1, e2⟩ | ⟨c1, c2, e1, e2⟩
  · rw [e1, e2]
    obtain ⟨k1, k2⟩ := den_out (i := k) (f := 0) (by omega)
    have K1 := hideIt k1
    have K2 := hideIt k2
    clear e1 e2 c1 k1 k2 PV KC
    go_enter Tryz.func33, Tryz.ntmps33
    go_wp2_with fail
    rw [← hW]
    clear hW
    refine (implDirent_any _ _ _).mono ?_
    rw [K2.out]
    rintro e w' ⟨rfl, hw'⟩
    subst w'
    go_wp2
    go_ret2
    exact ⟨_, rfl, Row.nil _ _ _ _ _, BW.out⟩
  · rw [e1, e2]
    obtain ⟨k1, k2⟩ := den_in (i := k) (f := 0) (by omega) (by omega)
    have K1 := hideIt k1
    have K2 := hideIt k2
    have C2 := hideIt c2
    clear e1 e2 c1 c2 k1 k2 PV KC
    go_enter Tryz.func33, Tryz.ntmps33
    go_wp2_with fail
    rw [← hW]
    clear hW
    refine (implDirent_any _ _ _).mono ?_
    rw [K1.out, K2.out]
    rintro e w' ⟨rfl, hw'⟩
    subst w'
    obtain ⟨p0, p1, p2⟩ := CB.out W (Below.refl _ _)
    go_wp2_with fail
    refine (LF.out _ F.out).mono ?_
    rw [C2.out]
    rintro e w1 ⟨rfl, hb⟩
    have B1 := hideIt (below_trans BW.out hb (by omega))
    clear hb p0 p1 p2
    go_wp2
    go_ret2
    exact ⟨_, rfl, Row.nil _ _ _ _ _, B1.out⟩
  · rw [e1, e2]
    obtain ⟨k1, k2⟩ := den_in (i := k) (f := 0) (by omega) (by omega)
    have K1 := hideIt k1
    have K2 := hideIt k2
    have C2 := hideIt c2
    have P2 := hideIt (PV c2)
    obtain ⟨b0, b1⟩ := KC c2
    have RA := hideIt (show 0 ≤ 240 + 3 * k ∧ 240 + 3 * k ≤ 1000 by omega)
    clear e1 e2 c1 c2 k1 k2 PV KC
    go_enter Tryz.func33, Tryz.ntmps33
    go_wp2_with fail
    rw [← hW]
    clear hW
    refine (implDirent_any _ _ _).mono ?_
    rw [K1.out, K2.out]
    rintro e w' ⟨rfl, hw'⟩
    subst w'
    obtain ⟨p0, p1, p2⟩ := CB.out W (Below.refl _ _)
    go_wp2_with fail
    refine (LF.out _ F.out).mono ?_
    rw [C2.out]
    rintro e w1 ⟨rfl, hb⟩
    have B1 := hideIt (below_trans BW.out hb (by omega))
    have H1 := hideIt hb
    have hz1 : W.heap.size ≤ w1.heap.size := hb.size
    clear p0 p1 p2
    obtain ⟨p0, p1, p2⟩ := CB.out w1 hb
    clear hb
    go_wp2_with fail
    refine (LP.out _).mono ?_
    rw [P2.out]
    rintro e w2 ⟨rfl, hb⟩
    have B2 := hideIt (below_trans B1.out hb (by omega))
    have H2 := hideIt (below_trans H1.out hb (by omega))
    have hz2 : w1.heap.size ≤ w2.heap.size := hb.size
    clear p0 p1 p2
    obtain ⟨p0, p1, p2⟩ := CB.out w2 H2.out
    generalize ((pk x.name x.name.size : Nat) : Int) = pv at *
    clear hb H1 H2 B1
    have B3 := hideIt (B2.out.alloc (by omega) (.cells #[.int .i64 x.dir, .int .i64 pv, .int .i64 (x.child + 1)] 96))
    have R3 := hideIt (rd_three (w := w2.alloc (.cells #[.int .i64 x.dir, .int .i64 pv, .int .i64 (x.child + 1)] 96)) (at_new rfl))
    have s3 := arr3_all w2.heap.size
    go_wp2_with fail
    refine (updatesFrom_any _ _ [x.dir, pv, x.child + 1] _ R3.out (show (3 : Nat) ≤ 64 by omega) RA.out).mono ?_
    rw [show [x.dir, pv, x.child + 1].length = 3 from rfl, UE.out]
    rintro e w5 ⟨v5, rfl, hr5, hb5⟩
    obtain ⟨-, aL, cL, hvL, -⟩ := hr5.rd
    subst hvL
    have R5 := hideIt (hr5.wide (B3.out.size) (Nat.le_refl _))
    have B5 := hideIt (below_trans B3.out hb5 B3.out.size)
    clear hr5 hb5
    go_wp2
    go_ret2
    exact ⟨_, rfl, R5.out, B5.out⟩
end Go.Proofs.YtpgdpachomdfhaaGreatDoor
