/- Fresh heat, heat that is touched, heat that cools down: by the program. -/
import Derived.Test.YtipklbnfobckaaaDoorZBG
import Derived.Deep.OwnRows
import Derived.Deep.RegionHeld3
import Derived.Deep.DeepCutAuto
namespace Go.Proofs.YtipklbnfobckaaaDoor
open Go.RowKit

def onesL (m : Nat) : List Value := List.replicate m (.int .i64 1)
theorem onesL_len (m : Nat) : (onesL m).length = m := by simp [onesL]
/-- A row whose first numbers are 1, the others 0. -/
def rpHt (n : Nat) : List Value := List.replicate n (.int .i64 1) ++ List.replicate (128 - n) (.int .i64 0)
theorem rpC_len (n : Nat) (h : n ≤ 128) : (rpHt n).length = 128 := by simp [rpHt]; omega
theorem rpC_made : (madeCells #[.int .i64 0] 128) = (rpHt 0).toArray := by kernel_rfl
theorem rpC_splice (n m : Nat) (h : n + m ≤ 128) : splice (rpHt n) n (onesL m) = rpHt (n + m) := by
  unfold splice rpHt onesL
  rw [List.take_left' (by simp), List.drop_append, List.length_replicate, List.drop_of_length_le (by simp), List.drop_replicate, List.length_replicate, List.nil_append, ← List.append_assoc, List.replicate_append_replicate]
  rw [show 128 - n - (n + m - n) = 128 - (n + m) by omega]
theorem rpC_at (n j : Nat) (v : Value) (h : (onesL n)[j]? = some v) : (rpHt n)[j]? = some v := by
  unfold onesL at h
  have hj : j < n := by
    rcases Nat.lt_or_ge j n with q | q
    · exact q
    · rw [List.getElem?_eq_none (by simpa using q)] at h
      cases h
  unfold rpHt
  rw [List.getElem?_append_left (by simpa using hj)]
  exact h
theorem rep_one (m : Nat) : ∀ v ∈ onesL m, v.oneCell' = true := fun v hv => by
  unfold onesL at hv
  rw [List.eq_of_mem_replicate hv]; rfl
theorem szI3 : (Tryd.prog.info? 3).map (·.size) = some 1 := by kernel_rfl
theorem rpC_all : rpHt 128 = ints (newH 128) := by
  unfold rpHt newH ints
  simp

theorem rpC_cell {w : World} {g n j : Nat} {v : Value} (h : w.heap[g]? = some (.cells (rpHt n).toArray 3 (0, 0))) (hj : (onesL n)[j]? = some v) : w.cell? ((⟨g, 0, none⟩ : Addr).add j) = some v := by
  rw [Addr.add_lit, Nat.zero_add]
  have := rpC_at n j v hj
  simp only [World.cell?, h]
  simpa using this

set_option maxRecDepth 100000 in
set_option maxHeartbeats 4000000 in
theorem repeat_any (b : Nat) (w : World) (h : ∀ w', Below w.heap.size w w' → w'.cell? ⟨b, 0, none⟩ = some (.int .i64 1)) : Calls Tryd.prog 27 #[.slice (some ⟨b, 0, none⟩) 1 1, .int .i64 128] w fun e w' => ∃ v', e = .returned v' ∧ Row w' 3 1 w.heap.size w'.heap.size v' 128 (ints (newH 128)) ∧ Below w.heap.size w w' := by
  have hmk : ∀ w : World, (Instr.makeSlice 22 (.int .i64 128) (.int .i64 128)).run Tryd.prog w = .ok (.slice (some ⟨w.heap.size, 0, none⟩) 128 128) (w.alloc (.cells (rpHt 0).toArray 3)) := fun w => by
    rw [← rpC_made]
    exact run_make_row' (P := Tryd.prog) 22 3 (.int .i64 0) 8 Tryd.underlying22 info3 rfl .i64 .i64 128 (by omega) (by omega) w
  have HH := hideIt h
  clear h
  obtain ⟨W, hW⟩ : ∃ W, W = w.alloc (.cells (rpHt 0).toArray 3) := ⟨_, rfl⟩
  have BW : Hid (Below w.heap.size w W) := by rw [hW]; exact (Below.refl _ _).alloc (Nat.le_refl _) _
  have HG : Hid (W.heap[w.heap.size]? = some (.cells (rpHt 0).toArray 3 (0, 0))) := by rw [hW]; exact at_new rfl
  have hzW : W.heap.size = w.heap.size + 1 := by rw [hW]; simp
  have HZ := hideIt hzW
  clear hzW
  go_enter Tryd.func27, Tryd.ntmps27
  go_wp2_with fail
  refine (mul_two _).mono ?_
  rintro e w' ⟨rfl, hw'⟩
  subst w'
  go_upto_region 7 with fail
  rw [← hW]
  clear hW hmk
  have SR : Hid (∀ j v, (onesL 1)[j]? = some v → W.cell? ((⟨b, 0, none⟩ : Addr).add j) = some v) := fun j v hv => by
    obtain rfl : j = 0 := by
      rcases Nat.eq_zero_or_pos j with q | q
      · exact q
      · rw [List.getElem?_eq_none (by rw [onesL_len]; omega)] at hv; cases hv
    rw [Addr.add_lit, Nat.zero_add, HH.out _ BW.out]
    exact hv
  go_wp2_with (refine wpList_copy_splice rfl (.tmp 31) (.tmp 32) 22 22 rfl 3 Tryd.underlying22 szI3 _ _ _ _ _ _ rfl rfl w.heap.size 0 (rpHt 0) 3 HG.out (onesL 1) rfl (fun _ => ⟨rfl, _, rfl, SR.out⟩) (by rw [rpC_len 0 (by omega), onesL_len]; omega) (rep_one 1) w.heap.size w BW.out (Nat.le_refl _) ?_)
  intro w2 hg2 hb2
  rw [rpC_splice 0 1 (by omega)] at hg2
  have B2 := hideIt hb2
  clear hb2 SR HG HH BW
  rw [onesL_len]
  go_wp2
  go_loopw [8] (fun i wr => ∃ n : Nat, (n = 1 ∨ n = 2 ∨ n = 4 ∨ n = 8 ∨ n = 16 ∨ n = 32 ∨ n = 64 ∨ n = 128) ∧ i = .int .i64 (n : Int) ∧ Hid (wr.heap[w.heap.size]? = some (.cells (rpHt n).toArray 3 (0, 0))) ∧ Hid (Below w.heap.size w wr)) (fun i _ => 128 - (intOf i).toNat)
  case atStart => exact ⟨1, .inl rfl, rfl, hg2, B2⟩
  case round =>
    obtain ⟨n, hn, rfl, G, B⟩ := hrel
    clear hg2 B2
    have RND : Hid (∀ m : Nat, n + m ≤ 128 → Hid (splice (rpHt n) n (onesL m) = rpHt (n + m))) := fun m h => rpC_splice n m h
    have LN : Hid (n ≤ 128 → (rpHt n).length = 128) := rpC_len n
    have CL : Hid (∀ w' : World, w'.heap[w.heap.size]? = some (.cells (rpHt n).toArray 3 (0, 0)) → ∀ j v, (onesL n)[j]? = some v → w'.cell? ((⟨w.heap.size, 0, none⟩ : Addr).add j) = some v) := fun w' h j v hv => rpC_cell h hv
    by_cases h128 : n = 128
    · subst h128
      have RW : Hid (Row wr 3 1 w.heap.size wr.heap.size (.slice (some ⟨w.heap.size, 0, none⟩) 128 128) 128 (ints (newH 128))) := by
        refine ⟨⟨by simp [ints, newH_len], .inr ⟨_, 128, _, rfl, Nat.le_refl _, G.out, Nat.le_refl _, by simp [maxLen], by rw [List.size_toArray, LN.out (Nat.le_refl _)], ?_⟩⟩, fun k hk => by cases hk; exact (Array.getElem?_eq_some_iff.1 G.out).1⟩
        rw [List.toList_toArray, List.take_of_length_le (by rw [LN.out (Nat.le_refl _)]; omega), rpC_all]
      clear G RND LN CL hn
      go_wp2
      go_ret
      exact ⟨_, rfl, RW.out, B.out⟩
    · have h64 : n = 1 ∨ n = 2 ∨ n = 4 ∨ n = 8 ∨ n = 16 ∨ n = 32 ∨ n = 64 := by omega
      clear hn h128
      rcases h64 with rfl | rfl | rfl | rfl | rfl | rfl | rfl
      · have GW : Hid (∀ w', Below wr.heap.size wr w' → w'.heap[w.heap.size]? = some (.cells (rpHt 1).toArray 3 (0, 0))) := fun w' hb => (hb.block _ (Array.getElem?_eq_some_iff.1 G.out).1).trans G.out
        have BA : Hid (∀ w', Below wr.heap.size wr w' → Below w.heap.size w w') := fun w' hb => below_trans B.out hb B.out.size
        have FIT := hideIt (LN.out (by omega))
        have SP := hideIt (RND.out 1 (by omega)).out
        clear G B LN RND
        go_wp2_with fail
        go_region_held3 (fun _ => True) (trivial)
          (first
            | (refine step_copy_splice rfl (.tmp 41) (.tmp 44) 22 22 rfl 3 Tryd.underlying22 szI3 _ _ _ _ _ _ rfl rfl w.heap.size 1 (rpHt 1) 3 (GW.out _ (by repeat (first | exact Below.refl _ _ | refine Below.drew ?_))) (onesL 1) (onesL_len _) (fun _ => ⟨rfl, _, rfl, CL.out _ (GW.out _ (by repeat (first | exact Below.refl _ _ | refine Below.drew ?_)))⟩) (by rw [FIT.out, onesL_len]; omega) (rep_one _) w.heap.size w (BA.out _ (by repeat (first | exact Below.refl _ _ | refine Below.drew ?_))) (Nat.le_refl _) ?_; intro w4 hg4 hb4))
        all_goals
          rw [SP.out] at hg4
          rw [onesL_len]
          have B4 := hideIt hb4
          clear hb4 GW BA FIT SP CL
          go_wp2
          go_roundw
          case rel => exact ⟨2, by omega, by go_num, hg4, B4⟩
          case measure => simp [intOf, IntKind.wrap_i64]
      · have GW : Hid (∀ w', Below wr.heap.size wr w' → w'.heap[w.heap.size]? = some (.cells (rpHt 2).toArray 3 (0, 0))) := fun w' hb => (hb.block _ (Array.getElem?_eq_some_iff.1 G.out).1).trans G.out
        have BA : Hid (∀ w', Below wr.heap.size wr w' → Below w.heap.size w w') := fun w' hb => below_trans B.out hb B.out.size
        have FIT := hideIt (LN.out (by omega))
        have SP := hideIt (RND.out 2 (by omega)).out
        clear G B LN RND
        go_wp2_with fail
        go_region_held3 (fun _ => True) (trivial)
          (first
            | (refine step_copy_splice rfl (.tmp 41) (.tmp 44) 22 22 rfl 3 Tryd.underlying22 szI3 _ _ _ _ _ _ rfl rfl w.heap.size 2 (rpHt 2) 3 (GW.out _ (by repeat (first | exact Below.refl _ _ | refine Below.drew ?_))) (onesL 2) (onesL_len _) (fun _ => ⟨rfl, _, rfl, CL.out _ (GW.out _ (by repeat (first | exact Below.refl _ _ | refine Below.drew ?_)))⟩) (by rw [FIT.out, onesL_len]; omega) (rep_one _) w.heap.size w (BA.out _ (by repeat (first | exact Below.refl _ _ | refine Below.drew ?_))) (Nat.le_refl _) ?_; intro w4 hg4 hb4))
        all_goals
          rw [SP.out] at hg4
          rw [onesL_len]
          have B4 := hideIt hb4
          clear hb4 GW BA FIT SP CL
          go_wp2
          go_roundw
          case rel => exact ⟨4, by omega, by go_num, hg4, B4⟩
          case measure => simp [intOf, IntKind.wrap_i64]
      · have GW : Hid (∀ w', Below wr.heap.size wr w' → w'.heap[w.heap.size]? = some (.cells (rpHt 4).toArray 3 (0, 0))) := fun w' hb => (hb.block _ (Array.getElem?_eq_some_iff.1 G.out).1).trans G.out
        have BA : Hid (∀ w', Below wr.heap.size wr w' → Below w.heap.size w w') := fun w' hb => below_trans B.out hb B.out.size
        have FIT := hideIt (LN.out (by omega))
        have SP := hideIt (RND.out 4 (by omega)).out
        clear G B LN RND
        go_wp2_with fail
        go_region_held3 (fun _ => True) (trivial)
          (first
            | (refine step_copy_splice rfl (.tmp 41) (.tmp 44) 22 22 rfl 3 Tryd.underlying22 szI3 _ _ _ _ _ _ rfl rfl w.heap.size 4 (rpHt 4) 3 (GW.out _ (by repeat (first | exact Below.refl _ _ | refine Below.drew ?_))) (onesL 4) (onesL_len _) (fun _ => ⟨rfl, _, rfl, CL.out _ (GW.out _ (by repeat (first | exact Below.refl _ _ | refine Below.drew ?_)))⟩) (by rw [FIT.out, onesL_len]; omega) (rep_one _) w.heap.size w (BA.out _ (by repeat (first | exact Below.refl _ _ | refine Below.drew ?_))) (Nat.le_refl _) ?_; intro w4 hg4 hb4))
        all_goals
          rw [SP.out] at hg4
          rw [onesL_len]
          have B4 := hideIt hb4
          clear hb4 GW BA FIT SP CL
          go_wp2
          go_roundw
          case rel => exact ⟨8, by omega, by go_num, hg4, B4⟩
          case measure => simp [intOf, IntKind.wrap_i64]
      · have GW : Hid (∀ w', Below wr.heap.size wr w' → w'.heap[w.heap.size]? = some (.cells (rpHt 8).toArray 3 (0, 0))) := fun w' hb => (hb.block _ (Array.getElem?_eq_some_iff.1 G.out).1).trans G.out
        have BA : Hid (∀ w', Below wr.heap.size wr w' → Below w.heap.size w w') := fun w' hb => below_trans B.out hb B.out.size
        have FIT := hideIt (LN.out (by omega))
        have SP := hideIt (RND.out 8 (by omega)).out
        clear G B LN RND
        go_wp2_with fail
        go_region_held3 (fun _ => True) (trivial)
          (first
            | (refine step_copy_splice rfl (.tmp 41) (.tmp 44) 22 22 rfl 3 Tryd.underlying22 szI3 _ _ _ _ _ _ rfl rfl w.heap.size 8 (rpHt 8) 3 (GW.out _ (by repeat (first | exact Below.refl _ _ | refine Below.drew ?_))) (onesL 8) (onesL_len _) (fun _ => ⟨rfl, _, rfl, CL.out _ (GW.out _ (by repeat (first | exact Below.refl _ _ | refine Below.drew ?_)))⟩) (by rw [FIT.out, onesL_len]; omega) (rep_one _) w.heap.size w (BA.out _ (by repeat (first | exact Below.refl _ _ | refine Below.drew ?_))) (Nat.le_refl _) ?_; intro w4 hg4 hb4))
        all_goals
          rw [SP.out] at hg4
          rw [onesL_len]
          have B4 := hideIt hb4
          clear hb4 GW BA FIT SP CL
          go_wp2
          go_roundw
          case rel => exact ⟨16, by omega, by go_num, hg4, B4⟩
          case measure => simp [intOf, IntKind.wrap_i64]
      · have GW : Hid (∀ w', Below wr.heap.size wr w' → w'.heap[w.heap.size]? = some (.cells (rpHt 16).toArray 3 (0, 0))) := fun w' hb => (hb.block _ (Array.getElem?_eq_some_iff.1 G.out).1).trans G.out
        have BA : Hid (∀ w', Below wr.heap.size wr w' → Below w.heap.size w w') := fun w' hb => below_trans B.out hb B.out.size
        have FIT := hideIt (LN.out (by omega))
        have SP := hideIt (RND.out 16 (by omega)).out
        clear G B LN RND
        go_wp2_with fail
        go_region_held3 (fun _ => True) (trivial)
          (first
            | (refine step_copy_splice rfl (.tmp 41) (.tmp 44) 22 22 rfl 3 Tryd.underlying22 szI3 _ _ _ _ _ _ rfl rfl w.heap.size 16 (rpHt 16) 3 (GW.out _ (by repeat (first | exact Below.refl _ _ | refine Below.drew ?_))) (onesL 16) (onesL_len _) (fun _ => ⟨rfl, _, rfl, CL.out _ (GW.out _ (by repeat (first | exact Below.refl _ _ | refine Below.drew ?_)))⟩) (by rw [FIT.out, onesL_len]; omega) (rep_one _) w.heap.size w (BA.out _ (by repeat (first | exact Below.refl _ _ | refine Below.drew ?_))) (Nat.le_refl _) ?_; intro w4 hg4 hb4))
        all_goals
          rw [SP.out] at hg4
          rw [onesL_len]
          have B4 := hideIt hb4
          clear hb4 GW BA FIT SP CL
          go_wp2
          go_roundw
          case rel => exact ⟨32, by omega, by go_num, hg4, B4⟩
          case measure => simp [intOf, IntKind.wrap_i64]
      · have GW : Hid (∀ w', Below wr.heap.size wr w' → w'.heap[w.heap.size]? = some (.cells (rpHt 32).toArray 3 (0, 0))) := fun w' hb => (hb.block _ (Array.getElem?_eq_some_iff.1 G.out).1).trans G.out
        have BA : Hid (∀ w', Below wr.heap.size wr w' → Below w.heap.size w w') := fun w' hb => below_trans B.out hb B.out.size
        have FIT := hideIt (LN.out (by omega))
        have SP := hideIt (RND.out 32 (by omega)).out
        clear G B LN RND
        go_wp2_with fail
        go_region_held3 (fun _ => True) (trivial)
          (first
            | (refine step_copy_splice rfl (.tmp 41) (.tmp 44) 22 22 rfl 3 Tryd.underlying22 szI3 _ _ _ _ _ _ rfl rfl w.heap.size 32 (rpHt 32) 3 (GW.out _ (by repeat (first | exact Below.refl _ _ | refine Below.drew ?_))) (onesL 32) (onesL_len _) (fun _ => ⟨rfl, _, rfl, CL.out _ (GW.out _ (by repeat (first | exact Below.refl _ _ | refine Below.drew ?_)))⟩) (by rw [FIT.out, onesL_len]; omega) (rep_one _) w.heap.size w (BA.out _ (by repeat (first | exact Below.refl _ _ | refine Below.drew ?_))) (Nat.le_refl _) ?_; intro w4 hg4 hb4))
        all_goals
          rw [SP.out] at hg4
          rw [onesL_len]
          have B4 := hideIt hb4
          clear hb4 GW BA FIT SP CL
          go_wp2
          go_roundw
          case rel => exact ⟨64, by omega, by go_num, hg4, B4⟩
          case measure => simp [intOf, IntKind.wrap_i64]
      · have GW : Hid (∀ w', Below wr.heap.size wr w' → w'.heap[w.heap.size]? = some (.cells (rpHt 64).toArray 3 (0, 0))) := fun w' hb => (hb.block _ (Array.getElem?_eq_some_iff.1 G.out).1).trans G.out
        have BA : Hid (∀ w', Below wr.heap.size wr w' → Below w.heap.size w w') := fun w' hb => below_trans B.out hb B.out.size
        have FIT := hideIt (LN.out (by omega))
        have SP := hideIt (RND.out 64 (by omega)).out
        clear G B LN RND
        go_wp2_with fail
        go_region_held3 (fun _ => True) (trivial)
          (first
            | (refine step_copy_splice rfl (.tmp 41) (.tmp 44) 22 22 rfl 3 Tryd.underlying22 szI3 _ _ _ _ _ _ rfl rfl w.heap.size 64 (rpHt 64) 3 (GW.out _ (by repeat (first | exact Below.refl _ _ | refine Below.drew ?_))) (onesL 64) (onesL_len _) (fun _ => ⟨rfl, _, rfl, CL.out _ (GW.out _ (by repeat (first | exact Below.refl _ _ | refine Below.drew ?_)))⟩) (by rw [FIT.out, onesL_len]; omega) (rep_one _) w.heap.size w (BA.out _ (by repeat (first | exact Below.refl _ _ | refine Below.drew ?_))) (Nat.le_refl _) ?_; intro w4 hg4 hb4))
        all_goals
          rw [SP.out] at hg4
          rw [onesL_len]
          have B4 := hideIt hb4
          clear hb4 GW BA FIT SP CL
          go_wp2
          go_roundw
          case rel => exact ⟨128, by omega, by go_num, hg4, B4⟩
          case measure => simp [intOf, IntKind.wrap_i64]
end Go.Proofs.YtipklbnfobckaaaDoor
