/- Fresh heat, heat that is touched, heat that cools down: by the program. -/
import Derived.Test.YtfcjhhiekjbbiaaTrE
namespace Go.Proofs.Ytfcjhhiekjbbiaa
open Go.RowKit

set_option maxRecDepth 100000 in
set_option maxHeartbeats 4000000 in
theorem implNewHeat_any (w : World) : Calls Try.prog 14 #[] w fun e w' => ∃ v', e = .returned v' ∧ Row w' 3 1 w.heap.size w'.heap.size v' (newH 128).length (ints (newH 128)) ∧ Below w.heap.size w w' := by
  obtain ⟨W, hW⟩ : ∃ W, W = w.alloc (.cells #[.int .i64 1] 3) := ⟨_, rfl⟩
  have BW : Hid (Below w.heap.size w W) := by rw [hW]; exact (Below.refl _ _).alloc (Nat.le_refl _) _
  have L := hideIt (repeat_any w.heap.size W (fun w' hb => by
    have q : w'.heap[w.heap.size]? = some (.cells #[.int .i64 1] 3 (0, 0)) := (hb.block _ (by rw [hW]; simp)).trans (by rw [hW]; exact at_new rfl)
    simp [World.cell?, q]))
  rw [newH_len]
  generalize newH 128 = H at *
  go_enter Try.func14, Try.ntmps14
  go_wp2_with fail
  rw [← hW]
  clear hW
  refine L.out.mono ?_
  rintro e w1 ⟨v1, rfl, hr1, hb1⟩
  have R1 := hideIt (hr1.wide (lo' := w.heap.size) BW.out.size (Nat.le_refl _))
  have B1 := hideIt (below_trans BW.out hb1 BW.out.size)
  obtain ⟨-, aN, cN, hvN, -⟩ := hr1.rd
  subst hvN
  clear hr1 hb1
  go_wp2
  go_ret
  exact ⟨_, rfl, R1.out, B1.out⟩

theorem isPage_yes (i p : Int) (w : World) (h : (0 ≤ i ∧ i < 16) ∧ (0 ≤ p ∧ p < 8)) : Calls Try.prog 26 #[.int .i64 i, .int .i64 p] w fun e w' => e = .returned (.bool true) ∧ w' = w := by
  obtain ⟨h1, h2⟩ := h
  go_enter Try.func26, Try.ntmps26
  go_wp2_with fail
  refine (isIndex_yes _ _ _ h1).mono ?_
  rintro e w' ⟨rfl, hw'⟩
  subst w'
  go_wp2_with fail
  refine (isIndex_yes _ _ _ h2).mono ?_
  rintro e w' ⟨rfl, hw'⟩
  subst w'
  go_wp2
  go_ret
  exact ⟨rfl, rfl⟩
theorem isPage_no (i p : Int) (w : World) (h : ¬ ((0 ≤ i ∧ i < 16) ∧ (0 ≤ p ∧ p < 8))) : Calls Try.prog 26 #[.int .i64 i, .int .i64 p] w fun e w' => e = .returned (.bool false) ∧ w' = w := by
  by_cases h1 : 0 ≤ i ∧ i < 16
  · have h2 : ¬ (0 ≤ p ∧ p < 8) := fun q => h ⟨h1, q⟩
    clear h
    go_enter Try.func26, Try.ntmps26
    go_wp2_with fail
    refine (isIndex_yes _ _ _ h1).mono ?_
    rintro e w' ⟨rfl, hw'⟩
    subst w'
    go_wp2_with fail
    refine (isIndex_no _ _ _ h2).mono ?_
    rintro e w' ⟨rfl, hw'⟩
    subst w'
    go_wp2
    go_ret
    exact ⟨rfl, rfl⟩
  · clear h
    go_enter Try.func26, Try.ntmps26
    go_wp2_with fail
    refine (isIndex_no _ _ _ h1).mono ?_
    rintro e w' ⟨rfl, hw'⟩
    subst w'
    go_wp2
    go_ret
    exact ⟨rfl, rfl⟩
theorem heatAt_any (i p : Nat) (w : World) (hi : i < 16) (hp : p < 8) : Calls Try.prog 28 #[.int .i64 (i : Int), .int .i64 (p : Int)] w fun e w' => e = .returned (.int .i64 ((8 * i + p : Nat) : Int)) ∧ w' = w := by
  have w1f : IntKind.i64.wrap (8 * (i : Int)) = 8 * (i : Int) := by rw [IntKind.wrap_i64]; omega
  have w2f : IntKind.i64.wrap (8 * (i : Int) + (p : Int)) = 8 * (i : Int) + (p : Int) := by rw [IntKind.wrap_i64]; omega
  rw [show ((8 * i + p : Nat) : Int) = 8 * (i : Int) + (p : Int) by omega]
  go_enter Try.func28, Try.ntmps28
  go_wp2
  go_ret
  exact ⟨rfl, rfl⟩

theorem in_nil {w w1 : World} {c : Int} (B : Below w.heap.size w w1) : InOut w w1 (.returned (.tuple #[.slice none 0 0, .int .i64 c])) ([], c) := ⟨_, rfl, Row.nil _ _ _ _ _, B⟩
theorem hf_ways (hs : List Int) : (4096 < hs.length ∧ hfI hs = 2) ∨ (¬ 4096 < hs.length ∧ heatB hs = false ∧ hfI hs = 1) ∨ (¬ 4096 < hs.length ∧ heatB hs = true ∧ hfI hs = 0) := by
  unfold hfI
  by_cases c : 4096 < hs.length
  · rw [if_pos c]; exact .inl ⟨c, rfl⟩
  · rw [if_neg c]
    cases h : heatB hs with
    | false => exact .inr (.inl ⟨c, rfl, by simp⟩)
    | true => exact .inr (.inr ⟨c, rfl, by simp⟩)

set_option maxRecDepth 100000 in
set_option maxHeartbeats 4000000 in
theorem implTouch_any (v : Value) (hs : List Int) (i p : Int) (w : World) (h : RdI w v hs) (hn : hs.length ≤ 1048576) :
    Calls Try.prog 10 #[v, .int .i64 i, .int .i64 p] w fun e w' => InOut w w' e (toR hs i p) := by
  have LH := hideIt (heatFault_any v hs w h hn)
  have LC := hideIt (fun (q : heatB hs = true) => cloneInt_any v hs w h (heat_parts q).1)
  have BR := hideIt (Below.refl w.heap.size w)
  have HP := hideIt (fun (q : heatB hs = true) => heat_parts q)
  obtain ⟨ao, cap, rfl, -, -⟩ := h.shape
  clear h
  rcases hf_ways hs with ⟨c1, e1⟩ | ⟨c1, c2, e1⟩ | ⟨c1, c2, e1⟩
  · rw [show toR hs i p = ([], 2) by unfold toR; rw [if_pos c1]]
    rw [e1] at LH
    clear c1 e1 LC HP
    go_enter Try.func10, Try.ntmps10
    go_wp2_with fail
    refine LH.out.mono ?_
    rintro e w' ⟨rfl, hw'⟩
    subst w'
    go_wp2
    go_ret2
    exact in_nil BR.out
  · rw [show toR hs i p = ([], 1) by unfold toR; rw [if_neg c1, c2, if_neg (by decide)]]
    rw [e1] at LH
    clear c1 e1 c2 LC HP
    go_enter Try.func10, Try.ntmps10
    go_wp2_with fail
    refine LH.out.mono ?_
    rintro e w' ⟨rfl, hw'⟩
    subst w'
    go_wp2
    go_ret2
    exact in_nil BR.out
  have LC2 := hideIt (LC.out c2)
  obtain ⟨h1, h2⟩ := HP.out c2
  rw [e1] at LH
  by_cases c3 : (0 ≤ i ∧ i < 16) ∧ (0 ≤ p ∧ p < 8)
  case neg =>
    rw [show toR hs i p = ([], 4) by unfold toR; rw [if_neg c1, c2, if_pos rfl, if_neg (by omega)]]
    clear c1 e1 c2 LC HP LC2 h1 h2
    go_enter Try.func10, Try.ntmps10
    go_wp2_with fail
    refine LH.out.mono ?_
    rintro e w' ⟨rfl, hw'⟩
    subst w'
    go_wp2_with fail
    refine (isPage_no _ _ _ c3).mono ?_
    rintro e w' ⟨rfl, hw'⟩
    subst w'
    go_wp2
    go_ret2
    exact in_nil BR.out
  rw [show toR hs i p = (touH hs (8 * i + p).toNat, 0) by unfold toR; rw [if_neg c1, c2, if_pos rfl, if_pos (by omega)]]
  obtain ⟨a, rfl⟩ : ∃ a : Nat, i = (a : Int) := ⟨i.toNat, by omega⟩
  obtain ⟨b, rfl⟩ : ∃ b : Nat, p = (b : Int) := ⟨p.toNat, by omega⟩
  rw [show (8 * (a : Int) + (b : Int)).toNat = 8 * a + b by omega]
  have LA := hideIt (heatAt_any a b · (by omega) (by omega))
  obtain ⟨k, hk⟩ : ∃ k : Nat, k = 8 * a + b := ⟨_, rfl⟩
  rw [← hk] at LA ⊢
  have k128 : k < hs.length := by omega
  obtain ⟨z0, z64⟩ := h2 k k128
  have EG : Hid (hs.getD k 0 = hs[k]) := by unfold Hid; rw [List.getD_eq_getElem?_getD, List.getElem?_eq_getElem k128]; rfl
  have ET : Hid (touH hs k = hs.set k (min 64 (hs[k] + 8))) := by unfold Hid touH; rw [EG.out]
  have CL : Hid ((ints hs)[k]? = some (.int .i64 hs[k])) := ints_at hs k k128
  rw [ET.out]
  have w3f : IntKind.i64.wrap (hs[k] + 8) = hs[k] + 8 := by rw [IntKind.wrap_i64]; omega
  have SL : Hid (∀ m : Int, (hs.set k m).length = 128) := fun m => by rw [List.length_set]; exact h1
  generalize hs[k] = z at *
  obtain ⟨mm, em, cm⟩ : ∃ mm : Int, min 64 (z + 8) = mm ∧ ((z + 8 ≤ 64 ∧ mm = z + 8) ∨ (¬ z + 8 ≤ 64 ∧ mm = 64)) := ⟨min 64 (z + 8), rfl, by omega⟩
  rw [em]
  have CM := hideIt cm
  have k0 : (0 : Int) ≤ (k : Int) := by omega
  have k1 : (k : Int) < 128 := by omega
  have kn : k < 128 := by omega
  clear em cm c1 e1 c2 LC HP h1 h2 EG ET hk
  go_enter Try.func10, Try.ntmps10
  go_wp2_with fail
  refine LH.out.mono ?_
  rintro e w' ⟨rfl, hw'⟩
  subst w'
  go_wp2_with fail
  refine (isPage_yes _ _ _ c3).mono ?_
  rintro e w' ⟨rfl, hw'⟩
  subst w'
  go_wp2_with fail
  refine LC2.out.mono ?_
  rintro e wN ⟨bN, cN, rfl, hr1, hb1⟩
  have G := hideIt hr1
  have BN := hideIt hb1
  clear hr1 hb1
  go_wp2_with fail
  refine (LA.out _).mono ?_
  rintro e w' ⟨rfl, hw'⟩
  subst w'
  obtain ⟨_, _, _, hbl, hfr, hcl⟩ := G.out.at
  have e0 : wN.cell? ⟨bN, k, none⟩ = some (.int .i64 z) := by
    have := hcl k (by rw [Nat.mul_one]; exact kn)
    exact this.trans CL.out
  have f0 : wN.frozen? ⟨bN, k, none⟩ = false := hfr k
  have hwb : w.heap.size ≤ bN := (G.out.1.lt bN rfl).1
  have R2 : Hid (Row (wN.setCell ⟨bN, k, none⟩ (.int .i64 mm)) 3 1 w.heap.size (wN.setCell ⟨bN, k, none⟩ (.int .i64 mm)).heap.size (.slice (some ⟨bN, 0, none⟩) 128 cN) (hs.set k mm).length (ints (hs.set k mm))) := by
    have q := G.out.stored k (.int .i64 mm)
    rw [ints_set] at q
    rw [SL.out]
    exact q.wide (Nat.le_refl _) (by simp [World.setCell])
  have B2 : Hid (Below w.heap.size w (wN.setCell ⟨bN, k, none⟩ (.int .i64 mm))) := BN.out.setCell hwb _
  clear G BN hcl hfr LH LC2 LA SL k128
  rcases CM.out with ⟨c1, rfl⟩ | ⟨c1, rfl⟩
  all_goals
    go_wp2
    go_ret2
    exact ⟨_, rfl, R2.out, B2.out⟩

/-- The first ones halved. -/
def dcT (hs : List Int) (k : Nat) : List Int := (hs.take k).map (fun z => z / 2) ++ hs.drop k
theorem dcT_zero (hs : List Int) : dcT hs 0 = hs := by simp [dcT]
theorem dcT_all (hs : List Int) (h : hs.length = 128) : dcT hs 128 = decH hs 128 := by unfold dcT decH; rw [List.drop_of_length_le (by omega), List.append_nil]
theorem dcT_len (hs : List Int) (k : Nat) : (dcT hs k).length = hs.length := by unfold dcT; simp; omega
theorem dcT_at (hs : List Int) (k : Nat) (h : k < hs.length) : (ints (dcT hs k))[k]? = some (.int .i64 hs[k]) := by
  have l : ((hs.take k).map (fun z => z / 2)).length = k := by simp; omega
  have e : (dcT hs k)[k]? = some hs[k] := by
    unfold dcT
    rw [List.getElem?_append_right (by omega), l, Nat.sub_self, List.getElem?_drop, Nat.add_zero, List.getElem?_eq_getElem h]
  unfold ints
  rw [List.getElem?_map, e]
  rfl
theorem dcT_set (hs : List Int) (k : Nat) (h : k < hs.length) : (dcT hs k).set k (hs[k] / 2) = dcT hs (k + 1) := by
  have l : ((hs.take k).map (fun z => z / 2)).length = k := by simp; omega
  unfold dcT
  rw [List.set_append_right _ _ (by omega), l, Nat.sub_self, List.drop_eq_getElem_cons h, List.set_cons_zero, List.take_succ_eq_append_getElem h, List.map_append, List.append_assoc]
  rfl

set_option maxRecDepth 100000 in
set_option maxHeartbeats 4000000 in
theorem implDecay_any (v : Value) (hs : List Int) (w : World) (h : RdI w v hs) (hn : hs.length ≤ 1048576) :
    Calls Try.prog 15 #[v] w fun e w' => InOut w w' e (deR hs) := by
  have LH := hideIt (heatFault_any v hs w h hn)
  have LC := hideIt (fun (q : heatB hs = true) => cloneInt_any v hs w h (heat_parts q).1)
  have BR := hideIt (Below.refl w.heap.size w)
  have HP := hideIt (fun (q : heatB hs = true) => heat_parts q)
  obtain ⟨ao, cap, rfl, -, -⟩ := h.shape
  clear h
  rcases hf_ways hs with ⟨c1, e1⟩ | ⟨c1, c2, e1⟩ | ⟨c1, c2, e1⟩
  · rw [show deR hs = ([], 2) by unfold deR; rw [if_pos c1]]
    rw [e1] at LH
    clear c1 e1 LC HP
    go_enter Try.func15, Try.ntmps15
    go_wp2_with fail
    refine LH.out.mono ?_
    rintro e w' ⟨rfl, hw'⟩
    subst w'
    go_wp2
    go_ret2
    exact in_nil BR.out
  · rw [show deR hs = ([], 1) by unfold deR; rw [if_neg c1, c2, if_neg (by decide)]]
    rw [e1] at LH
    clear c1 e1 c2 LC HP
    go_enter Try.func15, Try.ntmps15
    go_wp2_with fail
    refine LH.out.mono ?_
    rintro e w' ⟨rfl, hw'⟩
    subst w'
    go_wp2
    go_ret2
    exact in_nil BR.out
  have LC2 := hideIt (LC.out c2)
  obtain ⟨h1, h2⟩ := HP.out c2
  rw [e1] at LH
  rw [show deR hs = (decH hs 128, 0) by unfold deR; rw [if_neg c1, c2, if_pos rfl]]
  have E0 := hideIt (dcT_zero hs)
  have EA := hideIt (dcT_all hs h1)
  have EL := hideIt (show (decH hs 128).length = 128 by rw [← EA.out, dcT_len, h1])
  have HV : Hid (∀ k : Nat, k < 128 → ∃ z : Int, 0 ≤ z ∧ z ≤ 64 ∧ (ints (dcT hs k))[k]? = some (.int .i64 z) ∧ (dcT hs k).set k (z / 2) = dcT hs (k + 1)) := fun k hk => ⟨hs[k]'(by omega), (h2 k (by omega)).1, (h2 k (by omega)).2, dcT_at hs k (by omega), dcT_set hs k (by omega)⟩
  clear c1 e1 c2 LC HP h1 h2
  go_enter Try.func15, Try.ntmps15
  go_wp2_with fail
  refine LH.out.mono ?_
  rintro e w' ⟨rfl, hw'⟩
  subst w'
  go_wp2_with fail
  refine LC2.out.mono ?_
  rintro e wN ⟨bN, cN, rfl, hr1, hb1⟩
  rw [← E0.out] at hr1
  have G := hideIt hr1
  have BN := hideIt hb1
  clear hr1 hb1 LH LC2
  go_wp2
  go_loopw [6, 16] (fun _ i wr => ∃ m : Nat, m ≤ 128 ∧ i = .int .i64 (m : Int) ∧ Hid (Row wr 3 1 w.heap.size wr.heap.size (.slice (some ⟨bN, 0, none⟩) 128 cN) 128 (ints (dcT hs m))) ∧ Hid (Below w.heap.size w wr)) (fun _ i _ => 128 - (intOf i).toNat)
  case atStart => exact ⟨0, by omega, rfl, G, BN⟩
  case round =>
    obtain ⟨m, hm, rfl, J, B⟩ := hrel
    clear G BN
    have m0 : (0 : Int) ≤ (m : Int) := by omega
    by_cases hlt : m < 128
    · have m1 : (m : Int) < 128 := by omega
      obtain ⟨z, z0, z64, CL, ES⟩ := HV.out m hlt
      have HCL := hideIt CL
      have HES := hideIt ES
      clear CL ES
      obtain ⟨_, _, _, hbl, hfr, hcl⟩ := J.out.at
      have e0 : wr.cell? ⟨bN, m, none⟩ = some (.int .i64 z) := by
        have := hcl m (by rw [Nat.mul_one]; exact hlt)
        exact this.trans HCL.out
      have f0 : wr.frozen? ⟨bN, m, none⟩ = false := hfr m
      have tq : Int.tdiv z 2 = z / 2 := Int.tdiv_eq_ediv_of_nonneg z0
      have hwb : w.heap.size ≤ bN := (J.out.1.lt bN rfl).1
      have R2 : Hid (Row (wr.setCell ⟨bN, m, none⟩ (.int .i64 (z / 2))) 3 1 w.heap.size (wr.setCell ⟨bN, m, none⟩ (.int .i64 (z / 2))).heap.size (.slice (some ⟨bN, 0, none⟩) 128 cN) 128 (ints (dcT hs (m + 1)))) := by
        have q := J.out.stored m (.int .i64 (z / 2))
        rw [ints_set, HES.out] at q
        exact q.wide (Nat.le_refl _) (by simp [World.setCell])
      have B2 : Hid (Below w.heap.size w (wr.setCell ⟨bN, m, none⟩ (.int .i64 (z / 2)))) := B.out.setCell hwb _
      clear J B hcl hfr HCL HES
      go_wp2
      go_roundw
      case rel => exact ⟨m + 1, by omega, by go_num, R2, B2⟩
      case measure => simp [intOf]; omega
    · obtain rfl : m = 128 := by omega
      rw [EA.out] at J
      have RJ : Hid (Row wr 3 1 w.heap.size wr.heap.size (.slice (some ⟨bN, 0, none⟩) 128 cN) (decH hs 128).length (ints (decH hs 128))) := by unfold Hid; rw [EL.out]; exact J.out
      clear J EL
      go_wp2
      go_ret2
      exact ⟨_, rfl, RJ.out, B.out⟩
end Go.Proofs.Ytfcjhhiekjbbiaa
