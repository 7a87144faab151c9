/- What waits in a journal that is sure, and the replay's plan: by the program. -/
import Derived.Test.YtbjalmiheipjjaaDoorJiI
import Derived.Test.YtbjalmiheipjjaaDoorJrX
import Derived.Test.YtbjalmiheipjjaaDoorPmOKI
import Derived.Deep.RegionHeld3
namespace Go.Proofs.YtbjalmiheipjjaaDoor
open Go.RowKit
theorem ret_mi {v : Value} {c d : Int} (h : c = d) : Ending.returned (.tuple #[v, .int .i64 c]) = .returned (.tuple #[v, .int .i64 d]) := by rw [h]
theorem ldW_nil (ws : List Int) (k : Nat) : ldW ws [] k = ws[k]?.getD 0 := rfl
set_option maxRecDepth 100000 in
set_option maxHeartbeats 2000000 in
theorem implJournalCount_any (v : Value) (ws : List Int) (w : World) (h : RdPm w v ws []) (hw : ws.length ≤ 1048576) :
    Calls Tryd.prog 15 #[v] w fun e w' => e = .returned (.tuple #[.int .i64 (jcV ws []), .int .i64 (jcC ws [])]) ∧ Below w.heap.size w w' := by
  have HR := hideIt h
  obtain ⟨vW, vP, rfl, h1, h2⟩ := h
  have H1 := hideIt h1
  obtain ⟨aW, cW, rfl, _, hcW⟩ := h1.shape
  obtain ⟨aP, cP, rfl, _⟩ := h2.shape
  have CW := hideIt hcW
  clear h1 h2 hcW
  have hb0 : Below w.heap.size w (w.alloc (.cells #[.slice aW ws.length cW, .slice aP ([] : List St).length cP] 31)) := (Below.refl _ _).alloc (Nat.le_refl _) _
  rcases jc_cases ws [] with ⟨c1, e1, e2⟩ | ⟨c1, c2, e1, e2⟩ | ⟨c1, c2, e1, e2⟩
  · rw [e1, e2]
    have C := hideIt c1
    clear c1 e1 e2
    go_enter Tryd.func15, Tryd.ntmps15
    go_wp2_with fail
    refine (implPmOK_any _ ws [] _ (HR.out.below hb0) hw (by simp)).mono ?_
    rw [C.out]
    rintro e w1 ⟨rfl, hb1⟩
    have B1 := hideIt (below_trans hb0 hb1 (by simp))
    clear hb0 hb1
    go_wp2
    go_ret2
    exact ⟨rfl, B1.out⟩
  all_goals
    rw [e1, e2]
    have C := hideIt c1
    have hl := pm_len c1
    have hl8 : 8 < ws.length := by omega
    obtain ⟨b, o, rfl, hbl, hcell⟩ := CW.out (by omega)
    have d8 := hcell 8 hl8
    rw [ldW_at hl8] at *
    simp only [lastW, List.foldl_nil] at *
    clear c1 e1 e2 hcell hl
    generalize ws[8] = n at *
    go_enter Tryd.func15, Tryd.ntmps15
    go_wp2_with fail
    refine (implPmOK_any _ ws [] _ (HR.out.below hb0) hw (by simp)).mono ?_
    rw [C.out]
    rintro e w1 ⟨rfl, hb1⟩
    have B1 := hideIt (below_trans hb0 hb1 (by simp))
    have d8' := (B1.out.cell (p := ⟨b, o + 8, none⟩) hbl).trans d8
    obtain ⟨x1, x2, -, -⟩ := two_cells ((hb1.block w.heap.size (by simp)).trans (at_new rfl))
    clear hb0 hb1 d8
    go_wp2
    go_ret2
    exact ⟨rfl, B1.out⟩
set_option maxRecDepth 100000 in
set_option maxHeartbeats 4000000 in
theorem implReplayPlan_any (v : Value) (ws : List Int) (w : World) (h : RdPm w v ws []) (hw : ws.length ≤ 1048576) :
    Calls Tryd.prog 12 #[v] w fun e w' => ∃ v', e = .returned (.tuple #[v', .int .i64 (rpC ws [])]) ∧ Row w' 61 3 w.heap.size w'.heap.size v' (rpL ws []).length (mis (rpL ws [])) ∧ Below w.heap.size w w' := by
  have HR := hideIt h
  obtain ⟨vW, vP, rfl, h1, h2⟩ := h
  have H1 := hideIt h1
  obtain ⟨aW, cW, rfl, _, hcW⟩ := h1.shape
  obtain ⟨aP, cP, rfl, _⟩ := h2.shape
  have CW := hideIt hcW
  clear h1 h2 hcW
  have hb0 : Below w.heap.size w (w.alloc (.cells #[.slice aW ws.length cW, .slice aP ([] : List St).length cP] 31)) := (Below.refl _ _).alloc (Nat.le_refl _) _
  by_cases hc : jcC ws [] = 0
  case neg =>
    have E : rpC ws [] = jcC ws [] ∧ rpL ws [] = [] ∧ jcV ws [] = 0 ∧ (jcC ws [] != 0) = true := by
      rcases jc_cases ws [] with ⟨c1, e1, e2⟩ | ⟨c1, c2, e1, e2⟩ | ⟨_, _, e1, _⟩
      · rcases rp_cases ws [] with ⟨_, f1, f2⟩ | ⟨c, _⟩
        · exact ⟨f1.trans e1.symm, f2, e2, by rw [e1]; rfl⟩
        · rw [c1] at c; cases c
      · rcases rp_cases ws [] with ⟨c, _⟩ | ⟨_, N, hN, ⟨_, f1, f2⟩ | ⟨q, _⟩ | ⟨_, q, _⟩ | ⟨_, q, _⟩⟩
        · rw [c1] at c; cases c
        · exact ⟨f1.trans e1.symm, f2, e2, by rw [e1]; rfl⟩
        · omega
        · omega
        · omega
      · exact absurd e1 hc
    rw [E.1, E.2.1]
    have EV := hideIt E.2.2.1
    have ene := E.2.2.2
    clear E hc
    go_enter Tryd.func12, Tryd.ntmps12
    go_wp2_with fail
    refine (implJournalCount_any _ ws _ (HR.out.below hb0) hw).mono ?_
    rintro e w1 ⟨rfl, hb1⟩
    have B1 := hideIt (below_trans hb0 hb1 (by simp))
    clear hb0 hb1
    go_wp2
    go_ret2
    exact ⟨_, rfl, Row.nil _ _ _ _ _, B1.out⟩
  obtain ⟨c1, N, hN, hN16, eV⟩ : pmB ws [] = true ∧ ∃ N : Nat, ldW ws [] 8 = (N : Int) ∧ N ≤ 16 ∧ jcV ws [] = (N : Int) := by
    rcases jc_cases ws [] with ⟨_, e1, _⟩ | ⟨_, _, e1, _⟩ | ⟨c1, c2, e1, e2⟩
    · omega
    · omega
    · have := ldW_pos c1 8
      exact ⟨c1, (ldW ws [] 8).toNat, by omega, by omega, by rw [e2]; omega⟩
  have hl := pm_len c1
  have h64 : 64 < ws.length := by omega
  have C1 := hideIt c1
  have JC := hideIt (And.intro eV hc)
  have RP : Hid ((upsBB (rdL ws [] N) = false ∧ rpC ws [] = 3 ∧ rpL ws [] = []) ∨ (upsBB (rdL ws [] N) = true ∧ rpC ws [] = 0 ∧ rpL ws [] = appL (rdL ws [] N))) := by
    rcases rp_cases ws [] with ⟨c, _⟩ | ⟨_, M, hM, hh⟩
    · rw [c1] at c; cases c
    · have hMN : M = N := by omega
      subst hMN
      rcases hh with ⟨q, _⟩ | ⟨q, f1, f2⟩ | ⟨q, _, q2, f1, f2⟩ | ⟨q, _, q2, f1, f2⟩
      · omega
      · right
        subst q
        exact ⟨rfl, f1, f2.trans rfl⟩
      · exact .inl ⟨(upsBB_eq _).trans q2, f1, f2⟩
      · refine .inr ⟨(upsBB_eq _).trans q2, f1, f2.trans ?_⟩
        unfold appL
        rw [rdL_len, if_neg (by omega)]
  have CELL : Hid (∃ b o, aW = some ⟨b, o, none⟩ ∧ b < w.heap.size ∧ ∀ k, k < 64 → w.cell? ⟨b, o + k, none⟩ = some (.int .i64 (ldW ws [] k))) := by
    obtain ⟨b, o, e, hb, hc⟩ := CW.out (by omega)
    refine ⟨b, o, e, hb, fun k hk => ?_⟩
    rw [hc k (by omega), ldW_at (show k < ws.length by omega)]
    rfl
  obtain ⟨b, o, rfl, hbl, hcell⟩ := CELL.out
  have HC := hideIt hcell
  have hwl : ws.length ≤ 336 := by omega
  have hw63 : 63 < ws.length := by omega
  clear hl hc eV c1 CELL hcell hN CW
  go_enter Tryd.func12, Tryd.ntmps12
  go_wp2_with fail
  refine (implJournalCount_any _ ws _ (HR.out.below hb0) hw).mono ?_
  rw [JC.out.1, JC.out.2]
  rintro e w1 ⟨rfl, hb1⟩
  have B1 := hideIt (below_trans hb0 hb1 (by simp))
  have V1 := hideIt ((hb1.block w.heap.size (by simp)).trans (at_new rfl))
  have hz1 : w.heap.size < w1.heap.size := by have := hb1.size; simp at this; omega
  have START : Hid (ReI w1 w1 (.slice none 0 0) (rdL ws [] 0)) := ⟨World.ownsRow_nil _ _ _ _, Below.refl _ _⟩
  clear hb0 hb1
  go_wp2
  go_loopw [6, 7, 8, 18] (fun vL _ _ i wr => ∃ m : Nat, m ≤ N ∧ i = .int .i64 m ∧ Hid (ReI w1 wr vL (rdL ws [] m))) (fun _ _ _ i _ => N - (intOf i).toNat)
  case atStart => exact ⟨0, by omega, rfl, START⟩
  case round =>
    obtain ⟨m, hm, rfl, J⟩ := hrel
    clear START
    have m0 : (0 : Int) ≤ (m : Int) := by omega
    by_cases hlt : m < N
    · have m1 : (m : Int) < (N : Int) := by omega
      have BW := hideIt (below_trans B1.out J.out.b (by omega))
      have d0 := (BW.out.cell (p := ⟨b, o + (9 + 2 * m), none⟩) hbl).trans (HC.out (9 + 2 * m) (by omega))
      have d1 := (BW.out.cell (p := ⟨b, o + (9 + 2 * m + 1), none⟩) hbl).trans (HC.out (9 + 2 * m + 1) (by omega))
      have t0 : (9 + 2 * (m : Int)).toNat = 9 + 2 * m := by omega
      have t1 : (9 + 2 * (m : Int) + 1).toNat = 9 + 2 * m + 1 := by omega
      rw [← t0] at d0
      rw [← t1] at d1
      have EM := hideIt (rdL_succ ws [] m)
      have l1 := rdL_len ws [] m
      have l2 : (rdL ws [] m).length ≤ 16 := by omega
      have SK : Hid (∀ w', Below w1.heap.size w1 w' → w'.cell? ⟨w.heap.size, 0, none⟩ = some (.slice (some ⟨b, o, none⟩) ws.length cW) ∧ w'.cell? ⟨b, o + (9 + 2 * (m : Int)).toNat, none⟩ = some (.int .i64 (ldW ws [] (9 + 2 * m))) ∧ w'.cell? ⟨b, o + (9 + 2 * (m : Int) + 1).toNat, none⟩ = some (.int .i64 (ldW ws [] (9 + 2 * m + 1)))) := by
        intro w' hb'
        have BX := below_trans B1.out hb' (by omega)
        refine ⟨(two_cells ((hb'.block w.heap.size hz1).trans V1.out)).1, ?_, ?_⟩
        · rw [t0]; exact (BX.cell (p := ⟨b, o + (9 + 2 * m), none⟩) hbl).trans (HC.out (9 + 2 * m) (by omega))
        · rw [t1]; exact (BX.cell (p := ⟨b, o + (9 + 2 * m + 1), none⟩) hbl).trans (HC.out (9 + 2 * m + 1) (by omega))
      generalize ldW ws [] (9 + 2 * m) = x at *
      generalize ldW ws [] (9 + 2 * m + 1) = y at *
      obtain ⟨x1, x2, -, -⟩ := two_cells ((J.out.b.block w.heap.size hz1).trans V1.out)
      have i0 : (0 : Int) ≤ 9 + 2 * (m : Int) := by omega
      have i1 : 9 + 2 * (m : Int) < (ws.length : Int) := by omega
      have i2 : (0 : Int) ≤ 9 + 2 * (m : Int) + 1 := by omega
      have i3 : 9 + 2 * (m : Int) + 1 < (ws.length : Int) := by omega
      have wp1 : IntKind.i64.wrap (9 + 2 * (m : Int) + 1) = 9 + 2 * (m : Int) + 1 := by rw [IntKind.wrap_i64]; omega
      have J4 := hideIt (J.out.below ((Below.refl _ _).alloc (Nat.le_refl _) (.cells #[.int .i64 x, .int .i64 y] 50)))
      have J4d := hideIt ((J.out.below ((Below.refl wr.heap.size wr).drew)).below ((Below.refl _ _).alloc (Nat.le_refl _) (.cells #[.int .i64 x, .int .i64 y] 50)))
      have HRD := hideIt (rd_up wr x y)
      have HRDd := hideIt (rd_up wr.drew x y)
      clear l1 t0 t1
      go_wp2_with (go_at_call 30; refine (journalPlace_any _ _ (by omega)).mono ?_; rintro e w' ⟨rfl, hw'⟩; subst w')
      go_region_held3 (fun w' => w'.cell? ⟨w.heap.size, 0, none⟩ = some (.slice (some ⟨b, o, none⟩) ws.length cW) ∧ w'.cell? ⟨b, o + (9 + 2 * (m : Int)).toNat, none⟩ = some (.int .i64 x) ∧ w'.cell? ⟨b, o + (9 + 2 * (m : Int) + 1).toNat, none⟩ = some (.int .i64 y))
        (first | exact SK.out _ G.out.b | exact SK.out _ J.out.b | exact SK.out _ J.out.b.drew | exact SK.out _ J4.out.b | exact SK.out _ J4d.out.b)
        (first | (refine step_append_rd rfl (.tmp 23) (.tmp 36) 23 rfl w1.heap.size 50 (.agg #[.int .i64 0, .int .i64 0]) 2 16 Tryd.underlying23 infoUp rfl (by decide) _ (rdL ws [] m).length (ses (rdL ws [] m)) rfl (by first | exact J4.out.l | exact J4d.out.l) _ 1 (ses [⟨x, y⟩]) rfl (by first | exact HRD.out | exact HRDd.out) (ses_one_ _) (by simp [maxLen]; omega) (by omega) (by first | exact J4.out.z | exact J4d.out.z) ?_; intro vN wN hownN hgrN; have G := (by first | exact hideIt (J4.out.grow [⟨x, y⟩] hownN hgrN) | exact hideIt (J4d.out.grow [⟨x, y⟩] hownN hgrN) : Hid (ReI w1 wN vN (rdL ws [] m ++ [⟨x, y⟩]))); clear hownN hgrN))
      all_goals
        rw [← EM.out] at G
        clear J J4 J4d HRD HRDd x1 x2 d0 d1 SK
        go_wp2
        go_roundw
        case rel => exact ⟨m + 1, by omega, by go_num, G⟩
        case measure => simp [intOf]; omega
    · obtain rfl : m = N := by omega
      obtain ⟨aL, cL, hvL⟩ := RdE.shapeN (own_block J.out.l).rd rfl
      subst hvL
      have hl2 := rdL_len ws [] m
      have hl3 : (rdL ws [] m).length ≤ 16 := by omega
      have BW := hideIt (below_trans B1.out J.out.b (by omega))
      clear hl2
      rcases RP.out with ⟨q, f1, f2⟩ | ⟨q, f1, f2⟩
      · have QQ := hideIt q
        have FF := hideIt (And.intro f1 f2)
        clear q f1 f2 RP
        go_wp2_with (go_at_call 19; refine (everyUpdate_any _ (rdL ws [] m) _ (own_block J.out.l).rd (by omega)).mono ?_; rw [QQ.out]; rintro e w2 ⟨rfl, hb2⟩)
        go_ret2
        exact ⟨_, ret_mi FF.out.1.symm, by rw [FF.out.2]; exact Row.nil _ _ _ _ _, below_trans BW.out hb2 (by have := BW.out.size; omega)⟩
      · have QQ := hideIt q
        have FF := hideIt (And.intro f1 f2)
        have U0 := hideIt (fun k (hk : k < (rdL ws [] m).length) => show 0 ≤ (rdL ws [] m)[k].at_ ∧ (rdL ws [] m)[k].at_ < 336 by have := of_decide_eq_true (upsBB_true q k hk); omega)
        clear q f1 f2 RP
        go_wp2_with fail
        refine (everyUpdate_any _ (rdL ws [] m) _ (own_block J.out.l).rd (by omega)).mono ?_
        rw [QQ.out]
        rintro e w2 ⟨rfl, hb2⟩
        have R2 := hideIt (Rd.below (own_block J.out.l).rd hb2)
        have hzr := BW.out.size
        have B2 := hideIt (below_trans BW.out hb2 hzr)
        have hz2 := hb2.size
        clear hb2
        go_wp2_with fail
        refine (applyPlan_any _ (rdL ws [] m) _ R2.out hl3 U0.out).mono ?_
        rintro e w3 ⟨v3, rfl, hr3, hb3⟩
        obtain ⟨a3, c3, e3⟩ := RdM.form hr3.rd (n := (appL (rdL ws [] m)).length) rfl
        subst e3
        have R3 := hideIt (hr3.wide (lo' := w.heap.size) (hi' := w3.heap.size) (by omega) (Nat.le_refl _))
        have B3 := hideIt (below_trans B2.out hb3 (by omega))
        clear hr3 hb3
        go_wp2
        go_ret2
        exact ⟨_, ret_mi FF.out.1.symm, by rw [FF.out.2]; exact R3.out, B3.out⟩
end Go.Proofs.YtbjalmiheipjjaaDoor
