/- The replay's plan: by the model. -/
import Derived.Test.YtbjalmiheipjjaaDoorJrE
namespace Go.Proofs.YtbjalmiheipjjaaDoor
open Go.RowKit
theorem lastW_pos (a : Int) : ∀ (ps : List St) (d : Int), 0 ≤ d → (∀ p ∈ ps, 0 ≤ p.val) → 0 ≤ lastW a d ps
  | [], d, h, _ => h
  | p :: ps, d, h, hp => by
    show 0 ≤ lastW a (if p.at_ = a then p.val else d) ps
    refine lastW_pos a ps _ ?_ (fun q hq => hp q (List.mem_cons_of_mem _ hq))
    split
    · exact hp p List.mem_cons_self
    · exact h
theorem ldW_pos {ws : List Int} {ps : List St} (h : pmB ws ps = true) (k : Nat) : 0 ≤ ldW ws ps k := by
  refine lastW_pos _ _ _ ?_ (fun p hp => ?_)
  · by_cases hk : k < ws.length
    · simpa [hk] using (wordB_true (pmB_word h k hk)).1
    · simp [hk]
  · obtain ⟨i, hi, rfl⟩ := List.getElem_of_mem hp
    exact (wordB_true (pmB_store h i hi).2).1
def rpU (ws : List Int) (ps : List St) : List Se := rdL ws ps (ldW ws ps 8).toNat
def rpC (ws : List Int) (ps : List St) : Int := if pmB ws ps = false then 1 else if 16 < ldW ws ps 8 then 3 else if ldW ws ps 8 = 0 then 0 else if upsB (rpU ws ps) = true then 0 else 3
def rpL (ws : List Int) (ps : List St) : List Mi := if rpC ws ps = 0 then (if ldW ws ps 8 = 0 then [] else applyL (upsL (rpU ws ps))) else []
theorem rp_cases (ws : List Int) (ps : List St) : (pmB ws ps = false ∧ rpC ws ps = 1 ∧ rpL ws ps = []) ∨ (pmB ws ps = true ∧ ∃ N : Nat, ldW ws ps 8 = (N : Int) ∧
    ((16 < N ∧ rpC ws ps = 3 ∧ rpL ws ps = []) ∨ (N = 0 ∧ rpC ws ps = 0 ∧ rpL ws ps = []) ∨ (0 < N ∧ N ≤ 16 ∧ upsB (rdL ws ps N) = false ∧ rpC ws ps = 3 ∧ rpL ws ps = []) ∨ (0 < N ∧ N ≤ 16 ∧ upsB (rdL ws ps N) = true ∧ rpC ws ps = 0 ∧ rpL ws ps = applyL (upsL (rdL ws ps N))))) := by
  by_cases c1 : pmB ws ps = true
  · have hp := ldW_pos c1 8
    refine .inr ⟨c1, (ldW ws ps 8).toNat, by omega, ?_⟩
    by_cases c2 : 16 < ldW ws ps 8
    · have e : rpC ws ps = 3 := by unfold rpC; rw [if_neg (by rw [c1]; simp), if_pos c2]
      exact .inl ⟨by omega, e, by unfold rpL; rw [e]; rfl⟩
    · by_cases c3 : ldW ws ps 8 = 0
      · have e : rpC ws ps = 0 := by unfold rpC; rw [if_neg (by rw [c1]; simp), if_neg c2, if_pos c3]
        exact .inr (.inl ⟨by omega, e, by unfold rpL; rw [e, if_pos rfl, if_pos c3]⟩)
      · by_cases c4 : upsB (rpU ws ps) = true
        · have e : rpC ws ps = 0 := by unfold rpC; rw [if_neg (by rw [c1]; simp), if_neg c2, if_neg c3, if_pos c4]
          exact .inr (.inr (.inr ⟨by omega, by omega, c4, e, by unfold rpL; rw [e, if_pos rfl, if_neg c3]; rfl⟩))
        · have c4' : upsB (rpU ws ps) = false := by simpa using c4
          have e : rpC ws ps = 3 := by unfold rpC; rw [if_neg (by rw [c1]; simp), if_neg c2, if_neg c3, c4']; rfl
          exact .inr (.inr (.inl ⟨by omega, by omega, c4', e, by unfold rpL; rw [e]; rfl⟩))
  · have c : pmB ws ps = false := by simpa using c1
    have e : rpC ws ps = 1 := by unfold rpC; rw [if_pos c]
    exact .inl ⟨c, e, by unfold rpL; rw [e]; rfl⟩
set_option maxRecDepth 100000 in
set_option maxHeartbeats 2000000 in
theorem specReplayPlan_any (v : Value) (ws : List Int) (ps : List St) (w : World) (h : RdPm w v ws ps) (hw : ws.length ≤ 1048576) (hp : ps.length ≤ 1048576) :
    Calls Tryd.prog 13 #[v] w fun e w' => ∃ v', e = .returned (.tuple #[v', .int .i64 (rpC ws ps)]) ∧ Row w' 61 3 w.heap.size w'.heap.size v' (rpL ws ps).length (mis (rpL ws ps)) ∧ Below w.heap.size w w' := by
  have HR := hideIt h
  obtain ⟨vW, vP, rfl, h1, h2⟩ := h
  obtain ⟨aW, cW, rfl, _⟩ := h1.shape
  obtain ⟨aP, cP, rfl, _⟩ := h2.shape
  clear h1 h2
  have hb0 : Below w.heap.size w (w.alloc (.cells #[.slice aW ws.length cW, .slice aP ps.length cP] 31)) := (Below.refl _ _).alloc (Nat.le_refl _) _
  have RE : Hid (∀ w1 : World, Below w.heap.size w w1 → Row (w1.alloc (.cells #[] 61)) 61 3 w.heap.size (w1.alloc (.cells #[] 61)).heap.size (.slice (some ⟨w1.heap.size, 0, none⟩) 0 0) 0 [] ∧ Below w.heap.size w (w1.alloc (.cells #[] 61))) :=
    fun w1 hb => ⟨(row_empty w1 61 3).wide hb.size (Nat.le_refl _), hb.alloc hb.size _⟩
  rcases rp_cases ws ps with ⟨c1, e1, e2⟩ | ⟨c1, N, hN, hc⟩
  · rw [e1, e2]
    have C := hideIt c1
    clear c1 e1 e2
    go_enter Tryd.func13, Tryd.ntmps13
    go_wp2_with fail
    refine (specPmOK_any _ ws ps _ (HR.out.below hb0) hw hp).mono ?_
    rw [C.out]
    rintro e w1 ⟨rfl, hb1⟩
    have R1 := hideIt (RE.out w1 (below_trans hb0 hb1 (by simp)))
    go_wp2
    go_ret2
    exact ⟨_, rfl, R1.out.1, R1.out.2⟩
  · have C := hideIt c1
    have hl := pm_len c1
    have LC := hideIt (fun (v : Value) (w : World) (h : RdPm w v ws ps) => l04Count_any v ws ps w h hw hp (by omega))
    rw [hN] at LC
    have LR := hideIt (fun (h16 : N ≤ 16) (v : Value) (w : World) (h : RdPm w v ws ps) => l04Read_any v ws ps N w h hw hp (by omega) hN h16)
    have LU := hideIt (rdL_len ws ps N)
    generalize rdL ws ps N = us at *
    clear c1 hl hN
    rcases hc with ⟨n1, e1, e2⟩ | ⟨rfl, e1, e2⟩ | ⟨n1, n2, c3, e1, e2⟩ | ⟨n1, n2, c3, e1, e2⟩
    · rw [e1, e2]
      clear e1 e2 LR
      go_enter Tryd.func13, Tryd.ntmps13
      go_wp2_with fail
      refine (specPmOK_any _ ws ps _ (HR.out.below hb0) hw hp).mono ?_
      rw [C.out]
      rintro e w1 ⟨rfl, hb1⟩
      obtain ⟨x1, x2, _, _⟩ := two_cells ((hb1.block w.heap.size (by simp)).trans (at_new rfl))
      have B1 := hideIt (below_trans hb0 hb1 (by simp))
      clear hb1 hb0
      go_wp2_with fail
      refine (LC.out _ _ (HR.out.below B1.out)).mono ?_
      rintro e w2 ⟨rfl, hb2⟩
      have R1 := hideIt (RE.out w2 (below_trans B1.out hb2 B1.out.size))
      clear hb2
      go_wp2
      go_ret2
      exact ⟨_, rfl, R1.out.1, R1.out.2⟩
    · rw [e1, e2]
      clear e1 e2 LR
      go_enter Tryd.func13, Tryd.ntmps13
      go_wp2_with fail
      refine (specPmOK_any _ ws ps _ (HR.out.below hb0) hw hp).mono ?_
      rw [C.out]
      rintro e w1 ⟨rfl, hb1⟩
      obtain ⟨x1, x2, _, _⟩ := two_cells ((hb1.block w.heap.size (by simp)).trans (at_new rfl))
      have B1 := hideIt (below_trans hb0 hb1 (by simp))
      clear hb1 hb0
      go_wp2_with fail
      refine (LC.out _ _ (HR.out.below B1.out)).mono ?_
      rintro e w2 ⟨rfl, hb2⟩
      have R1 := hideIt (RE.out w2 (below_trans B1.out hb2 B1.out.size))
      clear hb2
      go_wp2
      go_ret2
      exact ⟨_, rfl, R1.out.1, R1.out.2⟩
    all_goals
      rw [e1, e2]
      have C3 := hideIt c3
      have g0 : ((N : Int) == 0) = false := by rw [beq_eq_false_iff_ne]; omega
      clear e1 e2 c3
      go_enter Tryd.func13, Tryd.ntmps13
      go_wp2_with fail
      refine (specPmOK_any _ ws ps _ (HR.out.below hb0) hw hp).mono ?_
      rw [C.out]
      rintro e w1 ⟨rfl, hb1⟩
      obtain ⟨x1, x2, _, _⟩ := two_cells ((hb1.block w.heap.size (by simp)).trans (at_new rfl))
      have V1 := hideIt ((hb1.block w.heap.size (by simp)).trans (at_new rfl))
      have hz1 := hb1.size
      simp only [World.size_alloc] at hz1
      have B1 := hideIt (below_trans hb0 hb1 (by simp))
      clear hb1 hb0
      go_wp2_with fail
      refine (LC.out _ _ (HR.out.below B1.out)).mono ?_
      rintro e w2 ⟨rfl, hb2⟩
      have hz2 := hb2.size
      have B2 := hideIt (below_trans B1.out hb2 B1.out.size)
      obtain ⟨y1, y2, _, _⟩ := two_cells ((hb2.block w.heap.size (by omega)).trans V1.out)
      clear hb2 B1 x1 x2
      go_wp2_with fail
      refine (LR.out n2 _ _ (HR.out.below B2.out)).mono ?_
      rintro e w3 ⟨v3, rfl, hr3, hb3⟩
      have R3 := hideIt (show RdE w3 v3 us from hr3.rd)
      have B3 := hideIt (below_trans B2.out hb3 B2.out.size)
      obtain ⟨aU, cU, rfl⟩ := RdE.shapeN hr3.rd LU.out
      clear hr3 hb3 B2 y1 y2
      go_wp2_with fail
      refine (l04Updates_any _ us _ R3.out (by have := LU.out; omega)).mono ?_
      rw [C3.out]
      rintro e w4 ⟨rfl, hw4⟩
      subst w4
      first
        | (have R4 := hideIt (RE.out w3 B3.out); go_wp2; go_ret2; exact ⟨_, rfl, R4.out.1, R4.out.2⟩)
        | (go_wp2_with fail; refine (l04Apply_any _ us _ R3.out (by have := LU.out; omega) (fun k h => by have := (of_decide_eq_true C3.out : ∀ k (h : k < us.length), (48 ≤ us[k].at_ ∧ us[k].at_ < 336) ∧ 0 ≤ us[k].val ∧ us[k].val < 1099511627776) k h; omega)).mono ?_; rintro e w5 ⟨v5, rfl, hr5, hb5⟩; have R5 := hideIt (hr5.wide B3.out.size (Nat.le_refl _)); have B5 := hideIt (below_trans B3.out hb5 B3.out.size); obtain ⟨aL, cL, rfl⟩ := RdM.form hr5.rd rfl; clear hr5 hb5; go_wp2; go_ret2; exact ⟨_, rfl, R5.out, B5.out⟩)
end Go.Proofs.YtbjalmiheipjjaaDoor
