/- A journal's plan: by the program. -/
import Derived.Test.YtjkdmhdehihcbaaGreatDoorJiH
import Derived.Test.YtjkdmhdehihcbaaGreatDoorJrJ
namespace Go.Proofs.YtjkdmhdehihcbaaGreatDoor
open Go.RowKit
theorem atsA_stM (l : List St) : atsA (l.map stM) = l.map (·.at_) := by simp [atsA, stM]
theorem segM_stM (l : List St) : segM (l.map stM) = seg l := by unfold segM seg; rw [atsA_stM]
theorem part_of {l : List St} (h1 : l.length ≤ 50) (h2 : ∀ s ∈ l, 0 ≤ s.at_ ∧ s.at_ < 336) : PartOK (l.map stM) :=
  ⟨by simpa using h1, fun k hk => by
    rw [List.getElem_map]
    exact h2 _ (List.getElem_mem _)⟩
theorem sure_two (A B : List Mi) : sureL [A, B] 2 = segM A ++ segM B := by simp [sureL]
def noteL (us : List Se) : List Mi := if us.length = 0 then [] else seg (jrn 0 (upsL us)) ++ seg (cnt (us.length : Int))
def appL (us : List Se) : List Mi := if us.length = 0 then [] else applyL (upsL us)
theorem plan_parts (us : List Se) : planL (upsL us) = noteL us ++ appL us := by
  unfold planL noteL appL
  rw [upsL_len]
  split <;> simp
theorem note_len (us : List Se) : (noteL us).length ≤ 4 * us.length + 4 := by
  unfold noteL seg
  split
  · simp
  · have h1 := flushL_len ((jrn 0 (upsL us)).map (·.at_))
    have h2 := flushL_len ((cnt (us.length : Int)).map (·.at_))
    have h3 := jrn_len (upsL us) 0
    rw [upsL_len] at h3
    simp only [List.length_append, List.length_map] at *
    have h4 : (cnt (us.length : Int)).length = 1 := rfl
    omega
theorem app_len (us : List Se) : (appL us).length ≤ 2 * us.length + 4 := by
  unfold appL
  split
  · simp
  · exact applyL_len us
theorem cnt_map (n : Int) : (cnt n).map stM = [⟨1, 8, n⟩] := rfl
theorem part_cnt (n : Int) : PartOK [⟨1, 8, n⟩] := part_of (l := cnt n) (by simp [cnt]) (fun s hs => by rw [List.mem_singleton.1 hs]; exact ⟨by show (0 : Int) ≤ 8; omega, by show (8 : Int) < 336; omega⟩)
theorem part_jl (us : List Se) (hn : us.length ≤ 16) : PartOK (jlM us us.length) := by
  rw [jlM_all]
  refine part_of (by rw [jrn_len, upsL_len]; omega) (fun s hs => ?_)
  have := jrn_place (upsL us) 0 s hs
  rw [upsL_len] at this
  omega
theorem part_ap (us : List Se) (hn : us.length ≤ 16) (hu : ∀ k (h : k < us.length), 0 ≤ us[k].at_ ∧ us[k].at_ < 336) : PartOK (apM us us.length) := by
  rw [apM_all]
  refine part_of (by rw [upsL_len]; omega) (fun s hs => ?_)
  obtain ⟨q, hq, rfl⟩ := List.mem_map.1 (show s ∈ us.map (fun s => up s.at_ s.val) from hs)
  obtain ⟨i, hi, rfl⟩ := List.getElem_of_mem hq
  exact hu i hi
theorem two_slices {w : World} {x y : Value} {t : TypeId} : (w.alloc (.cells #[x, y] t)).cell? ⟨w.heap.size, 0, none⟩ = some x ∧ (w.alloc (.cells #[x, y] t)).cell? ⟨w.heap.size, 1, none⟩ = some y := by
  obtain ⟨a, b, -, -⟩ := two_cells (at_new (w := w) (o := .cells #[x, y] t) rfl)
  exact ⟨a, b⟩
theorem parts_two {w : World} {x y : Value} {t : TypeId} {A B : List Mi} {nA nB : Nat} {a1 a2 : Option Addr} {c1 c2 : Nat} (hx : x = .slice a1 nA c1) (hy : y = .slice a2 nB c2) (hA : A.length = nA) (hB : B.length = nB) (rA : RdM w x A) (rB : RdM w y B) :
    ∀ k (h : k < [A, B].length), ∃ a c, (w.alloc (.cells #[x, y] t)).cell? ⟨w.heap.size, 0 + k, none⟩ = some (.slice a [A, B][k].length c) ∧ RdM (w.alloc (.cells #[x, y] t)) (.slice a [A, B][k].length c) [A, B][k] := by
  subst hA hB hx hy
  have hb : Below w.heap.size w (w.alloc (.cells #[.slice a1 A.length c1, .slice a2 B.length c2] t)) := (Below.refl _ _).alloc (Nat.le_refl _) _
  intro k hk
  rcases (show k = 0 ∨ k = 1 by simp at hk; omega) with rfl | rfl
  · exact ⟨a1, c1, two_slices.1, Rd.below rA hb⟩
  · exact ⟨a2, c2, two_slices.2, Rd.below rB hb⟩
theorem parts_ok {A B : List Mi} (hA : PartOK A) (hB : PartOK B) : ∀ k (h : k < [A, B].length), PartOK [A, B][k] := by
  intro k hk
  rcases (show k = 0 ∨ k = 1 by simp at hk; omega) with rfl | rfl
  · exact hA
  · exact hB
set_option maxRecDepth 100000 in
set_option maxHeartbeats 4000000 in
theorem notePlan_any (v : Value) (us : List Se) (w : World) (h : RdE w v us) (hn : us.length ≤ 16) :
    Calls Tryz.prog 35 #[v] w fun e w' => ∃ v', e = .returned v' ∧ Row w' 41 3 w.heap.size w'.heap.size v' (noteL us).length (mis (noteL us)) ∧ Below w.heap.size w w' := by
  have HR := hideIt h
  obtain ⟨aU, cU, rfl, _, _⟩ := h.shape
  clear h
  by_cases h0 : us.length = 0
  · have E := hideIt (show noteL us = [] from if_pos h0)
    have h0' : ((us.length : Int) == 0) = true := by rw [h0]; rfl
    rw [E.out]
    clear h0
    go_enter Tryz.func35, Tryz.ntmps35
    go_wp2
    go_ret
    exact ⟨_, rfl, Row.nil _ _ _ _ _, Below.refl _ _⟩
  · have E := hideIt (show noteL us = sureL [jlM us us.length, [⟨1, 8, (us.length : Int)⟩]] 2 by rw [sure_two, jlM_all, ← cnt_map, segM_stM, segM_stM]; exact if_neg h0)
    have h0' : ((us.length : Int) == 0) = false := by rw [beq_eq_false_iff_ne]; omega
    have PK := hideIt (parts_ok (part_jl us hn) (part_cnt (us.length : Int)))
    rw [E.out]
    clear h0 E
    go_enter Tryz.func35, Tryz.ntmps35
    go_wp2_with fail
    refine (storesOf_J _ us _ HR.out (by omega)).mono ?_
    rintro e w1 ⟨v1, rfl, hr1, hb1⟩
    obtain ⟨a1, c1, e1⟩ := RdM.form hr1.rd (n := (jlM us us.length).length) rfl
    generalize hA : jlM us us.length = A at *
    have R1 := hideIt hr1.rd
    have B1 := hideIt hb1
    clear hr1 hb1
    go_wp2_with fail
    refine (countStore_any (us.length : Int) _).mono ?_
    rintro e w2 ⟨v2, rfl, hr2, hb2⟩
    obtain ⟨a2, c2, e2⟩ := RdM.form hr2 (n := 1) rfl
    have R2 := hideIt hr2
    have R1' := hideIt (Rd.below R1.out hb2)
    have B2 := hideIt (below_trans B1.out hb2 B1.out.size)
    clear hr2 hb2 R1
    generalize hB : ([⟨1, 8, (us.length : Int)⟩] : List Mi) = B at *
    have hBl : B.length = 1 := by rw [← hB]; rfl
    have PT := hideIt (parts_two (t := 30) e1 e2 rfl hBl R1'.out R2.out)
    subst e1 e2
    go_wp2_with fail
    refine (surePlan_any w2.heap.size 0 2 [A, B] _ (by simp) (by simp) PT.out PK.out).mono ?_
    rintro e w3 ⟨v3, rfl, hr3, hb3⟩
    obtain ⟨a3, c3, e3⟩ := RdM.form hr3.rd (n := (sureL [A, B] 2).length) rfl
    subst e3
    have hz2 := B2.out.size
    have hz3 := hb3.size
    have R3 := hideIt hr3
    have B3 := hideIt (below_trans (B2.out.alloc hz2 _) hb3 (by simp; omega))
    clear hr3 hb3
    go_wp2
    go_ret
    subst hA hB
    refine ⟨_, rfl, ?_, B3.out⟩
    refine R3.out.wide ?_ (Nat.le_refl _)
    simp
    omega
set_option maxRecDepth 100000 in
set_option maxHeartbeats 4000000 in
theorem applyPlan_any (v : Value) (us : List Se) (w : World) (h : RdE w v us) (hn : us.length ≤ 16) (hu : ∀ k (h : k < us.length), 0 ≤ us[k].at_ ∧ us[k].at_ < 336) :
    Calls Tryz.prog 36 #[v] w fun e w' => ∃ v', e = .returned v' ∧ Row w' 41 3 w.heap.size w'.heap.size v' (appL us).length (mis (appL us)) ∧ Below w.heap.size w w' := by
  have HR := hideIt h
  obtain ⟨aU, cU, rfl, _, _⟩ := h.shape
  clear h
  by_cases h0 : us.length = 0
  · have E := hideIt (show appL us = [] from if_pos h0)
    have h0' : ((us.length : Int) == 0) = true := by rw [h0]; rfl
    rw [E.out]
    clear h0 hu
    go_enter Tryz.func36, Tryz.ntmps36
    go_wp2
    go_ret
    exact ⟨_, rfl, Row.nil _ _ _ _ _, Below.refl _ _⟩
  · have E := hideIt (show appL us = sureL [apM us us.length, [⟨1, 8, 0⟩]] 2 by rw [sure_two, apM_all, ← cnt_map, segM_stM, segM_stM]; exact if_neg h0)
    have h0' : ((us.length : Int) == 0) = false := by rw [beq_eq_false_iff_ne]; omega
    have PK := hideIt (parts_ok (part_ap us hn hu) (part_cnt 0))
    rw [E.out]
    clear h0 E hu
    go_enter Tryz.func36, Tryz.ntmps36
    go_wp2_with fail
    refine (storesOf_P _ us _ HR.out (by omega)).mono ?_
    rintro e w1 ⟨v1, rfl, hr1, hb1⟩
    obtain ⟨a1, c1, e1⟩ := RdM.form hr1.rd (n := (apM us us.length).length) rfl
    generalize hA : apM us us.length = A at *
    have R1 := hideIt hr1.rd
    have B1 := hideIt hb1
    clear hr1 hb1
    go_wp2_with fail
    refine (countStore_any 0 _).mono ?_
    rintro e w2 ⟨v2, rfl, hr2, hb2⟩
    obtain ⟨a2, c2, e2⟩ := RdM.form hr2 (n := 1) rfl
    have R2 := hideIt hr2
    have R1' := hideIt (Rd.below R1.out hb2)
    have B2 := hideIt (below_trans B1.out hb2 B1.out.size)
    clear hr2 hb2 R1
    generalize hB : ([⟨1, 8, 0⟩] : List Mi) = B at *
    have hBl : B.length = 1 := by rw [← hB]; rfl
    have PT := hideIt (parts_two (t := 30) e1 e2 rfl hBl R1'.out R2.out)
    subst e1 e2
    go_wp2_with fail
    refine (surePlan_any w2.heap.size 0 2 [A, B] _ (by simp) (by simp) PT.out PK.out).mono ?_
    rintro e w3 ⟨v3, rfl, hr3, hb3⟩
    obtain ⟨a3, c3, e3⟩ := RdM.form hr3.rd (n := (sureL [A, B] 2).length) rfl
    subst e3
    have hz2 := B2.out.size
    have hz3 := hb3.size
    have R3 := hideIt hr3
    have B3 := hideIt (below_trans (B2.out.alloc hz2 _) hb3 (by simp; omega))
    clear hr3 hb3
    go_wp2
    go_ret
    subst hA hB
    refine ⟨_, rfl, ?_, B3.out⟩
    refine R3.out.wide ?_ (Nat.le_refl _)
    simp
    omega
set_option maxRecDepth 100000 in
set_option maxHeartbeats 4000000 in
theorem implJournalPlan_any (v : Value) (us : List Se) (w : World) (h : RdE w v us) (hn : us.length ≤ 1048576) :
    Calls Tryz.prog 9 #[v] w fun e w' => ∃ v', e = .returned (.tuple #[v', .int .i64 (jpC us)]) ∧ Row w' 41 3 w.heap.size w'.heap.size v' (jpL us).length (mis (jpL us)) ∧ Below w.heap.size w w' := by
  have HR := hideIt h
  obtain ⟨aU, cU, rfl, _, _⟩ := h.shape
  clear h
  rcases jp_cases us with ⟨c1, e1, e2⟩ | ⟨c1, c2, e1, e2⟩ | ⟨c1, c2, c3, e1, e2⟩ | ⟨c1, c2, c3, e1, e2⟩
  · rw [e1, e2]
    clear e1 e2
    go_enter Tryz.func9, Tryz.ntmps9
    go_wp2
    go_ret2
    exact ⟨_, rfl, Row.nil _ _ _ _ _, Below.refl _ _⟩
  · rw [e1, e2]
    clear e1 e2
    go_enter Tryz.func9, Tryz.ntmps9
    go_wp2
    go_ret2
    exact ⟨_, rfl, Row.nil _ _ _ _ _, Below.refl _ _⟩
  · rw [e1, e2]
    have C3 := hideIt ((upsBB_eq us).trans c3)
    clear c3 e1 e2
    go_enter Tryz.func9, Tryz.ntmps9
    go_wp2_with (go_at_call 33; refine (everyUpdate_any _ us _ HR.out (by omega)).mono ?_; rw [C3.out]; rintro e w1 ⟨rfl, hb1⟩)
    go_ret2
    exact ⟨_, rfl, Row.nil _ _ _ _ _, hb1⟩
  · rw [e1, e2, plan_parts]
    have C3 := hideIt ((upsBB_eq us).trans c3)
    have U0 := hideIt (fun k (hk : k < us.length) => show 0 ≤ us[k].at_ ∧ us[k].at_ < 336 by have := (of_decide_eq_true c3 : ∀ k (h : k < us.length), (48 ≤ us[k].at_ ∧ us[k].at_ < 336) ∧ 0 ≤ us[k].val ∧ us[k].val < 1099511627776) k hk; omega)
    have hn1 := note_len us
    have hn2 := app_len us
    clear c3 e1 e2
    go_enter Tryz.func9, Tryz.ntmps9
    go_wp2_with fail
    refine (everyUpdate_any _ us _ HR.out (by omega)).mono ?_
    rw [C3.out]
    rintro e w1 ⟨rfl, hb1⟩
    have B1 := hideIt hb1
    have hz1 : w.heap.size ≤ w1.heap.size := hb1.size
    clear hb1
    go_wp2_with fail
    refine (notePlan_any _ us _ (Rd.below HR.out B1.out) (by omega)).mono ?_
    rintro e w2 ⟨v2, rfl, hr2, hb2⟩
    obtain ⟨a2, c2, e2⟩ := RdM.form hr2.rd (n := (noteL us).length) rfl
    have R2 := hideIt hr2
    have B2 := hideIt (below_trans B1.out hb2 hz1)
    have hz2 : w1.heap.size ≤ w2.heap.size := hb2.size
    clear hr2 hb2
    subst e2
    go_wp2_with fail
    refine (applyPlan_any _ us _ (Rd.below HR.out B2.out) (by omega) U0.out).mono ?_
    rintro e w3 ⟨v3, rfl, hr3, hb3⟩
    obtain ⟨a3, c3, e3⟩ := RdM.form hr3.rd (n := (appL us).length) rfl
    have R3 := hideIt hr3.rd
    have R2' := hideIt ((R2.out.below hb3 (Nat.le_refl _)).wide hz1 (Nat.le_refl _)).1
    have B3 := hideIt (below_trans B2.out hb3 (by omega))
    have hz3 : w2.heap.size ≤ w3.heap.size := hb3.size
    clear hr3 hb3 R2
    subst e3
    go_wp2_with (at_builtin; refine wpList_append_rd _ rfl (.tmp 14) (.tmp 16) 30 rfl w.heap.size 41 (.agg #[.int .i64 0, .int .i64 0, .int .i64 0]) 3 24 Tryz.underlying30 infoMic rfl (by decide) _ (noteL us).length (mis (noteL us)) rfl R2'.out _ (appL us).length (mis (appL us)) rfl R3.out (mis_one _) (by simp [maxLen]; omega) (by omega) (by omega) ?_)
    intro v4 w4 hown4 hgr4
    have O4 : Hid (w4.ownsRow w.heap.size 41 3 v4 ((noteL us).length + (appL us).length) (mis (noteL us ++ appL us))) := by rw [mis_append]; exact hown4
    have B4 := hideIt (B3.out.grown hgr4 (by omega) (fun q hq => (R2'.out.lt q hq).1))
    obtain ⟨a4, c4, e4⟩ := RdM.form (ps := noteL us ++ appL us) (by unfold RdM; rw [List.length_append]; exact (own_block O4.out).rd) (n := (noteL us).length + (appL us).length) (by simp)
    subst e4
    clear hown4 hgr4
    go_wp2
    go_ret2
    refine ⟨_, rfl, ?_, B4.out⟩
    rw [List.length_append]
    exact own_block O4.out
end Go.Proofs.YtjkdmhdehihcbaaGreatDoor
