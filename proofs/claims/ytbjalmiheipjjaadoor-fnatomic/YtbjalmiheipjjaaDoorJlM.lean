/- The theorem of the journal, for the program's own steps. -/
import Derived.Test.YtbjalmiheipjjaaDoorJlP
import Derived.Test.YtbjalmiheipjjaaDoorJlA
import Derived.Test.YtbjalmiheipjjaaDoorJlB
namespace Go.Proofs.YtbjalmiheipjjaaDoor
open Go.RowKit
theorem drOK_up {us : List Se} (h : DrOK us) : ∀ p ∈ upsL us, (48 ≤ p.at_ ∧ p.at_ < 336) ∧ 0 ≤ p.val ∧ p.val < 1099511627776 := by
  intro p hp
  obtain ⟨u, hu, rfl⟩ := List.mem_map.1 (show p ∈ us.map (fun s => up s.at_ s.val) from hp)
  exact h u hu
theorem drOK_ok {us : List Se} (h : DrOK us) (hl : us.length ≤ 5) : UpsOK (upsL us) :=
  ⟨by rw [upsL_len]; omega, fun p hp => (drOK_up h p hp).1, fun p hp => (drOK_up h p hp).2⟩
theorem drOK_upsB {us : List Se} (h : DrOK us) : upsB us = true := decide_eq_true (fun _ hk => h _ (List.getElem_mem hk))
theorem ok_apply {us : List Se} (h : DrOK us) : ∀ m ∈ applyL (upsL us), StOK m := by
  intro m hm
  unfold applyL at hm
  rcases List.mem_append.1 hm with hm | hm
  · exact ok_seg (fun p hp => by have := drOK_up h p hp; omega) m hm
  · exact ok_seg (cnt_ok 0 (by omega)) m hm
theorem ok_plan {us : List Se} (h : DrOK us) (hl : us.length ≤ 5) : ∀ m ∈ planL (upsL us), StOK m := by
  intro m hm
  unfold planL at hm
  split at hm
  · cases hm
  · rcases List.mem_append.1 hm with hm | hm
    · rcases List.mem_append.1 hm with hm | hm
      · refine ok_seg (fun p hp => ?_) m hm
        have h1 := jrn_at (upsL us) 0 p hp
        have h2 := jrn_val (upsL us) 0 (drOK_up h) p hp
        rw [upsL_len] at h1
        omega
      · refine ok_seg (cnt_ok _ ?_) m hm
        rw [upsL_len]
        omega
    · exact ok_apply h m hm
theorem jp_ok {us : List Se} (h : DrOK us) (hl : us.length ≤ 5) : jpC us = 0 ∧ jpL us = planL (upsL us) := by
  rcases jp_cases us with ⟨c, _⟩ | ⟨_, c, _⟩ | ⟨_, _, c, _⟩ | ⟨_, _, _, c⟩
  · omega
  · omega
  · rw [drOK_upsB h] at c; cases c
  · exact c
theorem zs336_ok : pmB zs336 [] = true := pmB_iff.2 ⟨zs336_len, Nat.zero_le _, fun x hx => by rw [List.eq_of_mem_replicate hx]; rfl, fun p hp => by cases hp⟩
theorem zs32_ok : blkB zs32 [] = true := blkB_iff.2 ⟨zs32_len, Nat.zero_le _, fun x hx => by rw [List.eq_of_mem_replicate hx]; rfl, fun p hp => by cases hp⟩
theorem ms_run {l : List Mi} {ws : List Int} (hw : pmB ws [] = true) (hl : l.length ≤ 400) (hm : ∀ m ∈ l, StOK m) : ms l ws [] zs32 [] = ⟨0, (runM (ws, []) l).1, (runM (ws, []) l).2, zs32, []⟩ := by
  have h1 : misB' l = true := decide_eq_true (fun k hk => (hm _ (List.getElem_mem hk)).1)
  rw [ms_ok (by omega) (by rw [hw, zs32_ok, h1]; rfl)]
  exact mr_run l ws [] zs32 [] (fun m h => (hm m h).2) (by simpa using hl)
theorem ms_right {l : List Mi} {ws : List Int} (hw : pmB ws [] = true) (hm : ∀ m ∈ l, StOK m) (hl : l.length ≤ 400) : pmB (runM (ws, []) l).1 (runM (ws, []) l).2 = true := by
  have := (mr_ok l ws [] zs32 [] hw zs32_ok (fun m h => (hm m h).1)).1
  rw [mr_run l ws [] zs32 [] (fun m h => (hm m h).2) (by simpa using hl)] at this
  exact this
theorem zs336_at (a : Nat) (_ : a < 336) : zs336[a]?.getD 0 = 0 := by
  unfold zs336
  rw [List.getElem?_replicate]
  split <;> rfl
theorem plan_short {us : List Se} (hl : us.length ≤ 5) : (planL (upsL us)).length ≤ 38 := by have := planL_len us; omega
theorem due_lay {us : List Se} (h : DrOK us) (a : Nat) (ha : a < 336) : (layE zs336 us)[a]?.getD 0 = due (upsL us) a := by
  have e : layE zs336 us = layW zs336 (upsL us) := by
    unfold layE layW upsL
    rw [List.foldl_map]
    rfl
  rw [e, layW_getD zs336 (upsL us) (fun p hp => by have := drOK_up h p hp; omega) a (by rw [zs336_len]; exact ha), zs336_at a ha]
  rfl
theorem drop_eq {X Y : List Int} (hX : X.length = 336) (hY : Y.length = 336) (h : ∀ a, 48 ≤ a → a < 336 → X[a]?.getD 0 = Y[a]?.getD 0) : X.drop 48 = Y.drop 48 := by
  apply List.ext_getElem?
  intro i
  rw [List.getElem?_drop, List.getElem?_drop]
  by_cases hi : 48 + i < 336
  · have := h (48 + i) (by omega) hi
    rw [List.getElem?_eq_getElem (by omega), List.getElem?_eq_getElem (by omega)] at this ⊢
    exact congrArg some this
  · rw [List.getElem?_eq_none (by omega), List.getElem?_eq_none (by omega)]
theorem done_due {us : List Se} (h : DrOK us) {F : List Int} (hF : F.length = 336) (hd : Done (upsL us) F) : F.drop 48 = (layE zs336 us).drop 48 :=
  drop_eq hF (by rw [layE_len]; exact zs336_len) (fun a h1 h2 => by rw [due_lay h a h2]; exact hd.2 a h1 h2)
theorem jc_zero {F : List Int} (h : pmB F [] = true) (h0 : F[8]?.getD 0 = 0) : jcV F [] = 0 ∧ jcC F [] = 0 := by
  rcases jc_cases F [] with ⟨c, _⟩ | ⟨_, c, _⟩ | ⟨_, _, e1, e2⟩
  · rw [h] at c; cases c
  · rw [ldW_nil] at c; omega
  · exact ⟨e2.trans (by rw [ldW_nil]; exact h0), e1⟩
theorem crash_right {ws : List Int} {ps : List St} {zs : List Int} (h : pmB ws ps = true) : pmB (crW ws ps zs) [] = true := by
  obtain ⟨h1, _, h3, h4⟩ := pmB_iff.1 h
  obtain ⟨hl, ha⟩ := left_crW ws ps zs
  simp only at hl ha
  refine pmB_iff.2 ⟨hl.trans h1, Nat.zero_le _, fun x hx => ?_, fun p hp => by cases hp⟩
  obtain ⟨i, hi, rfl⟩ := List.getElem_of_mem hx
  have hi' : i < ws.length := by omega
  rcases ha i hi' with e | ⟨p, hp, _, e⟩
  · rw [List.getElem?_eq_getElem hi, List.getElem?_eq_getElem hi', Option.getD_some, Option.getD_some] at e
    rw [e]; exact h3 _ (List.getElem_mem hi')
  · rw [List.getElem?_eq_getElem hi, Option.getD_some] at e
    rw [e]; exact (h4 p hp).2
theorem rp_zero {X : List Int} (h : pmB X [] = true) (h0 : X[8]?.getD 0 = 0) : rpC X [] = 0 ∧ rpL X [] = [] := by
  rcases rp_cases X [] with ⟨c, _⟩ | ⟨_, N, hN, ⟨q, _⟩ | ⟨_, f1, f2⟩ | ⟨q, _⟩ | ⟨q, _⟩⟩
  · rw [h] at c; cases c
  · rw [ldW_nil] at hN; omega
  · exact ⟨f1, f2⟩
  · rw [ldW_nil] at hN; omega
  · rw [ldW_nil] at hN; omega
theorem rd_wait {us : List Se} {X : List Int} (hw : Wait (upsL us) X) : rdL X [] us.length = us := by
  apply List.ext_getElem?
  intro i
  by_cases hi : i < us.length
  · have := hw.2.1 i (by rw [upsL_len]; exact hi)
    unfold rdL
    rw [List.getElem?_map, List.getElem?_range hi, List.getElem?_eq_getElem hi]
    simp only [Option.map_some, ldW_nil]
    rw [this.1, this.2]
    simp only [upsL, List.getElem_map, up]
  · rw [List.getElem?_eq_none (by rw [rdL_len]; omega), List.getElem?_eq_none (by omega)]
theorem rp_wait {us : List Se} (hu : DrOK us) (hl : us.length ≤ 5) {X : List Int} (h : pmB X [] = true) (h0 : 0 < us.length) (hw : Wait (upsL us) X) : rpC X [] = 0 ∧ rpL X [] = applyL (upsL us) := by
  have h8 := hw.1
  rw [upsL_len] at h8
  rcases rp_cases X [] with ⟨c, _⟩ | ⟨_, N, hN, hh⟩
  · rw [h] at c; cases c
  · rw [ldW_nil, h8] at hN
    obtain rfl : us.length = N := by omega
    rw [rd_wait hw, drOK_upsB hu] at hh
    rcases hh with ⟨q, _⟩ | ⟨q, _⟩ | ⟨_, _, q, _⟩ | ⟨_, _, _, f1, f2⟩
    · omega
    · omega
    · cases q
    · exact ⟨f1, f2⟩
theorem plan_crash {us : List Se} (h : DrOK us) (hl : us.length ≤ 5) (m : Nat) (zs : List Int) :
    ∃ W P, ms ((planL (upsL us)).take m) zs336 [] zs32 [] = ⟨0, W, P, zs32, []⟩ ∧ pmB W P = true ∧ pmB (crW W P zs) [] = true ∧
      ((rpC (crW W P zs) [] = 0 ∧ rpL (crW W P zs) [] = [] ∧ (Zero (crW W P zs) ∨ Done (upsL us) (crW W P zs))) ∨
       (rpC (crW W P zs) [] = 0 ∧ rpL (crW W P zs) [] = applyL (upsL us) ∧ Wait (upsL us) (crW W P zs))) := by
  have hs := plan_short hl
  have ho : ∀ q ∈ (planL (upsL us)).take m, StOK q := fun q hq => ok_plan h hl q (List.mem_of_mem_take hq)
  have hn : ((planL (upsL us)).take m).length ≤ 400 := by rw [List.length_take]; omega
  have hr := ms_right zs336_ok ho hn
  obtain ⟨hlen, hcase⟩ := plan_left (drOK_ok h hl) zs336_len zs336_at m (left_crW (runM (zs336, []) ((planL (upsL us)).take m)).1 (runM (zs336, []) ((planL (upsL us)).take m)).2 zs)
  have hx := crash_right hr (zs := zs)
  refine ⟨_, _, ms_run zs336_ok hn ho, hr, hx, ?_⟩
  generalize crW _ _ zs = X at *
  rcases hcase with hz | hd | ⟨h0, hw⟩
  · obtain ⟨r1, r2⟩ := rp_zero hx hz.1
    exact .inl ⟨r1, r2, .inl hz⟩
  · obtain ⟨r1, r2⟩ := rp_zero hx hd.1
    exact .inl ⟨r1, r2, .inr hd⟩
  · obtain ⟨r1, r2⟩ := rp_wait h hl hx (by rw [upsL_len] at h0; exact h0) hw
    exact .inr ⟨r1, r2, hw⟩
theorem apply_done {us : List Se} (h : DrOK us) (hl : us.length ≤ 5) {X : List Int} (hx : pmB X [] = true) (hw : Wait (upsL us) X) : ∃ F, ms (applyL (upsL us)) X [] zs32 [] = ⟨0, F, [], zs32, []⟩ ∧ pmB F [] = true ∧ Done (upsL us) F := by
  have hs := applyL_len us
  obtain ⟨F, e, _, hd⟩ := apply_run (drOK_ok h hl) (pmB_iff.1 hx).1 hw
  refine ⟨F, ?_, ?_, hd⟩
  · rw [ms_run hx (by omega) (ok_apply h), e]
  · have := ms_right hx (ok_apply h) (by omega)
    rw [e] at this
    exact this
theorem none_done {X : List Int} (hx : pmB X [] = true) : ms [] X [] zs32 [] = ⟨0, X, [], zs32, []⟩ := ms_run hx (by simp) (fun m hm => by cases hm)
end Go.Proofs.YtbjalmiheipjjaaDoor
