/- One step, done; devices owned: by the model. -/
import Derived.Test.YtenadnlgjobmdakDoorMicD
namespace Go.Proofs.YtenadnlgjobmdakDoor
open Go.RowKit

set_option maxRecDepth 100000 in
set_option maxHeartbeats 8000000 in
theorem l04Do_any (v : Value) (m : Mi) (ws : List Int) (ps : List St) (es : List Int) (qs : List Se) (w : World) (h : RdDev w v ws ps es qs) (hp1 : pmB ws ps = true) (hb1 : blkB es qs = true) (hm : miB m = true) :
    Calls Tryd.prog 24 #[v, m.v] w fun e w' => ∃ v', e = .returned v' ∧ RdDev w' v' (doW m ws ps) (doP m ps) (doE m es qs) (doQ m qs) ∧ Below w.heap.size w w' := by
  obtain ⟨k, a, x⟩ := m
  obtain ⟨aW, cW, aP, cP, aS, cS, aQ, cQ, rfl, r1, r2⟩ := h.form
  have R1 := hideIt r1
  have R2 := hideIt r2
  have HW := hideIt (pmB_len hp1).1
  have hwl : ws.length ≤ 336 := Nat.le_of_eq HW.out
  have hpl : ps.length ≤ 400 := (pmB_len hp1).2
  have HE := hideIt (blkB_len hb1).1
  have hel : es.length ≤ 32 := Nat.le_of_eq HE.out
  have hql : qs.length ≤ 400 := (blkB_len hb1).2
  have PA := hideIt (fun j (hj : j < ps.length) => placeB_true (pmB_store hp1 j hj).1)
  have QA := hideIt (fun j (hj : j < qs.length) => secB_true (blkB_store hb1 j hj).1)
  have hk := (miB_of k a x).1 hm
  clear h r1 r2 hp1 hb1 hm
  have hb0 : Below w.heap.size w (((w.alloc (.cells #[.slice aW ws.length cW, .slice aP ps.length cP, .slice aS es.length cS, .slice aQ qs.length cQ] 41)).alloc (.cells #[.int .i64 k, .int .i64 a, .int .i64 x] 45)).alloc (.cells #[.slice none 0 0, .slice none 0 0, .slice none 0 0, .slice none 0 0] 41)) := by
    repeat (refine Below.alloc ?_ (by simp <;> omega) _)
    exact Below.refl _ _
  unfold Mi.v
  simp only
  rcases (show (k = 1 ∧ (0 ≤ a ∧ a < 336)) ∨ (k = 2 ∧ (0 ≤ a ∧ a < 336)) ∨ k = 3 ∨ (k = 4 ∧ (0 ≤ a ∧ a < 32)) ∨ k = 5 by omega) with ⟨rfl, ha⟩ | ⟨rfl, ha⟩ | rfl | ⟨rfl, ha⟩ | rfl
  · clear hk
    have D := hideIt (show doW (⟨1, a, x⟩ : Mi) ws ps = ws ∧ doP (⟨1, a, x⟩ : Mi) ps = ps ++ [⟨a, x, false⟩] ∧ doE (⟨1, a, x⟩ : Mi) es qs = es ∧ doQ (⟨1, a, x⟩ : Mi) qs = qs from ⟨rfl, rfl, rfl, rfl⟩)
    go_enter Tryd.func24, Tryd.ntmps24
    go_wp2_with fail
    refine (l01Store_any _ ws ps a x _ (R1.out.below hb0) (by omega)).mono ?_
    rintro e w1 ⟨v1, rfl, hr, hb⟩
    have hr' : RdPm w1 v1 _ _ := hr
    obtain ⟨vW1, vP1, rfl, hI, hS⟩ := hr'
    obtain ⟨aW1, cW1, rfl⟩ := RdI.form hI rfl
    obtain ⟨aP1, cP1, rfl⟩ := RdS.form hS (n := ps.length + 1) (by simp)
    have hz1 : w.heap.size + 3 ≤ w1.heap.size := by have := hb.size; simp at this; omega
    have V0 := (hb.block w.heap.size (by simp <;> omega)).trans (at_old (at_old (at_new rfl)))
    have V2 := (hb.block (w.heap.size + 1 + 1) (by simp <;> omega)).trans (at_new (by simp))
    have VM := (hb.block (w.heap.size + 1) (by simp <;> omega)).trans (at_old (at_new (by simp)))
    have RN := hideIt hr
    have RO := hideIt (R2.out.below (below_trans hb0 hb (by simp <;> omega)))
    have B1 := hideIt (below_trans hb0 hb (by simp <;> omega))
    obtain ⟨x0, x1, x2, x3, x4, x5, x6, x7⟩ := four_cells V0
    obtain ⟨y0, y1, y2, y3, y4, y5, y6, y7⟩ := four_cells V2
    obtain ⟨m0, m1, m2⟩ := three_cells VM
    have VH := hideIt (And.intro V0 V2)
    clear hb0 hb hr hI hS V0 V2 VM
    go_wp2
    refine bodyPost_ret (v := .agg #[.slice aW1 ws.length cW1, .slice aP1 (ps.length + 1) cP1, .slice aS es.length cS, .slice aQ qs.length cQ]) (by simp [results, Tryd.results24, go_sem, y0, y1, y2, y3]) rfl ?_
    refine ⟨_, rfl, ?_, ?_⟩
    · rw [D.out.1, D.out.2.1, D.out.2.2.1, D.out.2.2.2]
      exact ⟨_, _, _, _, rfl, (RN.out.put (bD := w.heap.size) (bR := w.heap.size + 1 + 1) (i := 0) (j := 1) VH.out.1 (noints (slice_noint _ _ _) (slice_noint _ _ _) (slice_noint _ _ _) (slice_noint _ _ _)) VH.out.2 (noints (slice_noint _ _ _) (slice_noint _ _ _) (slice_noint _ _ _) (slice_noint _ _ _))), (RO.out.put (bD := w.heap.size) (bR := w.heap.size + 1 + 1) (i := 0) (j := 1) VH.out.1 (noints (slice_noint _ _ _) (slice_noint _ _ _) (slice_noint _ _ _) (slice_noint _ _ _)) VH.out.2 (noints (slice_noint _ _ _) (slice_noint _ _ _) (slice_noint _ _ _) (slice_noint _ _ _)))⟩
    · exact putD_below B1.out (Nat.le_refl _) (by omega) 0 1 _ _ _ _ _ _
  · clear hk
    have D := hideIt (show doW (⟨2, a, x⟩ : Mi) ws ps = ws ∧ doP (⟨2, a, x⟩ : Mi) ps = ps.map (fl1 a) ∧ doE (⟨2, a, x⟩ : Mi) es qs = es ∧ doQ (⟨2, a, x⟩ : Mi) qs = qs from ⟨rfl, rfl, rfl, rfl⟩)
    obtain ⟨q, rfl⟩ : ∃ q : Nat, a = q := ⟨a.toNat, by omega⟩
    go_enter Tryd.func24, Tryd.ntmps24
    go_wp2_with fail
    refine (l01Flush_any _ ws ps q _ (R1.out.below hb0) (by omega) (by omega) (fun j hj => PA.out j hj)).mono ?_
    rintro e w1 ⟨v1, rfl, hr, hb⟩
    have hr' : RdPm w1 v1 _ _ := hr
    obtain ⟨vW1, vP1, rfl, hI, hS⟩ := hr'
    obtain ⟨aW1, cW1, rfl⟩ := RdI.form hI rfl
    obtain ⟨aP1, cP1, rfl⟩ := RdS.form hS (n := ps.length) (by simp)
    have hz1 : w.heap.size + 3 ≤ w1.heap.size := by have := hb.size; simp at this; omega
    have V0 := (hb.block w.heap.size (by simp <;> omega)).trans (at_old (at_old (at_new rfl)))
    have V2 := (hb.block (w.heap.size + 1 + 1) (by simp <;> omega)).trans (at_new (by simp))
    have VM := (hb.block (w.heap.size + 1) (by simp <;> omega)).trans (at_old (at_new (by simp)))
    have RN := hideIt hr
    have RO := hideIt (R2.out.below (below_trans hb0 hb (by simp <;> omega)))
    have B1 := hideIt (below_trans hb0 hb (by simp <;> omega))
    obtain ⟨x0, x1, x2, x3, x4, x5, x6, x7⟩ := four_cells V0
    obtain ⟨y0, y1, y2, y3, y4, y5, y6, y7⟩ := four_cells V2
    obtain ⟨m0, m1, m2⟩ := three_cells VM
    have VH := hideIt (And.intro V0 V2)
    clear hb0 hb hr hI hS V0 V2 VM
    go_wp2
    refine bodyPost_ret (v := .agg #[.slice aW1 ws.length cW1, .slice aP1 ps.length cP1, .slice aS es.length cS, .slice aQ qs.length cQ]) (by simp [results, Tryd.results24, go_sem, y0, y1, y2, y3]) rfl ?_
    refine ⟨_, rfl, ?_, ?_⟩
    · rw [D.out.1, D.out.2.1, D.out.2.2.1, D.out.2.2.2]
      exact ⟨_, _, _, _, rfl, (RN.out.put (bD := w.heap.size) (bR := w.heap.size + 1 + 1) (i := 0) (j := 1) VH.out.1 (noints (slice_noint _ _ _) (slice_noint _ _ _) (slice_noint _ _ _) (slice_noint _ _ _)) VH.out.2 (noints (slice_noint _ _ _) (slice_noint _ _ _) (slice_noint _ _ _) (slice_noint _ _ _))), (RO.out.put (bD := w.heap.size) (bR := w.heap.size + 1 + 1) (i := 0) (j := 1) VH.out.1 (noints (slice_noint _ _ _) (slice_noint _ _ _) (slice_noint _ _ _) (slice_noint _ _ _)) VH.out.2 (noints (slice_noint _ _ _) (slice_noint _ _ _) (slice_noint _ _ _) (slice_noint _ _ _)))⟩
    · exact putD_below B1.out (Nat.le_refl _) (by omega) 0 1 _ _ _ _ _ _
  · clear hk
    have D := hideIt (show doW (⟨3, a, x⟩ : Mi) ws ps = fenW ws ps ∧ doP (⟨3, a, x⟩ : Mi) ps = fenP ps ∧ doE (⟨3, a, x⟩ : Mi) es qs = es ∧ doQ (⟨3, a, x⟩ : Mi) qs = qs from ⟨rfl, rfl, rfl, rfl⟩)
    go_enter Tryd.func24, Tryd.ntmps24
    go_wp2_with fail
    refine (l01Fence_any _ ws ps _ (R1.out.below hb0) (by omega) (by omega) (fun j hj => by have := PA.out j hj; have := HW.out; omega)).mono ?_
    rintro e w1 ⟨v1, rfl, hr, hb⟩
    have hr' : RdPm w1 v1 _ _ := hr.rd
    obtain ⟨vW1, vP1, rfl, hI, hS⟩ := hr'
    obtain ⟨aW1, cW1, rfl⟩ := RdI.form hI (fenW_len ws ps)
    obtain ⟨aP1, cP1, rfl⟩ := RdS.form hS (n := (fenP ps).length) rfl
    have hz1 : w.heap.size + 3 ≤ w1.heap.size := by have := hb.size; simp at this; omega
    have V0 := (hb.block w.heap.size (by simp <;> omega)).trans (at_old (at_old (at_new rfl)))
    have V2 := (hb.block (w.heap.size + 1 + 1) (by simp <;> omega)).trans (at_new (by simp))
    have VM := (hb.block (w.heap.size + 1) (by simp <;> omega)).trans (at_old (at_new (by simp)))
    have RN := hideIt hr
    have RO := hideIt (R2.out.below (below_trans hb0 hb (by simp <;> omega)))
    have B1 := hideIt (below_trans hb0 hb (by simp <;> omega))
    obtain ⟨x0, x1, x2, x3, x4, x5, x6, x7⟩ := four_cells V0
    obtain ⟨y0, y1, y2, y3, y4, y5, y6, y7⟩ := four_cells V2
    obtain ⟨m0, m1, m2⟩ := three_cells VM
    have VH := hideIt (And.intro V0 V2)
    clear hb0 hb hr hI hS V0 V2 VM
    go_wp2
    refine bodyPost_ret (v := .agg #[.slice aW1 ws.length cW1, .slice aP1 ((fenP ps).length) cP1, .slice aS es.length cS, .slice aQ qs.length cQ]) (by simp [results, Tryd.results24, go_sem, y0, y1, y2, y3]) rfl ?_
    refine ⟨_, rfl, ?_, ?_⟩
    · rw [D.out.1, D.out.2.1, D.out.2.2.1, D.out.2.2.2]
      exact ⟨_, _, _, _, rfl, (RN.out.rd.put (bD := w.heap.size) (bR := w.heap.size + 1 + 1) (i := 0) (j := 1) VH.out.1 (noints (slice_noint _ _ _) (slice_noint _ _ _) (slice_noint _ _ _) (slice_noint _ _ _)) VH.out.2 (noints (slice_noint _ _ _) (slice_noint _ _ _) (slice_noint _ _ _) (slice_noint _ _ _))), (RO.out.put (bD := w.heap.size) (bR := w.heap.size + 1 + 1) (i := 0) (j := 1) VH.out.1 (noints (slice_noint _ _ _) (slice_noint _ _ _) (slice_noint _ _ _) (slice_noint _ _ _)) VH.out.2 (noints (slice_noint _ _ _) (slice_noint _ _ _) (slice_noint _ _ _) (slice_noint _ _ _)))⟩
    · exact putD_below B1.out (Nat.le_refl _) (by omega) 0 1 _ _ _ _ _ _
  · clear hk
    have D := hideIt (show doW (⟨4, a, x⟩ : Mi) ws ps = ws ∧ doP (⟨4, a, x⟩ : Mi) ps = ps ∧ doE (⟨4, a, x⟩ : Mi) es qs = es ∧ doQ (⟨4, a, x⟩ : Mi) qs = qs ++ [⟨a, x⟩] from ⟨rfl, rfl, rfl, rfl⟩)
    go_enter Tryd.func24, Tryd.ntmps24
    go_wp2_with fail
    refine (l02Write_any _ es qs a x _ (R2.out.below hb0) (by omega)).mono ?_
    rintro e w1 ⟨v1, rfl, hr, hb⟩
    have hr' : RdBlk w1 v1 _ _ := hr
    obtain ⟨vW1, vP1, rfl, hI, hS⟩ := hr'
    obtain ⟨aW1, cW1, rfl⟩ := RdI.form hI rfl
    obtain ⟨aP1, cP1, rfl⟩ := RdE.form hS (n := qs.length + 1) (by simp)
    have hz1 : w.heap.size + 3 ≤ w1.heap.size := by have := hb.size; simp at this; omega
    have V0 := (hb.block w.heap.size (by simp <;> omega)).trans (at_old (at_old (at_new rfl)))
    have V2 := (hb.block (w.heap.size + 1 + 1) (by simp <;> omega)).trans (at_new (by simp))
    have VM := (hb.block (w.heap.size + 1) (by simp <;> omega)).trans (at_old (at_new (by simp)))
    have RN := hideIt hr
    have RO := hideIt (R1.out.below (below_trans hb0 hb (by simp <;> omega)))
    have B1 := hideIt (below_trans hb0 hb (by simp <;> omega))
    obtain ⟨x0, x1, x2, x3, x4, x5, x6, x7⟩ := four_cells V0
    obtain ⟨y0, y1, y2, y3, y4, y5, y6, y7⟩ := four_cells V2
    obtain ⟨m0, m1, m2⟩ := three_cells VM
    have VH := hideIt (And.intro V0 V2)
    clear hb0 hb hr hI hS V0 V2 VM
    go_wp2
    refine bodyPost_ret (v := .agg #[.slice aW ws.length cW, .slice aP ps.length cP, .slice aW1 es.length cW1, .slice aP1 (qs.length + 1) cP1]) (by simp [results, Tryd.results24, go_sem, y0, y1, y2, y3]) rfl ?_
    refine ⟨_, rfl, ?_, ?_⟩
    · rw [D.out.1, D.out.2.1, D.out.2.2.1, D.out.2.2.2]
      exact ⟨_, _, _, _, rfl, (RO.out.put (bD := w.heap.size) (bR := w.heap.size + 1 + 1) (i := 2) (j := 3) VH.out.1 (noints (slice_noint _ _ _) (slice_noint _ _ _) (slice_noint _ _ _) (slice_noint _ _ _)) VH.out.2 (noints (slice_noint _ _ _) (slice_noint _ _ _) (slice_noint _ _ _) (slice_noint _ _ _))), (RN.out.put (bD := w.heap.size) (bR := w.heap.size + 1 + 1) (i := 2) (j := 3) VH.out.1 (noints (slice_noint _ _ _) (slice_noint _ _ _) (slice_noint _ _ _) (slice_noint _ _ _)) VH.out.2 (noints (slice_noint _ _ _) (slice_noint _ _ _) (slice_noint _ _ _) (slice_noint _ _ _)))⟩
    · exact putD_below B1.out (Nat.le_refl _) (by omega) 2 3 _ _ _ _ _ _
  · clear hk
    have D := hideIt (show doW (⟨5, a, x⟩ : Mi) ws ps = ws ∧ doP (⟨5, a, x⟩ : Mi) ps = ps ∧ doE (⟨5, a, x⟩ : Mi) es qs = layE es qs ∧ doQ (⟨5, a, x⟩ : Mi) qs = [] from ⟨rfl, rfl, rfl, rfl⟩)
    go_enter Tryd.func24, Tryd.ntmps24
    go_wp2_with fail
    refine (l02Barrier_any _ es qs _ (R2.out.below hb0) (by omega) (by omega) (fun j hj => by have := QA.out j hj; have := HE.out; omega)).mono ?_
    rintro e w1 ⟨v1, rfl, hr, hb⟩
    have hr' : RdBlk w1 v1 _ _ := hr.rd
    obtain ⟨vW1, vP1, rfl, hI, hS⟩ := hr'
    obtain ⟨aW1, cW1, rfl⟩ := RdI.form hI (layE_len es qs)
    obtain ⟨aP1, cP1, rfl⟩ := RdE.form hS (n := 0) rfl
    have hz1 : w.heap.size + 3 ≤ w1.heap.size := by have := hb.size; simp at this; omega
    have V0 := (hb.block w.heap.size (by simp <;> omega)).trans (at_old (at_old (at_new rfl)))
    have V2 := (hb.block (w.heap.size + 1 + 1) (by simp <;> omega)).trans (at_new (by simp))
    have VM := (hb.block (w.heap.size + 1) (by simp <;> omega)).trans (at_old (at_new (by simp)))
    have RN := hideIt hr
    have RO := hideIt (R1.out.below (below_trans hb0 hb (by simp <;> omega)))
    have B1 := hideIt (below_trans hb0 hb (by simp <;> omega))
    obtain ⟨x0, x1, x2, x3, x4, x5, x6, x7⟩ := four_cells V0
    obtain ⟨y0, y1, y2, y3, y4, y5, y6, y7⟩ := four_cells V2
    obtain ⟨m0, m1, m2⟩ := three_cells VM
    have VH := hideIt (And.intro V0 V2)
    clear hb0 hb hr hI hS V0 V2 VM
    go_wp2
    refine bodyPost_ret (v := .agg #[.slice aW ws.length cW, .slice aP ps.length cP, .slice aW1 es.length cW1, .slice aP1 0 cP1]) (by simp [results, Tryd.results24, go_sem, y0, y1, y2, y3]) rfl ?_
    refine ⟨_, rfl, ?_, ?_⟩
    · rw [D.out.1, D.out.2.1, D.out.2.2.1, D.out.2.2.2]
      exact ⟨_, _, _, _, rfl, (RO.out.put (bD := w.heap.size) (bR := w.heap.size + 1 + 1) (i := 2) (j := 3) VH.out.1 (noints (slice_noint _ _ _) (slice_noint _ _ _) (slice_noint _ _ _) (slice_noint _ _ _)) VH.out.2 (noints (slice_noint _ _ _) (slice_noint _ _ _) (slice_noint _ _ _) (slice_noint _ _ _))), (RN.out.rd.put (bD := w.heap.size) (bR := w.heap.size + 1 + 1) (i := 2) (j := 3) VH.out.1 (noints (slice_noint _ _ _) (slice_noint _ _ _) (slice_noint _ _ _) (slice_noint _ _ _)) VH.out.2 (noints (slice_noint _ _ _) (slice_noint _ _ _) (slice_noint _ _ _) (slice_noint _ _ _)))⟩
    · exact putD_below B1.out (Nat.le_refl _) (by omega) 2 3 _ _ _ _ _ _
end Go.Proofs.YtenadnlgjobmdakDoor
