/- Several texts laid together: MicF, FsQ, DtD, DtH, OpM. -/
import Derived.Test.YtipklbnfobckaaaGreatDoorZAL
import Derived.Test.YtipklbnfobckaaaGreatDoorZAQ
import Derived.Test.YtipklbnfobckaaaGreatDoorZAM
import Derived.Deep.DeepCutAuto
import Derived.Deep.RegionHeld3
import Derived.Deep.RegionLaw
import Derived.Test.YtipklbnfobckaaaGreatDoorZBG
import Derived.Test.YtipklbnfobckaaaGreatDoorZBE
import Derived.Test.YtipklbnfobckaaaGreatDoorZAF
import Derived.KernelRfl
namespace Go.Proofs.YtipklbnfobckaaaGreatDoor
open Go.RowKit

set_option maxRecDepth 100000 in
set_option maxHeartbeats 8000000 in
theorem l04Do_far (v xW xP xS xQ : Value) (m : Mi) (ws : List Int) (ps : List St) (es : List Int) (qs : List Se) (w : World) (h : RdDev w v ws ps es qs) (hv : v = .agg #[xW, xP, xS, xQ]) (hp1 : pmB ws ps = true) (hb1 : blkB es qs = true) (hm : miB m = true) :
    Calls Tryz.prog 139 #[v, m.v] w fun e w' => ∃ yW yP yS yQ, e = .returned (.agg #[yW, yP, yS, yQ]) ∧ RdDev w' (.agg #[yW, yP, yS, yQ]) (doW m ws ps) (doP m ps) (doE m es qs) (doQ m qs) ∧ (yQ = xQ ∨ ∀ k, yQ.ownBlock = some k → w.heap.size ≤ k) ∧ Below w.heap.size w w' := by
  obtain ⟨k, a, x⟩ := m
  obtain ⟨aW, cW, aP, cP, aS, cS, aQ, cQ, rfl, r1, r2⟩ := h.form
  have HQ : Hid (.slice aQ qs.length cQ = xQ) := by
    injection hv with hv
    injection hv with hv
    simp only [List.cons.injEq] at hv
    exact hv.2.2.2.1
  clear hv
  have R1 := hideIt r1
  have R2 := hideIt r2
  have HW := hideIt (pmB_len hp1).1
  have hwl : ws.length ≤ 336 := Nat.le_of_eq HW.out
  have hpl : ps.length ≤ 400 := (pmB_len hp1).2
  have HE := hideIt (blkB_len hb1).1
  have hel : es.length ≤ 32 := Nat.le_of_eq HE.out
  have hql : qs.length ≤ 400 := (blkB_len hb1).2
  have PA := hideIt (fun j (hj : j < ps.length) => placeB_true (pmB_store hp1 j hj).1)
  have QA := hideIt (fun j (hj : j < qs.length) => secB_true (blkB_store hb1 j hj).1)
  have hk := (miB_of k a x).1 hm
  clear h r1 r2 hp1 hb1 hm
  have hb0 : Below w.heap.size w (((w.alloc (.cells #[.slice aW ws.length cW, .slice aP ps.length cP, .slice aS es.length cS, .slice aQ qs.length cQ] 46)).alloc (.cells #[.int .i64 k, .int .i64 a, .int .i64 x] 79)).alloc (.cells #[.slice none 0 0, .slice none 0 0, .slice none 0 0, .slice none 0 0] 46)) := by
    repeat (refine Below.alloc ?_ (by simp <;> omega) _)
    exact Below.refl _ _
  unfold Mi.v
  simp only
  rcases (show (k = 1 ∧ (0 ≤ a ∧ a < 336)) ∨ (k = 2 ∧ (0 ≤ a ∧ a < 336)) ∨ k = 3 ∨ (k = 4 ∧ (0 ≤ a ∧ a < 32)) ∨ k = 5 by omega) with ⟨rfl, ha⟩ | ⟨rfl, ha⟩ | rfl | ⟨rfl, ha⟩ | rfl
  · clear hk
    have D := hideIt (show doW (⟨1, a, x⟩ : Mi) ws ps = ws ∧ doP (⟨1, a, x⟩ : Mi) ps = ps ++ [⟨a, x, false⟩] ∧ doE (⟨1, a, x⟩ : Mi) es qs = es ∧ doQ (⟨1, a, x⟩ : Mi) qs = qs from ⟨rfl, rfl, rfl, rfl⟩)
    go_enter Tryz.func139, Tryz.ntmps139
    go_wp2_with fail
    refine (l01Store_any _ ws ps a x _ (R1.out.below hb0) (by omega)).mono ?_
    rintro e w1 ⟨v1, rfl, hr, hb⟩
    have hr' : RdPm w1 v1 _ _ := hr
    obtain ⟨vW1, vP1, rfl, hI, hS⟩ := hr'
    obtain ⟨aW1, cW1, rfl⟩ := RdI.form hI rfl
    obtain ⟨aP1, cP1, rfl⟩ := RdS.form hS (n := ps.length + 1) (by simp)
    have hz1 : w.heap.size + 3 ≤ w1.heap.size := by have := hb.size; simp at this; omega
    have V0 := (hb.block w.heap.size (by simp <;> omega)).trans (at_old (at_old (at_new rfl)))
    have V2 := (hb.block (w.heap.size + 1 + 1) (by simp <;> omega)).trans (at_new (by simp))
    have VM := (hb.block (w.heap.size + 1) (by simp <;> omega)).trans (at_old (at_new (by simp)))
    have RN := hideIt hr
    have RO := hideIt (R2.out.below (below_trans hb0 hb (by simp <;> omega)))
    have B1 := hideIt (below_trans hb0 hb (by simp <;> omega))
    obtain ⟨x0, x1, x2, x3, x4, x5, x6, x7⟩ := four_cells V0
    obtain ⟨y0, y1, y2, y3, y4, y5, y6, y7⟩ := four_cells V2
    obtain ⟨m0, m1, m2⟩ := three_cells VM
    have VH := hideIt (And.intro V0 V2)
    clear hb0 hb hr hI hS V0 V2 VM
    go_wp2
    refine bodyPost_ret (v := .agg #[.slice aW1 ws.length cW1, .slice aP1 (ps.length + 1) cP1, .slice aS es.length cS, .slice aQ qs.length cQ]) (by simp [results, Tryz.results139, go_sem, y0, y1, y2, y3]) rfl ?_
    refine ⟨_, _, _, _, rfl, ?_, .inl HQ.out, ?_⟩
    · rw [D.out.1, D.out.2.1, D.out.2.2.1, D.out.2.2.2]
      exact ⟨_, _, _, _, rfl, (RN.out.put (bD := w.heap.size) (bR := w.heap.size + 1 + 1) (i := 0) (j := 1) VH.out.1 (noints (slice_noint _ _ _) (slice_noint _ _ _) (slice_noint _ _ _) (slice_noint _ _ _)) VH.out.2 (noints (slice_noint _ _ _) (slice_noint _ _ _) (slice_noint _ _ _) (slice_noint _ _ _))), (RO.out.put (bD := w.heap.size) (bR := w.heap.size + 1 + 1) (i := 0) (j := 1) VH.out.1 (noints (slice_noint _ _ _) (slice_noint _ _ _) (slice_noint _ _ _) (slice_noint _ _ _)) VH.out.2 (noints (slice_noint _ _ _) (slice_noint _ _ _) (slice_noint _ _ _) (slice_noint _ _ _)))⟩
    · exact putD_below B1.out (Nat.le_refl _) (by omega) 0 1 _ _ _ _ _ _
  · clear hk
    have D := hideIt (show doW (⟨2, a, x⟩ : Mi) ws ps = ws ∧ doP (⟨2, a, x⟩ : Mi) ps = ps.map (fl1 a) ∧ doE (⟨2, a, x⟩ : Mi) es qs = es ∧ doQ (⟨2, a, x⟩ : Mi) qs = qs from ⟨rfl, rfl, rfl, rfl⟩)
    obtain ⟨q, rfl⟩ : ∃ q : Nat, a = q := ⟨a.toNat, by omega⟩
    go_enter Tryz.func139, Tryz.ntmps139
    go_wp2_with fail
    refine (l01Flush_any _ ws ps q _ (R1.out.below hb0) (by omega) (by omega) (fun j hj => PA.out j hj)).mono ?_
    rintro e w1 ⟨v1, rfl, hr, hb⟩
    have hr' : RdPm w1 v1 _ _ := hr
    obtain ⟨vW1, vP1, rfl, hI, hS⟩ := hr'
    obtain ⟨aW1, cW1, rfl⟩ := RdI.form hI rfl
    obtain ⟨aP1, cP1, rfl⟩ := RdS.form hS (n := ps.length) (by simp)
    have hz1 : w.heap.size + 3 ≤ w1.heap.size := by have := hb.size; simp at this; omega
    have V0 := (hb.block w.heap.size (by simp <;> omega)).trans (at_old (at_old (at_new rfl)))
    have V2 := (hb.block (w.heap.size + 1 + 1) (by simp <;> omega)).trans (at_new (by simp))
    have VM := (hb.block (w.heap.size + 1) (by simp <;> omega)).trans (at_old (at_new (by simp)))
    have RN := hideIt hr
    have RO := hideIt (R2.out.below (below_trans hb0 hb (by simp <;> omega)))
    have B1 := hideIt (below_trans hb0 hb (by simp <;> omega))
    obtain ⟨x0, x1, x2, x3, x4, x5, x6, x7⟩ := four_cells V0
    obtain ⟨y0, y1, y2, y3, y4, y5, y6, y7⟩ := four_cells V2
    obtain ⟨m0, m1, m2⟩ := three_cells VM
    have VH := hideIt (And.intro V0 V2)
    clear hb0 hb hr hI hS V0 V2 VM
    go_wp2
    refine bodyPost_ret (v := .agg #[.slice aW1 ws.length cW1, .slice aP1 ps.length cP1, .slice aS es.length cS, .slice aQ qs.length cQ]) (by simp [results, Tryz.results139, go_sem, y0, y1, y2, y3]) rfl ?_
    refine ⟨_, _, _, _, rfl, ?_, .inl HQ.out, ?_⟩
    · rw [D.out.1, D.out.2.1, D.out.2.2.1, D.out.2.2.2]
      exact ⟨_, _, _, _, rfl, (RN.out.put (bD := w.heap.size) (bR := w.heap.size + 1 + 1) (i := 0) (j := 1) VH.out.1 (noints (slice_noint _ _ _) (slice_noint _ _ _) (slice_noint _ _ _) (slice_noint _ _ _)) VH.out.2 (noints (slice_noint _ _ _) (slice_noint _ _ _) (slice_noint _ _ _) (slice_noint _ _ _))), (RO.out.put (bD := w.heap.size) (bR := w.heap.size + 1 + 1) (i := 0) (j := 1) VH.out.1 (noints (slice_noint _ _ _) (slice_noint _ _ _) (slice_noint _ _ _) (slice_noint _ _ _)) VH.out.2 (noints (slice_noint _ _ _) (slice_noint _ _ _) (slice_noint _ _ _) (slice_noint _ _ _)))⟩
    · exact putD_below B1.out (Nat.le_refl _) (by omega) 0 1 _ _ _ _ _ _
  · clear hk
    have D := hideIt (show doW (⟨3, a, x⟩ : Mi) ws ps = fenW ws ps ∧ doP (⟨3, a, x⟩ : Mi) ps = fenP ps ∧ doE (⟨3, a, x⟩ : Mi) es qs = es ∧ doQ (⟨3, a, x⟩ : Mi) qs = qs from ⟨rfl, rfl, rfl, rfl⟩)
    go_enter Tryz.func139, Tryz.ntmps139
    go_wp2_with fail
    refine (l01Fence_any _ ws ps _ (R1.out.below hb0) (by omega) (by omega) (fun j hj => by have := PA.out j hj; have := HW.out; omega)).mono ?_
    rintro e w1 ⟨v1, rfl, hr, hb⟩
    have hr' : RdPm w1 v1 _ _ := hr.rd
    obtain ⟨vW1, vP1, rfl, hI, hS⟩ := hr'
    obtain ⟨aW1, cW1, rfl⟩ := RdI.form hI (fenW_len ws ps)
    obtain ⟨aP1, cP1, rfl⟩ := RdS.form hS (n := (fenP ps).length) rfl
    have hz1 : w.heap.size + 3 ≤ w1.heap.size := by have := hb.size; simp at this; omega
    have V0 := (hb.block w.heap.size (by simp <;> omega)).trans (at_old (at_old (at_new rfl)))
    have V2 := (hb.block (w.heap.size + 1 + 1) (by simp <;> omega)).trans (at_new (by simp))
    have VM := (hb.block (w.heap.size + 1) (by simp <;> omega)).trans (at_old (at_new (by simp)))
    have RN := hideIt hr
    have RO := hideIt (R2.out.below (below_trans hb0 hb (by simp <;> omega)))
    have B1 := hideIt (below_trans hb0 hb (by simp <;> omega))
    obtain ⟨x0, x1, x2, x3, x4, x5, x6, x7⟩ := four_cells V0
    obtain ⟨y0, y1, y2, y3, y4, y5, y6, y7⟩ := four_cells V2
    obtain ⟨m0, m1, m2⟩ := three_cells VM
    have VH := hideIt (And.intro V0 V2)
    clear hb0 hb hr hI hS V0 V2 VM
    go_wp2
    refine bodyPost_ret (v := .agg #[.slice aW1 ws.length cW1, .slice aP1 ((fenP ps).length) cP1, .slice aS es.length cS, .slice aQ qs.length cQ]) (by simp [results, Tryz.results139, go_sem, y0, y1, y2, y3]) rfl ?_
    refine ⟨_, _, _, _, rfl, ?_, .inl HQ.out, ?_⟩
    · rw [D.out.1, D.out.2.1, D.out.2.2.1, D.out.2.2.2]
      exact ⟨_, _, _, _, rfl, (RN.out.rd.put (bD := w.heap.size) (bR := w.heap.size + 1 + 1) (i := 0) (j := 1) VH.out.1 (noints (slice_noint _ _ _) (slice_noint _ _ _) (slice_noint _ _ _) (slice_noint _ _ _)) VH.out.2 (noints (slice_noint _ _ _) (slice_noint _ _ _) (slice_noint _ _ _) (slice_noint _ _ _))), (RO.out.put (bD := w.heap.size) (bR := w.heap.size + 1 + 1) (i := 0) (j := 1) VH.out.1 (noints (slice_noint _ _ _) (slice_noint _ _ _) (slice_noint _ _ _) (slice_noint _ _ _)) VH.out.2 (noints (slice_noint _ _ _) (slice_noint _ _ _) (slice_noint _ _ _) (slice_noint _ _ _)))⟩
    · exact putD_below B1.out (Nat.le_refl _) (by omega) 0 1 _ _ _ _ _ _
  · clear hk
    have D := hideIt (show doW (⟨4, a, x⟩ : Mi) ws ps = ws ∧ doP (⟨4, a, x⟩ : Mi) ps = ps ∧ doE (⟨4, a, x⟩ : Mi) es qs = es ∧ doQ (⟨4, a, x⟩ : Mi) qs = qs ++ [⟨a, x⟩] from ⟨rfl, rfl, rfl, rfl⟩)
    go_enter Tryz.func139, Tryz.ntmps139
    go_wp2_with fail
    refine (l02Write_own _ _ es qs a x _ (R2.out.below hb0) (by omega)).mono ?_
    rintro e w1 ⟨vP1, rfl, hr, hfar, hb⟩
    have FQ : Hid (∀ k, vP1.ownBlock = some k → w.heap.size ≤ k) := fun k hk => Nat.le_trans hb0.size (hfar k hk)
    clear hfar
    have hr' : RdBlk w1 _ _ _ := hr
    obtain ⟨vW1, vP2, e2, hI, hS⟩ := hr'
    injection e2 with e2
    injection e2 with e2
    simp only [List.cons.injEq] at e2
    obtain ⟨rfl, rfl, -⟩ := e2
    obtain ⟨aP1, cP1, rfl⟩ := RdE.form hS (n := qs.length + 1) (by simp)
    have hz1 : w.heap.size + 3 ≤ w1.heap.size := by have := hb.size; simp at this; omega
    have V0 := (hb.block w.heap.size (by simp <;> omega)).trans (at_old (at_old (at_new rfl)))
    have V2 := (hb.block (w.heap.size + 1 + 1) (by simp <;> omega)).trans (at_new (by simp))
    have VM := (hb.block (w.heap.size + 1) (by simp <;> omega)).trans (at_old (at_new (by simp)))
    have RN := hideIt hr
    have RO := hideIt (R1.out.below (below_trans hb0 hb (by simp <;> omega)))
    have B1 := hideIt (below_trans hb0 hb (by simp <;> omega))
    obtain ⟨x0, x1, x2, x3, x4, x5, x6, x7⟩ := four_cells V0
    obtain ⟨y0, y1, y2, y3, y4, y5, y6, y7⟩ := four_cells V2
    obtain ⟨m0, m1, m2⟩ := three_cells VM
    have VH := hideIt (And.intro V0 V2)
    clear hb0 hb hr hI hS V0 V2 VM
    go_wp2
    refine bodyPost_ret (v := .agg #[.slice aW ws.length cW, .slice aP ps.length cP, .slice aS es.length cS, .slice aP1 (qs.length + 1) cP1]) (by simp [results, Tryz.results139, go_sem, y0, y1, y2, y3]) rfl ?_
    refine ⟨_, _, _, _, rfl, ?_, .inr FQ.out, ?_⟩
    · rw [D.out.1, D.out.2.1, D.out.2.2.1, D.out.2.2.2]
      exact ⟨_, _, _, _, rfl, (RO.out.put (bD := w.heap.size) (bR := w.heap.size + 1 + 1) (i := 2) (j := 3) VH.out.1 (noints (slice_noint _ _ _) (slice_noint _ _ _) (slice_noint _ _ _) (slice_noint _ _ _)) VH.out.2 (noints (slice_noint _ _ _) (slice_noint _ _ _) (slice_noint _ _ _) (slice_noint _ _ _))), (RN.out.put (bD := w.heap.size) (bR := w.heap.size + 1 + 1) (i := 2) (j := 3) VH.out.1 (noints (slice_noint _ _ _) (slice_noint _ _ _) (slice_noint _ _ _) (slice_noint _ _ _)) VH.out.2 (noints (slice_noint _ _ _) (slice_noint _ _ _) (slice_noint _ _ _) (slice_noint _ _ _)))⟩
    · exact putD_below B1.out (Nat.le_refl _) (by omega) 2 3 _ _ _ _ _ _
  · clear hk
    have D := hideIt (show doW (⟨5, a, x⟩ : Mi) ws ps = ws ∧ doP (⟨5, a, x⟩ : Mi) ps = ps ∧ doE (⟨5, a, x⟩ : Mi) es qs = layE es qs ∧ doQ (⟨5, a, x⟩ : Mi) qs = [] from ⟨rfl, rfl, rfl, rfl⟩)
    go_enter Tryz.func139, Tryz.ntmps139
    go_wp2_with fail
    refine (l02Barrier_any _ es qs _ (R2.out.below hb0) (by omega) (by omega) (fun j hj => by have := QA.out j hj; have := HE.out; omega)).mono ?_
    rintro e w1 ⟨v1, rfl, hr, hb⟩
    have hr' : RdBlk w1 v1 _ _ := hr.rd
    obtain ⟨vW1, vP1, rfl, hI, hS⟩ := hr'
    have FQ : Hid (∀ k, vP1.ownBlock = some k → w.heap.size ≤ k) := fun k hk => by
      obtain ⟨_, _, e3, -, rP⟩ := hr
      injection e3 with e3
      injection e3 with e3
      simp only [List.cons.injEq] at e3
      obtain ⟨-, rfl, -⟩ := e3
      exact Nat.le_trans hb0.size (rP.1.lt k hk).1
    obtain ⟨aW1, cW1, rfl⟩ := RdI.form hI (layE_len es qs)
    obtain ⟨aP1, cP1, rfl⟩ := RdE.form hS (n := 0) rfl
    have hz1 : w.heap.size + 3 ≤ w1.heap.size := by have := hb.size; simp at this; omega
    have V0 := (hb.block w.heap.size (by simp <;> omega)).trans (at_old (at_old (at_new rfl)))
    have V2 := (hb.block (w.heap.size + 1 + 1) (by simp <;> omega)).trans (at_new (by simp))
    have VM := (hb.block (w.heap.size + 1) (by simp <;> omega)).trans (at_old (at_new (by simp)))
    have RN := hideIt hr
    have RO := hideIt (R1.out.below (below_trans hb0 hb (by simp <;> omega)))
    have B1 := hideIt (below_trans hb0 hb (by simp <;> omega))
    obtain ⟨x0, x1, x2, x3, x4, x5, x6, x7⟩ := four_cells V0
    obtain ⟨y0, y1, y2, y3, y4, y5, y6, y7⟩ := four_cells V2
    obtain ⟨m0, m1, m2⟩ := three_cells VM
    have VH := hideIt (And.intro V0 V2)
    clear hb0 hb hr hI hS V0 V2 VM
    go_wp2
    refine bodyPost_ret (v := .agg #[.slice aW ws.length cW, .slice aP ps.length cP, .slice aW1 es.length cW1, .slice aP1 0 cP1]) (by simp [results, Tryz.results139, go_sem, y0, y1, y2, y3]) rfl ?_
    refine ⟨_, _, _, _, rfl, ?_, .inr FQ.out, ?_⟩
    · rw [D.out.1, D.out.2.1, D.out.2.2.1, D.out.2.2.2]
      exact ⟨_, _, _, _, rfl, (RO.out.put (bD := w.heap.size) (bR := w.heap.size + 1 + 1) (i := 2) (j := 3) VH.out.1 (noints (slice_noint _ _ _) (slice_noint _ _ _) (slice_noint _ _ _) (slice_noint _ _ _)) VH.out.2 (noints (slice_noint _ _ _) (slice_noint _ _ _) (slice_noint _ _ _) (slice_noint _ _ _))), (RN.out.rd.put (bD := w.heap.size) (bR := w.heap.size + 1 + 1) (i := 2) (j := 3) VH.out.1 (noints (slice_noint _ _ _) (slice_noint _ _ _) (slice_noint _ _ _) (slice_noint _ _ _)) VH.out.2 (noints (slice_noint _ _ _) (slice_noint _ _ _) (slice_noint _ _ _) (slice_noint _ _ _)))⟩
    · exact putD_below B1.out (Nat.le_refl _) (by omega) 2 3 _ _ _ _ _ _
end Go.Proofs.YtipklbnfobckaaaGreatDoor

namespace Go.Proofs.YtipklbnfobckaaaGreatDoor
open Go.RowKit

/-- In the midst of the steps: so many are done; the argument's box, the answer's box. -/
structure MidF (l : List Mi) (ws : List Int) (ps : List St) (es : List Int) (qs : List Se) (w wr : World) (k : Nat) (W : List Int) (P : List St) (E : List Int) (Q : List Se) (a b' c d xQ : Value) : Prop where
  run : mr (l.take k) ws ps es qs = ⟨0, W, P, E, Q⟩
  box : wr.heap[w.heap.size]? = some (.cells #[a, b', c, d] 46 (0, 0))
  res : wr.heap[w.heap.size + 1]? = some (.cells #[.slice none 0 0, .slice none 0 0, .slice none 0 0, .slice none 0 0] 46 (0, 0))
  rd : RdDev wr (.agg #[a, b', c, d]) W P E Q
  below : Below w.heap.size w wr
  size : w.heap.size + 1 < wr.heap.size
  far : d = xQ ∨ ∀ k, d.ownBlock = some k → w.heap.size ≤ k
set_option maxRecDepth 100000 in
set_option maxHeartbeats 16000000 in
theorem l04All_far (v vL xW xP xS xQ : Value) (l : List Mi) (ws : List Int) (ps : List St) (es : List Int) (qs : List Se) (W' : List Int) (P' : List St) (E' : List Int) (Q' : List Se) (w : World) (h : RdDev w v ws ps es qs) (hv : v = .agg #[xW, xP, xS, xQ]) (hL : RdM w vL l) (hp : pmB ws ps = true) (hb : blkB es qs = true) (hm : ∀ m ∈ l, miB m = true) (hl : l.length ≤ 1000) (r : mr l ws ps es qs = ⟨0, W', P', E', Q'⟩) :
    Calls Tryz.prog 141 #[v, vL] w fun e w' => ∃ yW yP yS yQ, e = .returned (.agg #[yW, yP, yS, yQ]) ∧ RdDev w' (.agg #[yW, yP, yS, yQ]) W' P' E' Q' ∧ (yQ = xQ ∨ ∀ k, yQ.ownBlock = some k → w.heap.size ≤ k) ∧ Below w.heap.size w w' := by
  have HD := hideIt h
  have CP := hideIt (And.intro hp hb)
  have CM := hideIt hm
  have C0 := hideIt (show (mr l ws ps es qs).c = 0 by rw [r])
  have RR := hideIt r
  obtain ⟨aL, cL, rfl, -, hcL⟩ := hL.shape
  have HL := hideIt hcL
  obtain ⟨aW, cW, aP, cP, aS, cS, aQ, cQ, rfl, -, -⟩ := h.form
  have HQ : Hid (.slice aQ qs.length cQ = xQ) := by
    injection hv with hv
    injection hv with hv
    simp only [List.cons.injEq] at hv
    exact hv.2.2.2.1
  clear hv
  clear h hL hcL hp hb hm r
  obtain ⟨V, hV⟩ : ∃ V, V = (w.alloc (.cells #[.slice aW ws.length cW, .slice aP ps.length cP, .slice aS es.length cS, .slice aQ qs.length cQ] 46)).alloc (.cells #[.slice none 0 0, .slice none 0 0, .slice none 0 0, .slice none 0 0] 46) := ⟨_, rfl⟩
  have hb0 : Below w.heap.size w V := by
    rw [hV]
    repeat (refine Below.alloc ?_ (by simp <;> omega) _)
    exact Below.refl _ _
  have I0 : Hid (MidF l ws ps es qs w V 0 ws ps es qs (.slice aW ws.length cW) (.slice aP ps.length cP) (.slice aS es.length cS) (.slice aQ qs.length cQ) xQ) :=
    ⟨rfl, by rw [hV]; exact at_old (at_new rfl), by rw [hV]; exact at_new (by simp), HD.out.below hb0, hb0, by rw [hV]; simp, .inl HQ.out⟩
  clear hb0
  go_enter Tryz.func141, Tryz.ntmps141
  go_upto_region 1 with fail
  rw [← hV]
  clear hV
  go_wp2_with fail
  go_loopw [5] (fun i wq => ∃ k : Nat, k ≤ l.length ∧ i = .int .i64 k ∧ ∃ (W : List Int) (P : List St) (E : List Int) (Q : List Se) (d1 d2 d3 d4 : Option Addr) (f1 f2 f3 f4 : Nat), Hid (MidF l ws ps es qs w wq k W P E Q (.slice d1 W.length f1) (.slice d2 P.length f2) (.slice d3 E.length f3) (.slice d4 Q.length f4) xQ)) (fun i _ => l.length - (intOf i).toNat)
  case atStart => exact ⟨0, by omega, rfl, ws, ps, es, qs, _, _, _, _, _, _, _, _, I0⟩
  case round =>
    obtain ⟨k, hk, rfl, W, P, E, Q, d1, d2, d3, d4, f1, f2, f3, f4, I⟩ := hrel
    clear I0
    have hsz := I.out.size
    by_cases hlt : k < l.length
    · obtain ⟨bL, oL, rfl, hblL, hcellL⟩ := HL.out (by omega)
      obtain ⟨g0, g1, g2⟩ := hcellL k hlt
      have e0 := (I.out.below.cell (p := ⟨bL, oL + k * 3, none⟩) hblL).trans g0
      have e1 := (I.out.below.cell (p := ⟨bL, oL + k * 3 + 1, none⟩) hblL).trans g1
      have e2 := (I.out.below.cell (p := ⟨bL, oL + k * 3 + 2, none⟩) hblL).trans g2
      have k0 : (0 : Int) ≤ (k : Int) := by omega
      have k1 : (k : Int) < (l.length : Int) := by omega
      clear g0 g1 g2 hcellL
      have XO := hideIt (show pmB W P = true ∧ blkB E Q = true by
        have := mr_ok (l.take k) ws ps es qs CP.out.1 CP.out.2 (fun m hm => CM.out m (List.mem_of_mem_take hm))
        rw [I.out.run] at this
        exact this)
      have NX := hideIt (mr_next hlt I.out.run (run_stop C0.out hlt I.out.run))
      have LD : Hid (∀ p1 p2 p3 p4 w1, RdDev w1 (.agg #[p1, p2, p3, p4]) W P E Q → Calls Tryz.prog 139 #[.agg #[p1, p2, p3, p4], .agg #[.int .i64 l[k].kind, .int .i64 l[k].at_, .int .i64 l[k].val]] w1 fun e w' => ∃ yW yP yS yQ, e = .returned (.agg #[yW, yP, yS, yQ]) ∧ RdDev w' (.agg #[yW, yP, yS, yQ]) (doW l[k] W P) (doP l[k] P) (doE l[k] E Q) (doQ l[k] Q) ∧ (yQ = p4 ∨ ∀ k, yQ.ownBlock = some k → w1.heap.size ≤ k) ∧ Below w1.heap.size w1 w') := fun p1 p2 p3 p4 w1 h2 => l04Do_far _ p1 p2 p3 p4 l[k] W P E Q w1 h2 rfl XO.out.1 XO.out.2 (CM.out _ (List.getElem_mem hlt))
      obtain ⟨x0, x1, x2, x3, y0, y1, y2, y3⟩ := four_cells I.out.box
      generalize doW l[k] W P = W2 at *
      generalize doP l[k] P = P2 at *
      generalize doE l[k] E Q = E2 at *
      generalize doQ l[k] Q = Q2 at *
      generalize l[k] = m at *
      go_wp2_with fail
      go_region_law (go_simp; go_at_call 139; refine (LD.out _ _ _ _ _ (I.out.rd.below (by repeat (first | with_reducible exact Below.refl _ _ | with_reducible refine Below.drew ?_)))).mono ?_; rintro e wf ⟨yW, yP, yS, yQ, rfl, hrf, hfar, hbf⟩; have BF : Hid (Below wr.heap.size wr wf) := belY (by repeat (first | with_reducible exact Below.refl _ _ | with_reducible refine Below.drew ?_)) hbf; have RF := hideIt hrf; obtain ⟨i0, j0, i1, j1, i2, j2, i3, j3, ei, -, -⟩ := hrf.form; injection ei with ei; injection ei with ei; simp only [List.cons.injEq] at ei; obtain ⟨rfl, rfl, rfl, rfl, -⟩ := ei; have FF : Hid (Value.slice i3 Q2.length j3 = xQ ∨ ∀ k, (Value.slice i3 Q2.length j3).ownBlock = some k → w.heap.size ≤ k) := (match hfar with | .inl e => e ▸ I.out.far | .inr f => .inr (fun k hk => Nat.le_trans I.out.below.size (f k hk))); have DB := hideIt ((BF.out.block w.heap.size (by omega)).trans I.out.box); obtain ⟨z0, z1, z2, z3, z4, z5, z6, z7⟩ := four_cells DB.out; clear hrf hbf hfar)
      all_goals
        have DR := hideIt ((BF.out.block (w.heap.size + 1) (by omega)).trans I.out.res)
        have G : Hid (MidF l ws ps es qs w (putR wf w.heap.size (.slice i0 W2.length j0) (.slice i1 P2.length j1) (.slice i2 E2.length j2) (.slice i3 Q2.length j3)) (k + 1) W2 P2 E2 Q2 (.slice i0 W2.length j0) (.slice i1 P2.length j1) (.slice i2 E2.length j2) (.slice i3 Q2.length j3) xQ) := by
          have O := putR_out wf w.heap.size (.slice i0 W2.length j0) (.slice i1 P2.length j1) (.slice i2 E2.length j2) (.slice i3 Q2.length j3)
          have Z := putR_size wf w.heap.size (.slice i0 W2.length j0) (.slice i1 P2.length j1) (.slice i2 E2.length j2) (.slice i3 Q2.length j3)
          have zf := BF.out.size
          exact ⟨NX.out, putQ_box DB.out, (O.block _ (by omega) (by omega)).trans DR.out, RF.out.put DB.out (slice_noint _ _ _) (slice_noint _ _ _) (slice_noint _ _ _) (slice_noint _ _ _) _ _ _ _, (below_trans I.out.below BF.out (by omega)).trans (O.below (Nat.le_refl _) (by omega)), Nat.lt_of_lt_of_eq (show w.heap.size + 1 < wf.heap.size by omega) Z.symm, FF.out⟩
        go_wp2
        go_roundw
        case rel => exact ⟨k + 1, by omega, by go_num, _, _, _, _, i0, i1, i2, i3, j0, j1, j2, j3, G⟩
        case measure => simp [intOf]; omega
    · have RUN := mr_end (by omega) I.out.run
      rw [RR.out] at RUN
      obtain ⟨-, rfl, rfl, rfl, rfl⟩ := MR.mk.inj RUN
      obtain ⟨x0, x1, x2, x3, -, -, -, -⟩ := four_cells I.out.box
      obtain ⟨y0, y1, y2, y3, y4, y5, y6, y7⟩ := four_cells I.out.res
      have O := hideIt (putR_out wr (w.heap.size + 1) (.slice d1 W'.length f1) (.slice d2 P'.length f2) (.slice d3 E'.length f3) (.slice d4 Q'.length f4))
      have RD := hideIt (I.out.rd.put I.out.res (slice_noint _ _ _) (slice_noint _ _ _) (slice_noint _ _ _) (slice_noint _ _ _) (.slice d1 W'.length f1) (.slice d2 P'.length f2) (.slice d3 E'.length f3) (.slice d4 Q'.length f4))
      have BD := hideIt (I.out.below.trans (O.out.below (B := w.heap.size) (by omega) (by omega)))
      clear O
      go_wp2
      refine bodyPost_ret (v := .agg #[.slice d1 W'.length f1, .slice d2 P'.length f2, .slice d3 E'.length f3, .slice d4 Q'.length f4]) (by simp [results, Tryz.results141, go_sem, y0, y1, y2, y3]) rfl ?_
      exact ⟨_, _, _, _, rfl, RD.out, I.out.far, BD.out⟩
end Go.Proofs.YtipklbnfobckaaaGreatDoor

namespace Go.Proofs.YtipklbnfobckaaaGreatDoor
open Go.RowKit

theorem dv_yes {ws : List Int} {ps : List St} {es : List Int} {qs : List Se} (h : dvB ws ps es qs = true) : pmB ws ps = true ∧ blkB es qs = true ∧ dvN ws ps es qs = inosOf (layW ws ps) 16 ∧ dvD ws ps es qs = densOf (layW ws ps) 24 ∧ imgB (inosOf (layW ws ps) 16) (densOf (layW ws ps) 24) = true := by
  have q := h
  unfold dvB at q
  rw [Bool.and_eq_true, Bool.and_eq_true] at q
  obtain ⟨⟨a, b⟩, r⟩ := q
  unfold riB at r
  rw [Bool.and_eq_true, Bool.and_eq_true] at r
  exact ⟨a, b, by unfold dvN; rw [if_pos h], by unfold dvD; rw [if_pos h], r.2.2⟩

end Go.Proofs.YtipklbnfobckaaaGreatDoor

namespace Go.Proofs.YtipklbnfobckaaaGreatDoor
open Go.RowKit

/-- Steps under way. -/
structure MiI (W w : World) (vL : Value) (ls : List Mi) : Prop where
  l : w.ownsRow W.heap.size 79 3 vL ls.length (mis ls)
  b : Below W.heap.size W w
theorem MiI.z {W w : World} {vL : Value} {ls : List Mi} (h : MiI W w vL ls) : W.heap.size ≤ w.heap.size := h.b.size
theorem MiI.below {W w w' : World} {vL : Value} {ls : List Mi} (h : MiI W w vL ls) (hb : Below w.heap.size w w') : MiI W w' vL ls :=
  ⟨((own_block h.l).below hb (Nat.le_refl _)).1, below_trans h.b hb h.z⟩
/-- Steps and updates under way. -/
structure WrI (W w : World) (vL vU : Value) (ls : List Mi) (us : List Se) : Prop where
  l : w.ownsRow W.heap.size 79 3 vL ls.length (mis ls)
  u : w.ownsRow W.heap.size 244 2 vU us.length (ses us)
  b : Below W.heap.size W w
theorem WrI.z {W w : World} {vL vU : Value} {ls : List Mi} {us : List Se} (h : WrI W w vL vU ls us) : W.heap.size ≤ w.heap.size := h.b.size
theorem WrI.below {W w w' : World} {vL vU : Value} {ls : List Mi} {us : List Se} (h : WrI W w vL vU ls us) (hb : Below w.heap.size w w') : WrI W w' vL vU ls us :=
  ⟨((own_block h.l).below hb (Nat.le_refl _)).1, ((own_block h.u).below hb (Nat.le_refl _)).1, below_trans h.b hb h.z⟩
end Go.Proofs.YtipklbnfobckaaaGreatDoor

namespace Go.Proofs.YtipklbnfobckaaaGreatDoor
open Go.RowKit

/-- Updates to words. -/
def Wv (us : List Se) : Prop := ∀ u ∈ us, 0 ≤ u.val ∧ u.val < 1099511627776
theorem Wv.cons {a x : Int} {us : List Se} (h : 0 ≤ x ∧ x < 1099511627776) (k : Wv us) : Wv (⟨a, x⟩ :: us) := fun u hu => by
  rcases List.mem_cons.1 hu with rfl | q
  · exact h
  · exact k u q
end Go.Proofs.YtipklbnfobckaaaGreatDoor
