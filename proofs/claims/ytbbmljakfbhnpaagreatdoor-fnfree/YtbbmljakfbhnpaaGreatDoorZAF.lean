/- Several texts laid together: MicDo, MicO, MiL, JiM. -/
import Derived.Test.YtbbmljakfbhnpaaGreatDoorZAE
import Derived.Test.YtbbmljakfbhnpaaGreatDoorZAA
import Derived.Test.YtbbmljakfbhnpaaGreatDoorZAB
namespace Go.Proofs.YtbbmljakfbhnpaaGreatDoor
open Go.RowKit

set_option maxRecDepth 100000 in
set_option maxHeartbeats 8000000 in
theorem l04Do_any (v : Value) (m : Mi) (ws : List Int) (ps : List St) (es : List Int) (qs : List Se) (w : World) (h : RdDev w v ws ps es qs) (hp1 : pmB ws ps = true) (hb1 : zip es qs = true) (hm : miB m = true) :
  Calls Tryz.prog 191 #[v, m.v] w fun e w' => ∃ v', e = .returned v' ∧ RdDev w' v' (doW m ws ps) (doP m ps) (doE m es qs) (doQ m qs) ∧ Below w.heap.size w w' := by
 obtain ⟨k, a, x⟩ := m
 obtain ⟨aW, cW, aP, cP, aS, cS, aQ, cQ, rfl, r1, r2⟩ := h.form
 have R1 := zaa r1
 have R2 := zaa r2
 have HW := zaa (zgm hp1).1
 have hwl : ws.length ≤ 336 := Nat.le_of_eq HW.out
 have hpl : ps.length ≤ 400 := (zgm hp1).2
 have HE := zaa (zeu hb1).1
 have hel : es.length ≤ 32 := Nat.le_of_eq HE.out
 have hql : qs.length ≤ 400 := (zeu hb1).2
 have PA := zaa (fun j (hj : j < ps.length) => znr (zjc hp1 j hj).1)
 have QA := zaa (fun j (hj : j < qs.length) => secB_true (zqb hb1 j hj).1)
 have hk := (zku k a x).1 hm
 clear h r1 r2 hp1 hb1 hm
 have hb0 : Below w.heap.size w (((w.alloc (.cells #[.slice aW ws.length cW, .slice aP ps.length cP, .slice aS es.length cS, .slice aQ qs.length cQ] 36)).alloc (.cells #[.int .i64 k, .int .i64 a, .int .i64 x] 215)).alloc (.cells #[.slice none 0 0, .slice none 0 0, .slice none 0 0, .slice none 0 0] 36)) := by
  repeat (refine Below.alloc ?_ (by simp <;> omega) _)
  exact Below.refl _ _
 unfold Mi.v
 simp only
 rcases (show (k = 1 ∧ (0 ≤ a ∧ a < 336)) ∨ (k = 2 ∧ (0 ≤ a ∧ a < 336)) ∨ k = 3 ∨ (k = 4 ∧ (0 ≤ a ∧ a < 32)) ∨ k = 5 by omega) with ⟨rfl, ha⟩ | ⟨rfl, ha⟩ | rfl | ⟨rfl, ha⟩ | rfl
 ·clear hk
  have D := zaa (show doW (⟨1, a, x⟩ : Mi) ws ps = ws ∧ doP (⟨1, a, x⟩ : Mi) ps = ps ++ [⟨a, x, false⟩] ∧ doE (⟨1, a, x⟩ : Mi) es qs = es ∧ doQ (⟨1, a, x⟩ : Mi) qs = qs from ⟨rfl, rfl, rfl, rfl⟩)
  go_enter Tryz.func191, Tryz.ntmps191
  go_wp2_with fail
  refine (zuz _ ws ps a x _ (R1.out.below hb0) (by omega)).mono ?_
  rintro e w1 ⟨v1, rfl, hr, hb⟩
  have hr' : RdPm w1 v1 _ _ := hr
  obtain ⟨vW1, vP1, rfl, hI, hS⟩ := hr'
  obtain ⟨aW1, cW1, rfl⟩ := RdI.form hI rfl
  obtain ⟨aP1, cP1, rfl⟩ := RdS.form hS (n := ps.length + 1) (by simp)
  have hz1 : w.heap.size + 3 ≤ w1.heap.size := by have := hb.size; simp at this; omega
  have V0 := (hb.block w.heap.size (by simp <;> omega)).trans (zal (zal (zah rfl)))
  have V2 := (hb.block (w.heap.size + 1 + 1) (by simp <;> omega)).trans (zah (by simp))
  have VM := (hb.block (w.heap.size + 1) (by simp <;> omega)).trans (zal (zah (by simp)))
  have RN := zaa hr
  have RO := zaa (R2.out.below (zab hb0 hb (by simp <;> omega)))
  have B1 := zaa (zab hb0 hb (by simp <;> omega))
  obtain ⟨x0, x1, x2, x3, x4, x5, x6, x7⟩ := zap V0
  obtain ⟨y0, y1, y2, y3, y4, y5, y6, y7⟩ := zap V2
  obtain ⟨m0, m1, m2⟩ := zbb VM
  have VH := zaa (And.intro V0 V2)
  clear hb0 hb hr hI hS V0 V2 VM
  go_wp2
  refine bodyPost_ret (v := .agg #[.slice aW1 ws.length cW1, .slice aP1 (ps.length + 1) cP1, .slice aS es.length cS, .slice aQ qs.length cQ]) (by simp [results, Tryz.results191, go_sem, y0, y1, y2, y3]) rfl ?_
  refine ⟨_, rfl, ?_, ?_⟩
  ·rw [D.out.1, D.out.2.1, D.out.2.2.1, D.out.2.2.2]
   exact ⟨_, _, _, _, rfl, (RN.out.put (bD := w.heap.size) (bR := w.heap.size + 1 + 1) (i := 0) (j := 1) VH.out.1 (zdd (zaf _ _ _) (zaf _ _ _) (zaf _ _ _) (zaf _ _ _)) VH.out.2 (zdd (zaf _ _ _) (zaf _ _ _) (zaf _ _ _) (zaf _ _ _))), (RO.out.put (bD := w.heap.size) (bR := w.heap.size + 1 + 1) (i := 0) (j := 1) VH.out.1 (zdd (zaf _ _ _) (zaf _ _ _) (zaf _ _ _) (zaf _ _ _)) VH.out.2 (zdd (zaf _ _ _) (zaf _ _ _) (zaf _ _ _) (zaf _ _ _)))⟩
  ·exact zfy B1.out (Nat.le_refl _) (by omega) 0 1 _ _ _ _ _ _
 ·clear hk
  have D := zaa (show doW (⟨2, a, x⟩ : Mi) ws ps = ws ∧ doP (⟨2, a, x⟩ : Mi) ps = ps.map (fl1 a) ∧ doE (⟨2, a, x⟩ : Mi) es qs = es ∧ doQ (⟨2, a, x⟩ : Mi) qs = qs from ⟨rfl, rfl, rfl, rfl⟩)
  obtain ⟨q, rfl⟩ : ∃ q : Nat, a = q := ⟨a.toNat, by omega⟩
  go_enter Tryz.func191, Tryz.ntmps191
  go_wp2_with fail
  refine (zsx _ ws ps q _ (R1.out.below hb0) (by omega) (by omega) (fun j hj => PA.out j hj)).mono ?_
  rintro e w1 ⟨v1, rfl, hr, hb⟩
  have hr' : RdPm w1 v1 _ _ := hr
  obtain ⟨vW1, vP1, rfl, hI, hS⟩ := hr'
  obtain ⟨aW1, cW1, rfl⟩ := RdI.form hI rfl
  obtain ⟨aP1, cP1, rfl⟩ := RdS.form hS (n := ps.length) (by simp)
  have hz1 : w.heap.size + 3 ≤ w1.heap.size := by have := hb.size; simp at this; omega
  have V0 := (hb.block w.heap.size (by simp <;> omega)).trans (zal (zal (zah rfl)))
  have V2 := (hb.block (w.heap.size + 1 + 1) (by simp <;> omega)).trans (zah (by simp))
  have VM := (hb.block (w.heap.size + 1) (by simp <;> omega)).trans (zal (zah (by simp)))
  have RN := zaa hr
  have RO := zaa (R2.out.below (zab hb0 hb (by simp <;> omega)))
  have B1 := zaa (zab hb0 hb (by simp <;> omega))
  obtain ⟨x0, x1, x2, x3, x4, x5, x6, x7⟩ := zap V0
  obtain ⟨y0, y1, y2, y3, y4, y5, y6, y7⟩ := zap V2
  obtain ⟨m0, m1, m2⟩ := zbb VM
  have VH := zaa (And.intro V0 V2)
  clear hb0 hb hr hI hS V0 V2 VM
  go_wp2
  refine bodyPost_ret (v := .agg #[.slice aW1 ws.length cW1, .slice aP1 ps.length cP1, .slice aS es.length cS, .slice aQ qs.length cQ]) (by simp [results, Tryz.results191, go_sem, y0, y1, y2, y3]) rfl ?_
  refine ⟨_, rfl, ?_, ?_⟩
  ·rw [D.out.1, D.out.2.1, D.out.2.2.1, D.out.2.2.2]
   exact ⟨_, _, _, _, rfl, (RN.out.put (bD := w.heap.size) (bR := w.heap.size + 1 + 1) (i := 0) (j := 1) VH.out.1 (zdd (zaf _ _ _) (zaf _ _ _) (zaf _ _ _) (zaf _ _ _)) VH.out.2 (zdd (zaf _ _ _) (zaf _ _ _) (zaf _ _ _) (zaf _ _ _))), (RO.out.put (bD := w.heap.size) (bR := w.heap.size + 1 + 1) (i := 0) (j := 1) VH.out.1 (zdd (zaf _ _ _) (zaf _ _ _) (zaf _ _ _) (zaf _ _ _)) VH.out.2 (zdd (zaf _ _ _) (zaf _ _ _) (zaf _ _ _) (zaf _ _ _)))⟩
  ·exact zfy B1.out (Nat.le_refl _) (by omega) 0 1 _ _ _ _ _ _
 ·clear hk
  have D := zaa (show doW (⟨3, a, x⟩ : Mi) ws ps = zna ws ps ∧ doP (⟨3, a, x⟩ : Mi) ps = zks ps ∧ doE (⟨3, a, x⟩ : Mi) es qs = es ∧ doQ (⟨3, a, x⟩ : Mi) qs = qs from ⟨rfl, rfl, rfl, rfl⟩)
  go_enter Tryz.func191, Tryz.ntmps191
  go_wp2_with fail
  refine (ztf _ ws ps _ (R1.out.below hb0) (by omega) (by omega) (fun j hj => by have := PA.out j hj; have := HW.out; omega)).mono ?_
  rintro e w1 ⟨v1, rfl, hr, hb⟩
  have hr' : RdPm w1 v1 _ _ := hr.rd
  obtain ⟨vW1, vP1, rfl, hI, hS⟩ := hr'
  obtain ⟨aW1, cW1, rfl⟩ := RdI.form hI (zly ws ps)
  obtain ⟨aP1, cP1, rfl⟩ := RdS.form hS (n := (zks ps).length) rfl
  have hz1 : w.heap.size + 3 ≤ w1.heap.size := by have := hb.size; simp at this; omega
  have V0 := (hb.block w.heap.size (by simp <;> omega)).trans (zal (zal (zah rfl)))
  have V2 := (hb.block (w.heap.size + 1 + 1) (by simp <;> omega)).trans (zah (by simp))
  have VM := (hb.block (w.heap.size + 1) (by simp <;> omega)).trans (zal (zah (by simp)))
  have RN := zaa hr
  have RO := zaa (R2.out.below (zab hb0 hb (by simp <;> omega)))
  have B1 := zaa (zab hb0 hb (by simp <;> omega))
  obtain ⟨x0, x1, x2, x3, x4, x5, x6, x7⟩ := zap V0
  obtain ⟨y0, y1, y2, y3, y4, y5, y6, y7⟩ := zap V2
  obtain ⟨m0, m1, m2⟩ := zbb VM
  have VH := zaa (And.intro V0 V2)
  clear hb0 hb hr hI hS V0 V2 VM
  go_wp2
  refine bodyPost_ret (v := .agg #[.slice aW1 ws.length cW1, .slice aP1 ((zks ps).length) cP1, .slice aS es.length cS, .slice aQ qs.length cQ]) (by simp [results, Tryz.results191, go_sem, y0, y1, y2, y3]) rfl ?_
  refine ⟨_, rfl, ?_, ?_⟩
  ·rw [D.out.1, D.out.2.1, D.out.2.2.1, D.out.2.2.2]
   exact ⟨_, _, _, _, rfl, (RN.out.rd.put (bD := w.heap.size) (bR := w.heap.size + 1 + 1) (i := 0) (j := 1) VH.out.1 (zdd (zaf _ _ _) (zaf _ _ _) (zaf _ _ _) (zaf _ _ _)) VH.out.2 (zdd (zaf _ _ _) (zaf _ _ _) (zaf _ _ _) (zaf _ _ _))), (RO.out.put (bD := w.heap.size) (bR := w.heap.size + 1 + 1) (i := 0) (j := 1) VH.out.1 (zdd (zaf _ _ _) (zaf _ _ _) (zaf _ _ _) (zaf _ _ _)) VH.out.2 (zdd (zaf _ _ _) (zaf _ _ _) (zaf _ _ _) (zaf _ _ _)))⟩
  ·exact zfy B1.out (Nat.le_refl _) (by omega) 0 1 _ _ _ _ _ _
 ·clear hk
  have D := zaa (show doW (⟨4, a, x⟩ : Mi) ws ps = ws ∧ doP (⟨4, a, x⟩ : Mi) ps = ps ∧ doE (⟨4, a, x⟩ : Mi) es qs = es ∧ doQ (⟨4, a, x⟩ : Mi) qs = qs ++ [⟨a, x⟩] from ⟨rfl, rfl, rfl, rfl⟩)
  go_enter Tryz.func191, Tryz.ntmps191
  go_wp2_with fail
  refine (zut _ es qs a x _ (R2.out.below hb0) (by omega)).mono ?_
  rintro e w1 ⟨v1, rfl, hr, hb⟩
  have hr' : RdBlk w1 v1 _ _ := hr
  obtain ⟨vW1, vP1, rfl, hI, hS⟩ := hr'
  obtain ⟨aW1, cW1, rfl⟩ := RdI.form hI rfl
  obtain ⟨aP1, cP1, rfl⟩ := RdE.form hS (n := qs.length + 1) (by simp)
  have hz1 : w.heap.size + 3 ≤ w1.heap.size := by have := hb.size; simp at this; omega
  have V0 := (hb.block w.heap.size (by simp <;> omega)).trans (zal (zal (zah rfl)))
  have V2 := (hb.block (w.heap.size + 1 + 1) (by simp <;> omega)).trans (zah (by simp))
  have VM := (hb.block (w.heap.size + 1) (by simp <;> omega)).trans (zal (zah (by simp)))
  have RN := zaa hr
  have RO := zaa (R1.out.below (zab hb0 hb (by simp <;> omega)))
  have B1 := zaa (zab hb0 hb (by simp <;> omega))
  obtain ⟨x0, x1, x2, x3, x4, x5, x6, x7⟩ := zap V0
  obtain ⟨y0, y1, y2, y3, y4, y5, y6, y7⟩ := zap V2
  obtain ⟨m0, m1, m2⟩ := zbb VM
  have VH := zaa (And.intro V0 V2)
  clear hb0 hb hr hI hS V0 V2 VM
  go_wp2
  refine bodyPost_ret (v := .agg #[.slice aW ws.length cW, .slice aP ps.length cP, .slice aW1 es.length cW1, .slice aP1 (qs.length + 1) cP1]) (by simp [results, Tryz.results191, go_sem, y0, y1, y2, y3]) rfl ?_
  refine ⟨_, rfl, ?_, ?_⟩
  ·rw [D.out.1, D.out.2.1, D.out.2.2.1, D.out.2.2.2]
   exact ⟨_, _, _, _, rfl, (RO.out.put (bD := w.heap.size) (bR := w.heap.size + 1 + 1) (i := 2) (j := 3) VH.out.1 (zdd (zaf _ _ _) (zaf _ _ _) (zaf _ _ _) (zaf _ _ _)) VH.out.2 (zdd (zaf _ _ _) (zaf _ _ _) (zaf _ _ _) (zaf _ _ _))), (RN.out.put (bD := w.heap.size) (bR := w.heap.size + 1 + 1) (i := 2) (j := 3) VH.out.1 (zdd (zaf _ _ _) (zaf _ _ _) (zaf _ _ _) (zaf _ _ _)) VH.out.2 (zdd (zaf _ _ _) (zaf _ _ _) (zaf _ _ _) (zaf _ _ _)))⟩
  ·exact zfy B1.out (Nat.le_refl _) (by omega) 2 3 _ _ _ _ _ _
 ·clear hk
  have D := zaa (show doW (⟨5, a, x⟩ : Mi) ws ps = ws ∧ doP (⟨5, a, x⟩ : Mi) ps = ps ∧ doE (⟨5, a, x⟩ : Mi) es qs = zvo es qs ∧ doQ (⟨5, a, x⟩ : Mi) qs = [] from ⟨rfl, rfl, rfl, rfl⟩)
  go_enter Tryz.func191, Tryz.ntmps191
  go_wp2_with fail
  refine (zpd _ es qs _ (R2.out.below hb0) (by omega) (by omega) (fun j hj => by have := QA.out j hj; have := HE.out; omega)).mono ?_
  rintro e w1 ⟨v1, rfl, hr, hb⟩
  have hr' : RdBlk w1 v1 _ _ := hr.rd
  obtain ⟨vW1, vP1, rfl, hI, hS⟩ := hr'
  obtain ⟨aW1, cW1, rfl⟩ := RdI.form hI (zlo es qs)
  obtain ⟨aP1, cP1, rfl⟩ := RdE.form hS (n := 0) rfl
  have hz1 : w.heap.size + 3 ≤ w1.heap.size := by have := hb.size; simp at this; omega
  have V0 := (hb.block w.heap.size (by simp <;> omega)).trans (zal (zal (zah rfl)))
  have V2 := (hb.block (w.heap.size + 1 + 1) (by simp <;> omega)).trans (zah (by simp))
  have VM := (hb.block (w.heap.size + 1) (by simp <;> omega)).trans (zal (zah (by simp)))
  have RN := zaa hr
  have RO := zaa (R1.out.below (zab hb0 hb (by simp <;> omega)))
  have B1 := zaa (zab hb0 hb (by simp <;> omega))
  obtain ⟨x0, x1, x2, x3, x4, x5, x6, x7⟩ := zap V0
  obtain ⟨y0, y1, y2, y3, y4, y5, y6, y7⟩ := zap V2
  obtain ⟨m0, m1, m2⟩ := zbb VM
  have VH := zaa (And.intro V0 V2)
  clear hb0 hb hr hI hS V0 V2 VM
  go_wp2
  refine bodyPost_ret (v := .agg #[.slice aW ws.length cW, .slice aP ps.length cP, .slice aW1 es.length cW1, .slice aP1 0 cP1]) (by simp [results, Tryz.results191, go_sem, y0, y1, y2, y3]) rfl ?_
  refine ⟨_, rfl, ?_, ?_⟩
  ·rw [D.out.1, D.out.2.1, D.out.2.2.1, D.out.2.2.2]
   exact ⟨_, _, _, _, rfl, (RO.out.put (bD := w.heap.size) (bR := w.heap.size + 1 + 1) (i := 2) (j := 3) VH.out.1 (zdd (zaf _ _ _) (zaf _ _ _) (zaf _ _ _) (zaf _ _ _)) VH.out.2 (zdd (zaf _ _ _) (zaf _ _ _) (zaf _ _ _) (zaf _ _ _))), (RN.out.rd.put (bD := w.heap.size) (bR := w.heap.size + 1 + 1) (i := 2) (j := 3) VH.out.1 (zdd (zaf _ _ _) (zaf _ _ _) (zaf _ _ _) (zaf _ _ _)) VH.out.2 (zdd (zaf _ _ _) (zaf _ _ _) (zaf _ _ _) (zaf _ _ _)))⟩
  ·exact zfy B1.out (Nat.le_refl _) (by omega) 2 3 _ _ _ _ _ _
end Go.Proofs.YtbbmljakfbhnpaaGreatDoor

namespace Go.Proofs.YtbbmljakfbhnpaaGreatDoor
open Go.RowKit

/-- The answer's box, filled. -/
def putR (w : World) (bR : Nat) (a b c d : Value) : World := (((w.setCell ⟨bR, 0, none⟩ a).setCell ⟨bR, 1, none⟩ b).setCell ⟨bR, 2, none⟩ c).setCell ⟨bR, 3, none⟩ d
theorem zhm (w : World) (bR : Nat) (a b c d : Value) : Outside bR (bR + 1) w (putR w bR a b c d) := by
 unfold putR
 repeat (refine Outside.setCell ?_ (by simp only; omega) (by simp only; omega) _)
 exact Outside.refl _ _ _
theorem zoo (w : World) (bR : Nat) (a b c d : Value) : (putR w bR a b c d).heap.size = w.heap.size := by simp [putR, World.setCell]

set_option maxRecDepth 100000 in
set_option maxHeartbeats 8000000 in
theorem l04Own_any (v : Value) (ws : List Int) (ps : List St) (es : List Int) (qs : List Se) (w : World) (h : RdDev w v ws ps es qs) (hw : ws.length ≤ 1048576) (hp : ps.length ≤ 1048576) (he : es.length ≤ 1048576) (hq : qs.length ≤ 1048576) :
  Calls Tryz.prog 166 #[v] w fun e w' => ∃ v', e = .returned v' ∧ RowDev w' w.heap.size w'.heap.size v' ws ps es qs ∧ Below w.heap.size w w' := by
 obtain ⟨aW, cW, aP, cP, aS, cS, aQ, cQ, rfl, r1, r2⟩ := h.form
 have R1 := zaa r1
 have R2 := zaa r2
 clear h r1 r2
 have hb0 : Below w.heap.size w ((w.alloc (.cells #[.slice aW ws.length cW, .slice aP ps.length cP, .slice aS es.length cS, .slice aQ qs.length cQ] 36)).alloc (.cells #[.slice none 0 0, .slice none 0 0, .slice none 0 0, .slice none 0 0] 36)) := by
  repeat (refine Below.alloc ?_ (by simp <;> omega) _)
  exact Below.refl _ _
 go_enter Tryz.func166, Tryz.ntmps166
 go_upto_region 1 with fail
 obtain ⟨w0, hw0⟩ : ∃ w0 : World, w0 = (w.alloc (.cells #[.slice aW ws.length cW, .slice aP ps.length cP, .slice aS es.length cS, .slice aQ qs.length cQ] 36)).alloc (.cells #[.slice none 0 0, .slice none 0 0, .slice none 0 0, .slice none 0 0] 36) := ⟨_, rfl⟩
 rw [← hw0]
 rw [← hw0] at hb0
 have hz0 : w.heap.size + 2 ≤ w0.heap.size := by rw [hw0]; simp
 have V0 : Hid (w0.heap[w.heap.size]? = some (.cells #[.slice aW ws.length cW, .slice aP ps.length cP, .slice aS es.length cS, .slice aQ qs.length cQ] 36 (0, 0))) := by rw [hw0]; exact zal (zah rfl)
 have V1 : Hid (w0.heap[w.heap.size + 1]? = some (.cells #[.slice none 0 0, .slice none 0 0, .slice none 0 0, .slice none 0 0] 36 (0, 0))) := by rw [hw0]; exact zah (by simp)
 clear hw0
 have B0 := zaa hb0
 clear hb0
 obtain ⟨x0, x1, x2, x3, -, -, -, -⟩ := zap V0.out
 obtain ⟨y0, y1, y2, y3, y4, y5, y6, y7⟩ := zap V1.out
 go_region_with (first
  | (go_at_call 193; refine (zpw _ ws ps _ (R1.out.below (by first | exact B0.out | exact B0.out.drew)) (by omega) (by omega)).mono ?_; rintro e w1 ⟨v1, rfl, hr1, hb1⟩; obtain ⟨aW1, cW1, aP1, cP1, rfl⟩ := hr1.form; have hz1 : w0.heap.size ≤ w1.heap.size := hb1.size; have B1 : Hid (Below w0.heap.size w0 w1) := (by first | exact hb1 | exact zab ((Below.refl _ _).drew) hb1 (Nat.le_refl _)); have Q1 : Hid (RowPm w1 w0.heap.size w1.heap.size (.agg #[.slice aW1 ws.length cW1, .slice aP1 ps.length cP1]) ws ps) := hr1; obtain ⟨z0, z1, z2, z3, -, -, -, -⟩ := zap ((B1.out.block w.heap.size (by omega)).trans V0.out); clear hr1 hb1)
  | (go_at_call 194; refine (zqa _ es qs _ (R2.out.below (by first | exact zab B0.out B1.out (by omega) | exact (zab B0.out B1.out (by omega)).drew)) (by omega) (by omega)).mono ?_; rintro e w2 ⟨v2, rfl, hr2, hb2⟩; obtain ⟨aS2, cS2, aQ2, cQ2, rfl⟩ := hr2.form; have hz2 : w1.heap.size ≤ w2.heap.size := hb2.size; have B2 : Hid (Below w1.heap.size w1 w2) := (by first | exact hb2 | exact zab ((Below.refl _ _).drew) hb2 (Nat.le_refl _)); have Q2 : Hid (RowBlk w2 w1.heap.size w2.heap.size (.agg #[.slice aS2 es.length cS2, .slice aQ2 qs.length cQ2]) es qs) := hr2; have VR := zaa ((B2.out.block (w.heap.size + 1) (by omega)).trans ((B1.out.block (w.heap.size + 1) (by omega)).trans V1.out)); obtain ⟨t0, t1, t2, t3, t4, t5, t6, t7⟩ := zap VR.out; clear hr2 hb2))
 all_goals
  go_wp2
  refine bodyPost_ret (v := .agg #[.slice aW1 ws.length cW1, .slice aP1 ps.length cP1, .slice aS2 es.length cS2, .slice aQ2 qs.length cQ2]) (by simp [results, Tryz.results166, go_sem, t0, t1, t2, t3]) rfl ?_
  have O := zhm w2 (w.heap.size + 1) (.slice aW1 ws.length cW1) (.slice aP1 ps.length cP1) (.slice aS2 es.length cS2) (.slice aQ2 qs.length cQ2)
  have Z := zoo w2 (w.heap.size + 1) (.slice aW1 ws.length cW1) (.slice aP1 ps.length cP1) (.slice aS2 es.length cS2) (.slice aQ2 qs.length cQ2)
  refine ⟨_, rfl, ⟨_, _, _, _, w0.heap.size, w1.heap.size, w1.heap.size, w2.heap.size, rfl, ?_, ?_, by omega, Nat.le_trans hz2 (Nat.le_of_eq Z.symm), by omega, Nat.le_of_eq Z.symm, .inl (Nat.le_refl _)⟩, ?_⟩
  ·exact (Q1.out.below B2.out (Nat.le_refl _)).outside O (by omega) (by omega)
  ·exact Q2.out.outside O (by omega) (Nat.le_refl _)
  ·exact (zab (zab B0.out B1.out (by omega)) B2.out (by omega)).trans (O.below (by omega) (by omega))

/-- The code of a step, and what it leaves. -/
def zou (m : Mi) (ps : List St) (qs : List Se) : Bool := decide ((m.kind = 1 ∧ ps.length = 400) ∨ (m.kind = 4 ∧ qs.length = 400))
end Go.Proofs.YtbbmljakfbhnpaaGreatDoor

namespace Go.Proofs.YtbbmljakfbhnpaaGreatDoor
open Go.RowKit

def Mi.cells (s : Mi) : List Value := [.int .i64 s.kind, .int .i64 s.at_, .int .i64 s.val]
def mis (ps : List Mi) : List Value := ps.flatMap Mi.cells

theorem Mi.cells_len (s : Mi) : s.cells.length = 3 := rfl
theorem mis_at0 (ps : List Mi) (k : Nat) (h : k < ps.length) : (mis ps)[k * 3]? = some (.int .i64 ps[k].kind) := zbm _ 3 Mi.cells_len ps k 0 h (by omega)
theorem mis_at1 (ps : List Mi) (k : Nat) (h : k < ps.length) : (mis ps)[k * 3 + 1]? = some (.int .i64 ps[k].at_) := zbm _ 3 Mi.cells_len ps k 1 h (by omega)
theorem mis_at2 (ps : List Mi) (k : Nat) (h : k < ps.length) : (mis ps)[k * 3 + 2]? = some (.int .i64 ps[k].val) := zbm _ 3 Mi.cells_len ps k 2 h (by omega)

/-- A slice of steps that can be read. -/
def RdM (w : World) (v : Value) (ps : List Mi) : Prop := Rd w 3 v ps.length (mis ps)
theorem RdM.shape {w : World} {v : Value} {ps : List Mi} (h : RdM w v ps) : ∃ ao cap, v = .slice ao ps.length cap ∧ ps.length ≤ cap ∧ (0 < ps.length → ∃ b o, ao = some ⟨b, o, none⟩ ∧ b < w.heap.size ∧
  ∀ k (h : k < ps.length), w.cell? ⟨b, o + k * 3, none⟩ = some (.int .i64 ps[k].kind) ∧ w.cell? ⟨b, o + k * 3 + 1, none⟩ = some (.int .i64 ps[k].at_) ∧ w.cell? ⟨b, o + k * 3 + 2, none⟩ = some (.int .i64 ps[k].val)) := by
 obtain ⟨_, ao, cap, rfl, h2, h3⟩ := h
 refine ⟨ao, cap, rfl, h2.1, fun hn => ?_⟩
 obtain ⟨b, o, rfl, hb, hc⟩ := h3 hn
 exact ⟨b, o, rfl, hb, fun k hk => ⟨(hc (k * 3) (by omega)).trans (mis_at0 ps k hk), (hc (k * 3 + 1) (by omega)).trans (mis_at1 ps k hk), (hc (k * 3 + 2) (by omega)).trans (mis_at2 ps k hk)⟩⟩

theorem zbv : (Tryz.prog.info? 215).map (fun i => (i.zero, i.size, i.bytes)) = some (some (.agg #[.int .i64 0, .int .i64 0, .int .i64 0]), 3, 24) := by kernel_rfl

end Go.Proofs.YtbbmljakfbhnpaaGreatDoor

namespace Go.Proofs.YtbbmljakfbhnpaaGreatDoor
open Go.RowKit

/-- A code, and the devices beside it. -/
structure MR where
 c : Int
 W : List Int
 P : List St
 E : List Int
 Q : List Se
/-- Steps one by one, up to the first one without room. -/
def mr : List Mi → List Int → List St → List Int → List Se → MR
 | [], ws, ps, es, qs => ⟨0, ws, ps, es, qs⟩
 | m :: l, ws, ps, es, qs => if zou m ps qs = true then ⟨7, ws, ps, es, qs⟩ else mr l (doW m ws ps) (doP m ps) (doE m es qs) (doQ m qs)
theorem zor : ∀ (l l' : List Mi) (ws : List Int) (ps : List St) (es : List Int) (qs : List Se), mr (l ++ l') ws ps es qs = if (mr l ws ps es qs).c = 0 then mr l' (mr l ws ps es qs).W (mr l ws ps es qs).P (mr l ws ps es qs).E (mr l ws ps es qs).Q else mr l ws ps es qs
 | [], l', ws, ps, es, qs => by simp [mr]
 | m :: l, l', ws, ps, es, qs => by
   by_cases c : zou m ps qs = true
   ·simp [mr, c]
   ·simp only [List.cons_append, mr, if_neg c]
    exact zor l l' _ _ _ _
theorem mr_one (m : Mi) (ws : List Int) (ps : List St) (es : List Int) (qs : List Se) : mr [m] ws ps es qs = if zou m ps qs = true then ⟨7, ws, ps, es, qs⟩ else ⟨0, doW m ws ps, doP m ps, doE m es qs, doQ m qs⟩ := rfl
theorem zns {ws : List Int} {ps : List St} : pmB ws ps = true ↔ ws.length = 336 ∧ ps.length ≤ 400 ∧ (∀ x ∈ ws, zbc x = true) ∧ ∀ p ∈ ps, zfd p.at_ = true ∧ zbc p.val = true := by
 constructor
 ·intro h
  refine ⟨(zgm h).1, (zgm h).2, fun x hx => ?_, fun p hp => ?_⟩
  ·obtain ⟨i, hi, rfl⟩ := List.getElem_of_mem hx; exact pmB_word h i hi
  ·obtain ⟨i, hi, rfl⟩ := List.getElem_of_mem hp; exact zjc h i hi
 ·rintro ⟨h1, h2, h3, h4⟩
  exact pmB_mk h1 h2 (fun k hk => h3 _ (List.getElem_mem hk)) (fun k hk => h4 _ (List.getElem_mem hk))
theorem zlr {ws : List Int} {ps : List Se} : zip ws ps = true ↔ ws.length = 32 ∧ ps.length ≤ 400 ∧ (∀ x ∈ ws, zbc x = true) ∧ ∀ p ∈ ps, zvm p.at_ = true ∧ zbc p.val = true := by
 constructor
 ·intro h
  refine ⟨(zeu h).1, (zeu h).2, fun x hx => ?_, fun p hp => ?_⟩
  ·obtain ⟨i, hi, rfl⟩ := List.getElem_of_mem hx; exact blkB_word h i hi
  ·obtain ⟨i, hi, rfl⟩ := List.getElem_of_mem hp; exact zqb h i hi
 ·rintro ⟨h1, h2, h3, h4⟩
  exact blkB_mk h1 h2 (fun k hk => h3 _ (List.getElem_mem hk)) (fun k hk => h4 _ (List.getElem_mem hk))
theorem zul : ∀ (ps : List St) (ws : List Int), (∀ x ∈ ws, zbc x = true) → (∀ p ∈ ps, zbc p.val = true) → ∀ x ∈ zna ws ps, zbc x = true
 | [], ws, h, _ => h
 | p :: ps, ws, h, k => by
   show ∀ x ∈ zna (if p.fl then ws.set p.at_.toNat p.val else ws) ps, zbc x = true
   refine zul ps _ ?_ (fun q hq => k q (List.mem_cons_of_mem _ hq))
   split
   ·intro x hx
    rcases List.mem_or_eq_of_mem_set hx with hx | rfl
    ·exact h x hx
    ·exact k p (List.mem_cons_self)
   ·exact h
theorem ztd : ∀ (ps : List Se) (ws : List Int), (∀ x ∈ ws, zbc x = true) → (∀ p ∈ ps, zbc p.val = true) → ∀ x ∈ zvo ws ps, zbc x = true
 | [], ws, h, _ => h
 | p :: ps, ws, h, k => by
   show ∀ x ∈ zvo (ws.set p.at_.toNat p.val) ps, zbc x = true
   refine ztd ps _ ?_ (fun q hq => k q (List.mem_cons_of_mem _ hq))
   intro x hx
   rcases List.mem_or_eq_of_mem_set hx with hx | rfl
   ·exact h x hx
   ·exact k p (List.mem_cons_self)
theorem do_ok {m : Mi} {ws : List Int} {ps : List St} {es : List Int} {qs : List Se} (h : pmB ws ps = true) (hb : zip es qs = true) (hm : miB m = true) (hf : zou m ps qs = false) : pmB (doW m ws ps) (doP m ps) = true ∧ zip (doE m es qs) (doQ m qs) = true := by
 obtain ⟨k, a, x⟩ := m
 obtain ⟨p1, p2, p3, p4⟩ := zns.1 h
 obtain ⟨b1, b2, b3, b4⟩ := zlr.1 hb
 have hk := (zku k a x).1 hm
 have hf' : ¬ ((k = 1 ∧ ps.length = 400) ∨ (k = 4 ∧ qs.length = 400)) := of_decide_eq_false hf
 rcases (show (k = 1 ∧ (0 ≤ a ∧ a < 336) ∧ 0 ≤ x ∧ x < 1099511627776) ∨ k = 2 ∨ k = 3 ∨ (k = 4 ∧ (0 ≤ a ∧ a < 32) ∧ 0 ≤ x ∧ x < 1099511627776) ∨ k = 5 by omega) with ⟨rfl, ha, hx⟩ | rfl | rfl | ⟨rfl, ha, hx⟩ | rfl
 ·refine ⟨zns.2 ⟨p1, ?_, p3, ?_⟩, hb⟩
  ·show (ps ++ [(⟨a, x, false⟩ : St)]).length ≤ 400
   simp
   omega
  ·intro p hp
   rcases List.mem_append.1 (show p ∈ ps ++ [⟨a, x, false⟩] from hp) with hp | hp
   ·exact p4 p hp
   ·rw [List.mem_singleton.1 hp]; exact ⟨decide_eq_true ha, decide_eq_true hx⟩
 ·refine ⟨zns.2 ⟨p1, ?_, p3, ?_⟩, hb⟩
  ·show (ps.map (fl1 a)).length ≤ 400
   simpa using p2
  ·intro p hp
   obtain ⟨q, hq, rfl⟩ := List.mem_map.1 (show p ∈ ps.map (fl1 a) from hp)
   have := p4 q hq
   unfold fl1
   split <;> exact this
 ·refine ⟨zns.2 ⟨?_, ?_, ?_, ?_⟩, hb⟩
  ·show (zna ws ps).length = 336
   rw [zly]; exact p1
  ·exact Nat.le_trans (List.length_filter_le _ _) p2
  ·exact zul ps ws p3 (fun p hp => (p4 p hp).2)
  ·intro p hp
   exact p4 p (List.mem_filter.1 (show p ∈ ps.filter (fun p => !p.fl) from hp)).1
 ·refine ⟨h, zlr.2 ⟨b1, ?_, b3, ?_⟩⟩
  ·show (qs ++ [(⟨a, x⟩ : Se)]).length ≤ 400
   simp
   omega
  ·intro p hp
   rcases List.mem_append.1 (show p ∈ qs ++ [⟨a, x⟩] from hp) with hp | hp
   ·exact b4 p hp
   ·rw [List.mem_singleton.1 hp]; exact ⟨decide_eq_true ha, decide_eq_true hx⟩
 ·refine ⟨h, zlr.2 ⟨?_, Nat.zero_le _, ?_, fun p hp => by cases hp⟩⟩
  ·show (zvo es qs).length = 32
   rw [zlo]; exact b1
  ·exact ztd qs es b3 (fun p hp => (b4 p hp).2)
theorem mr_ok : ∀ (l : List Mi) (ws : List Int) (ps : List St) (es : List Int) (qs : List Se), pmB ws ps = true → zip es qs = true → (∀ m ∈ l, miB m = true) → pmB (mr l ws ps es qs).W (mr l ws ps es qs).P = true ∧ zip (mr l ws ps es qs).E (mr l ws ps es qs).Q = true
 | [], ws, ps, es, qs, h, hb, _ => ⟨h, hb⟩
 | m :: l, ws, ps, es, qs, h, hb, hm => by
   by_cases c : zou m ps qs = true
   ·simp only [mr, if_pos c]; exact ⟨h, hb⟩
   ·simp only [mr, if_neg c]
    obtain ⟨h1, h2⟩ := do_ok h hb (hm m List.mem_cons_self) (by simpa using c)
    exact mr_ok l _ _ _ _ h1 h2 (fun q hq => hm q (List.mem_cons_of_mem _ hq))
/-- The step at i, behind the ones ahead of it. -/
theorem mr_next {l : List Mi} {i : Nat} (hi : i < l.length) {ws : List Int} {ps : List St} {es : List Int} {qs : List Se} {W : List Int} {P : List St} {E : List Int} {Q : List Se} (h : mr (l.take i) ws ps es qs = ⟨0, W, P, E, Q⟩) (hf : zou l[i] P Q = false) :
  mr (l.take (i + 1)) ws ps es qs = ⟨0, doW l[i] W P, doP l[i] P, doE l[i] E Q, doQ l[i] Q⟩ := by
 rw [List.take_succ_eq_append_getElem hi, zor, h]
 simp only [if_true, mr_one]
 rw [if_neg (by rw [hf]; simp)]
theorem mr_stop {l : List Mi} {i : Nat} (hi : i < l.length) {ws : List Int} {ps : List St} {es : List Int} {qs : List Se} {W : List Int} {P : List St} {E : List Int} {Q : List Se} (h : mr (l.take i) ws ps es qs = ⟨0, W, P, E, Q⟩) (hf : zou l[i] P Q = true) :
  mr l ws ps es qs = ⟨7, W, P, E, Q⟩ := by
 have e : l = l.take i ++ l[i] :: l.drop (i + 1) := by rw [List.getElem_cons_drop]; exact (List.take_append_drop i l).symm
 rw [e, zor, h]
 simp only [if_true, mr]
 rw [if_pos hf]
theorem mr_end {l : List Mi} {i : Nat} (hi : l.length ≤ i) {ws : List Int} {ps : List St} {es : List Int} {qs : List Se} {W : List Int} {P : List St} {E : List Int} {Q : List Se} (h : mr (l.take i) ws ps es qs = ⟨0, W, P, E, Q⟩) : mr l ws ps es qs = ⟨0, W, P, E, Q⟩ := by
 rw [List.take_of_length_le hi] at h
 exact h
/-- All steps are right. -/
def misB' (l : List Mi) : Bool := decide (∀ k (h : k < l.length), miB l[k] = true)
/-- Steps with their code. -/
def ms (l : List Mi) (ws : List Int) (ps : List St) (es : List Int) (qs : List Se) : MR := if 4096 < l.length then ⟨2, [], [], [], []⟩ else if (pmB ws ps && zip es qs && misB' l) = true then mr l ws ps es qs else ⟨1, [], [], [], []⟩
end Go.Proofs.YtbbmljakfbhnpaaGreatDoor
