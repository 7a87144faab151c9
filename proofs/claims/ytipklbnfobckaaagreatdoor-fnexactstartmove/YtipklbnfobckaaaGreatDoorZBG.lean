/- Several texts laid together: BlkCopy, JiB, FqJ, FqK, RdE. -/
import Derived.Test.YtipklbnfobckaaaGreatDoorZAH
import Derived.Test.YtipklbnfobckaaaGreatDoorZBF
import Derived.Test.YtipklbnfobckaaaGreatDoorZAG
import Derived.Deep.MidRow
import Derived.Deep.WholeRow
import Derived.Deep.RegionHeld3
import Derived.Test.YtipklbnfobckaaaGreatDoorZAI
import Derived.Test.YtipklbnfobckaaaGreatDoorZBB
import Derived.Test.YtipklbnfobckaaaGreatDoorZAZ
import Derived.Test.YtipklbnfobckaaaGreatDoorZAL
import Derived.Deep.RegionWith
namespace Go.Proofs.YtipklbnfobckaaaGreatDoor
open Go.RowKit

/-- In the midst of a copy: what was there is as it was; the argument's box and the answer's variable. -/
def CopyInvB (w a : World) (x y : Value) : Prop := Below w.heap.size w a ∧ a.heap[w.heap.size]? = some (.cells #[x, y] 44 (0, 0)) ∧ a.heap[w.heap.size + 1]? = some (.cells #[.slice none 0 0, .slice none 0 0] 44 (0, 0))
theorem CopyInvB.grown {w a b : World} {x y : Value} (h : CopyInvB w a x y) (hg : a.grownBy b none) : CopyInvB w b x y := by
 obtain ⟨h1, h2, h3⟩ := h
 have l2 := (Array.getElem?_eq_some_iff.1 h2).1
 have l3 := (Array.getElem?_eq_some_iff.1 h3).1
 exact ⟨h1.grown hg h1.size (fun k hk => by cases hk), (hg.block _ l2 (by simp)).trans h2, (hg.block _ l3 (by simp)).trans h3⟩
theorem CopyInvB.rd {w a : World} {x y : Value} (h : CopyInvB w a x y) {size : Nat} {v : Value} {n : Nat} {xs : List Value} (hr : Rd w size v n xs) : Rd a size v n xs := hr.below h.1
theorem CopyInvB.base {w a : World} {x y : Value} (h : CopyInvB w a x y) : w.heap.size + 2 ≤ a.heap.size := (Array.getElem?_eq_some_iff.1 h.2.2).1
theorem Row.grownNoneB {a b : World} {e : TypeId} {size lo : Nat} {v : Value} {n : Nat} {xs : List Value} (h : Row a e size lo a.heap.size v n xs) (hg : a.grownBy b none) : Row b e size lo b.heap.size v n xs :=
 (h.same (fun k _ hk => hg.block k hk (by simp))).wide (Nat.le_refl _) hg.size
theorem ztc {w b : World} {x y v1 v2 : Value} {ws : List Int} {ps : List Se} (hI : CopyInvB w b x y) (r1 : Row b 3 1 (w.heap.size + 2) b.heap.size v1 ws.length (zca ws)) (r2 : Row b 167 2 (w.heap.size + 2) b.heap.size v2 ps.length (ses ps)) :
  RowBlk3 ((b.setCell ⟨w.heap.size + 1, 0, none⟩ v1).setCell ⟨w.heap.size + 1, 1, none⟩ v2) w.heap.size ((b.setCell ⟨w.heap.size + 1, 0, none⟩ v1).setCell ⟨w.heap.size + 1, 1, none⟩ v2).heap.size (.agg #[v1, v2]) ws ps ∧
   Below w.heap.size w ((b.setCell ⟨w.heap.size + 1, 0, none⟩ v1).setCell ⟨w.heap.size + 1, 1, none⟩ v2) := by
 refine ⟨⟨_, _, rfl, (r1.same fun k h1 h2 => ?_).wide (by omega) (by simp), (r2.same fun k h1 h2 => ?_).wide (by omega) (by simp)⟩, (hI.1.setCell (by simp only; omega) _).setCell (by simp only; omega) _⟩
 ·rw [Below.heap_setCell _ _ _ _ (by simp only; omega), Below.heap_setCell _ _ _ _ (by simp only; omega)]
 ·rw [Below.heap_setCell _ _ _ _ (by simp only; omega), Below.heap_setCell _ _ _ _ (by simp only; omega)]

set_option maxHeartbeats 4000000 in
theorem zvc (v : Value) (ws : List Int) (ps : List Se) (w : World) (h : RdBlk w v ws ps) (hw : ws.length ≤ 2147483648) (hp : ps.length ≤ 2147483648) :
  Calls Tryz.prog 183 #[v] w fun e w' => ∃ v', e = .returned v' ∧ RowBlk3 w' w.heap.size w'.heap.size v' ws ps ∧ Below w.heap.size w w' := by
 obtain ⟨vW, vP, rfl, h1, h2⟩ := h
 have H1 := zaa h1
 have H2 := zaa h2
 obtain ⟨aW, cW, rfl, _⟩ := h1.shape
 obtain ⟨aP, cP, rfl, _⟩ := h2.shape
 clear h1 h2
 have I0 : CopyInvB w ((w.alloc (.cells #[.slice aW ws.length cW, .slice aP ps.length cP] 44)).alloc (.cells #[.slice none 0 0, .slice none 0 0] 44)).drew (.slice aW ws.length cW) (.slice aP ps.length cP) := by
  refine ⟨Below.drew ?_, zap (zah rfl), zah (by simp)⟩
  repeat (refine Below.alloc ?_ (by simp <;> omega) _)
  exact Below.refl _ _
 have HI := zaa I0
 clear I0
 go_enter Tryz.func183, Tryz.ntmps183
 go_wp2_with fail
 go_region_law (first
  | (refine zbu rfl (.const (.slice none 0 0)) (.tmp 4) 22 rfl (w.heap.size + 2) 3 (.int .i64 0) 1 8 Tryz.underlying22 zkh rfl (by decide) (.slice none 0 0) 0 [] rfl (World.ownsRow_nil _ _ _ _) (.slice aW ws.length cW) ws.length (zca ws) rfl (by first | exact HI.out.rd H1.out | exact CopyInvB.rd (Hid.out ‹_›) H1.out) (zem ws) (by simp [maxLen]; omega) (by omega) (by first | exact HI.out.base | exact CopyInvB.base (Hid.out ‹_›)) ?_; intro v1 w1 hown1 hgr1; have hown1 : w1.ownsRow (w.heap.size + 2) 3 1 v1 ws.length (zca ws) := (by simpa using hown1); have I1 := zaa (CopyInvB.grown (by first | exact HI.out | exact Hid.out ‹_›) hgr1); obtain ⟨_, a1, c1, rfl, _⟩ := (zaf hown1).rd; obtain ⟨x1, x2, x3, x4⟩ := zad I1.out.2.1; obtain ⟨y1, y2, y3, y4⟩ := zad I1.out.2.2)
  | (refine zbu rfl (.const (.slice none 0 0)) (.tmp 7) 42 rfl (w.heap.size + 2) 167 (.agg #[.int .i64 0, .int .i64 0]) 2 16 Tryz.underlying42 zwg rfl (by decide) (.slice none 0 0) 0 [] rfl (World.ownsRow_nil _ _ _ _) (.slice aP ps.length cP) ps.length (ses ps) rfl (by first | exact HI.out.rd H2.out | exact CopyInvB.rd (Hid.out ‹_›) H2.out) (ses_one ps) (by simp [maxLen]; omega) (by omega) (by first | exact HI.out.base | exact CopyInvB.base (Hid.out ‹_›)) ?_; intro v2 w2 hown2 hgr2; have hown2 : w2.ownsRow (w.heap.size + 2) 167 2 v2 ps.length (ses ps) := (by simpa using hown2); have I2 := zaa (CopyInvB.grown (by first | exact HI.out | exact Hid.out ‹_›) hgr2); obtain ⟨_, a2, c2, rfl, _⟩ := (zaf hown2).rd; obtain ⟨z1, z2, z3, z4⟩ := zad I2.out.2.1; obtain ⟨t1, t2, t3, t4⟩ := zad I2.out.2.2))
 all_goals
  go_wp2
  refine bodyPost_ret (v := .agg #[.slice a1 ws.length c1, .slice a2 ps.length c2]) (by first | (simp [results, Tryz.results183, go_sem, t1, t2]; done) | (simp [results, Tryz.results183, go_sem, y1, y2]; done)) rfl ?_
  refine ⟨_, rfl, ?_⟩
  first
   | exact ztc I2.out (Row.grownNoneB (zaf hown1) hgr2) (zaf hown2)
   | exact ztc I1.out (zaf hown1) (Row.grownNoneB (zaf hown2) hgr1)
end Go.Proofs.YtipklbnfobckaaaGreatDoor

namespace Go.Proofs.YtipklbnfobckaaaGreatDoor
open Go.RowKit

theorem RowBlk3.z {w : World} {lo hi : Nat} {v : Value} {ws : List Int} {ps : List Se} (h : RowBlk3 w lo hi v ws ps) : RowBlk w lo hi v ws ps := by
 obtain ⟨vW, vP, e, h1, h2⟩ := h
 exact ⟨vW, vP, e, h1.z, h2⟩
/-- The devices of a call's own, in blocks of their own that a box is not among. -/
def RowDevB (w : World) (b lo hi : Nat) (v : Value) (ws : List Int) (ps : List St) (es : List Int) (qs : List Se) : Prop :=
 ∃ vW vP vS vQ l1 h1 l2 h2, v = .agg #[vW, vP, vS, vQ] ∧ RowPm w l1 h1 (.agg #[vW, vP]) ws ps ∧ RowBlk w l2 h2 (.agg #[vS, vQ]) es qs ∧ (lo ≤ l1 ∧ h1 ≤ hi ∧ lo ≤ l2 ∧ h2 ≤ hi ∧ (h1 ≤ l2 ∨ h2 ≤ l1)) ∧ (h1 ≤ b ∨ b < l1) ∧ (h2 ≤ b ∨ b < l2)
theorem RowDev.b {w : World} {lo hi : Nat} {v : Value} {ws : List Int} {ps : List St} {es : List Int} {qs : List Se} (h : RowDev w lo hi v ws ps es qs) (b : Nat) (hb : b < lo ∨ hi ≤ b) : RowDevB w b lo hi v ws ps es qs := by
 obtain ⟨vW, vP, vS, vQ, l1, h1, l2, h2, e, r1, r2, c⟩ := h
 exact ⟨vW, vP, vS, vQ, l1, h1, l2, h2, e, r1, r2, c, by omega, by omega⟩
theorem RowDevB.below {w w' : World} {b lo hi : Nat} {v : Value} {ws : List Int} {ps : List St} {es : List Int} {qs : List Se} (h : RowDevB w b lo hi v ws ps es qs) {B : Nat} (hb : Below B w w') (hB : hi ≤ B) : RowDevB w' b lo hi v ws ps es qs := by
 obtain ⟨vW, vP, vS, vQ, l1, h1, l2, h2, e, r1, r2, c, d⟩ := h
 exact ⟨vW, vP, vS, vQ, l1, h1, l2, h2, e, r1.below hb (by omega), r2.below hb (by omega), c, d⟩
theorem RowDevB.wide {w : World} {b lo hi : Nat} {v : Value} {ws : List Int} {ps : List St} {es : List Int} {qs : List Se} (h : RowDevB w b lo hi v ws ps es qs) {lo' hi' : Nat} (a : lo' ≤ lo) (a' : hi ≤ hi') : RowDevB w b lo' hi' v ws ps es qs := by
 obtain ⟨vW, vP, vS, vQ, l1, h1, l2, h2, e, r1, r2, c, d⟩ := h
 exact ⟨vW, vP, vS, vQ, l1, h1, l2, h2, e, r1, r2, by omega, d⟩
/-- The box is written. -/
theorem RowDevB.put {w w' : World} {b lo hi : Nat} {v : Value} {ws : List Int} {ps : List St} {es : List Int} {qs : List Se} (h : RowDevB w b lo hi v ws ps es qs) (ho : Outside b (b + 1) w w') (hz : hi ≤ w.heap.size) : RowDevB w' b lo hi v ws ps es qs := by
 obtain ⟨vW, vP, vS, vQ, l1, h1, l2, h2, e, r1, r2, c, d⟩ := h
 exact ⟨vW, vP, vS, vQ, l1, h1, l2, h2, e, r1.outside ho (by omega) (by omega), r2.outside ho (by omega) (by omega), c, d⟩

theorem copyBlk_z (v : Value) (ws : List Int) (ps : List Se) (w : World) (h : RdBlk w v ws ps) (hw : ws.length ≤ 2147483648) (hp : ps.length ≤ 2147483648) :
  Calls Tryz.prog 183 #[v] w fun e w' => ∃ v', e = .returned v' ∧ RowBlk w' w.heap.size w'.heap.size v' ws ps ∧ Below w.heap.size w w' := by
 refine (zvc v ws ps w h hw hp).mono ?_
 rintro e w' ⟨v', rfl, hr, hb⟩
 exact ⟨v', rfl, hr.z, hb⟩

set_option maxRecDepth 100000 in
set_option maxHeartbeats 8000000 in
theorem zmf (v : Value) (ws : List Int) (ps : List St) (es : List Int) (qs : List Se) (w : World) (h : RdDev w v ws ps es qs) (hw : ws.length ≤ 1048576) (hp : ps.length ≤ 1048576) (he : es.length ≤ 1048576) (hq : qs.length ≤ 1048576) :
  Calls Tryz.prog 120 #[v] w fun e w' => ∃ v', e = .returned v' ∧ RowDev w' w.heap.size w'.heap.size v' ws ps es qs ∧ Below w.heap.size w w' := by
 obtain ⟨aW, cW, aP, cP, aS, cS, aQ, cQ, rfl, r1, r2⟩ := h.form
 have R1 := zaa r1
 have R2 := zaa r2
 clear h r1 r2
 have hb0 : Below w.heap.size w ((w.alloc (.cells #[.slice aW ws.length cW, .slice aP ps.length cP, .slice aS es.length cS, .slice aQ qs.length cQ] 46)).alloc (.cells #[.slice none 0 0, .slice none 0 0, .slice none 0 0, .slice none 0 0] 46)) := by
  repeat (refine Below.alloc ?_ (by simp <;> omega) _)
  exact Below.refl _ _
 go_enter Tryz.func120, Tryz.ntmps120
 go_upto_region 1 with fail
 obtain ⟨w0, hw0⟩ : ∃ w0 : World, w0 = (w.alloc (.cells #[.slice aW ws.length cW, .slice aP ps.length cP, .slice aS es.length cS, .slice aQ qs.length cQ] 46)).alloc (.cells #[.slice none 0 0, .slice none 0 0, .slice none 0 0, .slice none 0 0] 46) := ⟨_, rfl⟩
 rw [← hw0]
 rw [← hw0] at hb0
 have hz0 : w.heap.size + 2 ≤ w0.heap.size := by rw [hw0]; simp
 have V0 : Hid (w0.heap[w.heap.size]? = some (.cells #[.slice aW ws.length cW, .slice aP ps.length cP, .slice aS es.length cS, .slice aQ qs.length cQ] 46 (0, 0))) := by rw [hw0]; exact zap (zah rfl)
 have V1 : Hid (w0.heap[w.heap.size + 1]? = some (.cells #[.slice none 0 0, .slice none 0 0, .slice none 0 0, .slice none 0 0] 46 (0, 0))) := by rw [hw0]; exact zah (by simp)
 clear hw0
 have B0 := zaa hb0
 clear hb0
 obtain ⟨x0, x1, x2, x3, -, -, -, -⟩ := zan V0.out
 obtain ⟨y0, y1, y2, y3, y4, y5, y6, y7⟩ := zan V1.out
 go_region_with (first
  | (go_at_call 182; refine (copyPm_any _ ws ps _ (R1.out.below (by first | exact B0.out | exact B0.out.drew)) (by omega) (by omega)).mono ?_; rintro e w1 ⟨v1, rfl, hr1, hb1⟩; obtain ⟨aW1, cW1, aP1, cP1, rfl⟩ := hr1.form; have hz1 : w0.heap.size ≤ w1.heap.size := hb1.size; have B1 : Hid (Below w0.heap.size w0 w1) := (by first | exact hb1 | exact zab ((Below.refl _ _).drew) hb1 (Nat.le_refl _)); have Q1 : Hid (RowPm w1 w0.heap.size w1.heap.size (.agg #[.slice aW1 ws.length cW1, .slice aP1 ps.length cP1]) ws ps) := hr1; obtain ⟨z0, z1, z2, z3, -, -, -, -⟩ := zan ((B1.out.block w.heap.size (by omega)).trans V0.out); clear hr1 hb1)
  | (go_at_call 183; refine (copyBlk_z _ es qs _ (R2.out.below (by first | exact zab B0.out B1.out (by omega) | exact (zab B0.out B1.out (by omega)).drew)) (by omega) (by omega)).mono ?_; rintro e w2 ⟨v2, rfl, hr2, hb2⟩; obtain ⟨aS2, cS2, aQ2, cQ2, rfl⟩ := hr2.form; have hz2 : w1.heap.size ≤ w2.heap.size := hb2.size; have B2 : Hid (Below w1.heap.size w1 w2) := (by first | exact hb2 | exact zab ((Below.refl _ _).drew) hb2 (Nat.le_refl _)); have Q2 : Hid (RowBlk w2 w1.heap.size w2.heap.size (.agg #[.slice aS2 es.length cS2, .slice aQ2 qs.length cQ2]) es qs) := hr2; have VR := zaa ((B2.out.block (w.heap.size + 1) (by omega)).trans ((B1.out.block (w.heap.size + 1) (by omega)).trans V1.out)); obtain ⟨t0, t1, t2, t3, t4, t5, t6, t7⟩ := zan VR.out; clear hr2 hb2))
 all_goals
  go_wp2
  refine bodyPost_ret (v := .agg #[.slice aW1 ws.length cW1, .slice aP1 ps.length cP1, .slice aS2 es.length cS2, .slice aQ2 qs.length cQ2]) (by simp [results, Tryz.results120, go_sem, t0, t1, t2, t3]) rfl ?_
  have O := zqm w2 (w.heap.size + 1) (.slice aW1 ws.length cW1) (.slice aP1 ps.length cP1) (.slice aS2 es.length cS2) (.slice aQ2 qs.length cQ2)
  have Z := zrz w2 (w.heap.size + 1) (.slice aW1 ws.length cW1) (.slice aP1 ps.length cP1) (.slice aS2 es.length cS2) (.slice aQ2 qs.length cQ2)
  refine ⟨_, rfl, ⟨_, _, _, _, w0.heap.size, w1.heap.size, w1.heap.size, w2.heap.size, rfl, ?_, ?_, by omega, Nat.le_trans hz2 (Nat.le_of_eq Z.symm), by omega, Nat.le_of_eq Z.symm, .inl (Nat.le_refl _)⟩, ?_⟩
  ·exact (Q1.out.below B2.out (Nat.le_refl _)).outside O (by omega) (by omega)
  ·exact Q2.out.outside O (by omega) (Nat.le_refl _)
  ·exact (zab (zab B0.out B1.out (by omega)) B2.out (by omega)).trans (O.below (by omega) (by omega))


end Go.Proofs.YtipklbnfobckaaaGreatDoor

namespace Go.Proofs.YtipklbnfobckaaaGreatDoor
open Go.RowKit

set_option maxRecDepth 100000 in
set_option maxHeartbeats 16000000 in
theorem znm (c v : Int) (aN : Option Addr) (nm : List ByteArray) (cN : Nat) (w : World) (h : RdT w (.slice aN nm.length cN) nm) (hnm : nm.length ≤ 1048576) :
  Calls Tryz.prog 121 #[.agg #[.int .i64 c, .int .i64 v, .slice aN nm.length cN]] w fun e w' => ∃ vN, e = .returned (.agg #[.int .i64 c, .int .i64 v, vN]) ∧ Row w' 9 1 w.heap.size w'.heap.size vN nm.length (zej nm) ∧ Below w.heap.size w w' := by
 have RN := zaa h
 clear h
 obtain ⟨V, hV⟩ : ∃ V, V = ((w.alloc (.cells #[.int .i64 c, .int .i64 v, .slice aN nm.length cN] 48)).alloc (.cells #[.int .i64 0, .int .i64 0, .slice none 0 0] 48)) := ⟨_, rfl⟩
 have zV : w.heap.size + 2 ≤ V.heap.size := by rw [hV]; simp <;> omega
 have B_V : Hid (Below w.heap.size w V) := by rw [hV]; exact (((Below.refl _ _).alloc (by simp <;> omega) _).alloc (by simp <;> omega) _)
 have X0_V : Hid (V.heap[w.heap.size]? = some (.cells #[.int .i64 c, .int .i64 v, .slice aN nm.length cN] 48 (0, 0))) := by rw [hV]; exact (zap (zah rfl))
 have X1_V : Hid (V.heap[w.heap.size + 1]? = some (.cells #[.int .i64 0, .int .i64 0, .slice none 0 0] 48 (0, 0))) := by rw [hV]; exact (zah (by simp))
 go_enter Tryz.func121, Tryz.ntmps121
 go_upto_region 1 with fail
 rw [← hV]
 clear hV
 obtain ⟨c0_0, c0_1, c0_2, -⟩ := tri3 X0_V.out
 have SR : Hid (Rd V 1 (.slice aN nm.length cN) nm.length (zej nm)) := Rd.below RN.out B_V.out
 go_wp2_with (at_builtin; refine zai _ rfl (.const (.slice none 0 0)) (.tmp 4) 32 rfl V.heap.size 9 (.string ⟨#[]⟩) 1 16 Tryz.underlying32 info9 rfl (by decide) (.slice none 0 0) 0 [] rfl (World.ownsRow_nil _ _ _ _) _ nm.length (zej nm) rfl SR.out (strs_one nm) (by first | omega | (simp [maxLen]; omega)) (by first | omega | (simp; omega)) (Nat.le_refl _) ?_)
 intro vv w1 hown0 hgr
 have hown : w1.ownsRow V.heap.size 9 1 vv nm.length (zej nm) := by simpa using hown0
 have hr := zaf hown
 obtain ⟨-, iN, jN, hvv, -⟩ := hr.rd
 subst hvv
 have hb : Below V.heap.size V w1 := (Below.refl _ _).grown hgr (Nat.le_refl _) (fun k hk => by cases hk)
 clear hown hown0 hgr SR RN
 clear c0_0 c0_1 c0_2
 have zw1 : V.heap.size ≤ w1.heap.size := hb.size
 have B_w1 := zaa (zab B_V.out hb B_V.out.size)
 have X0_w1 := zaa (zae X0_V.out hb (zaj X0_V.out))
 have X1_w1 := zaa (zae X1_V.out hb (zaj X1_V.out))
 clear B_V hb X0_V X1_V
 have RS_w1 := zaa (Row.wide hr (lo' := w.heap.size + 2) (hi' := w1.heap.size) (by omega) (Nat.le_refl _))
 clear hr
 obtain ⟨w2, hw2⟩ : ∃ w2, w2 = (w1.setCell ⟨w.heap.size, 2, none⟩ (.slice iN nm.length jN)) := ⟨_, rfl⟩
 have Ow2 : Outside (w.heap.size) (w.heap.size + 1) w1 w2 := by
  rw [hw2]
  repeat (refine Outside.setCell ?_ (by simp only; omega) (by simp only; omega) _)
  exact Outside.refl _ _ _
 have zw2 : w1.heap.size ≤ w2.heap.size ∧ w2.heap.size ≤ w1.heap.size := by rw [hw2]; simp [World.setCell]
 have B_w2 := zaa (B_w1.out.trans (Ow2.below (B := w.heap.size) (by omega) B_w1.out.size))
 have X1_w2 := zaa ((Ow2.block (w.heap.size + 1) (zaj X1_w1.out) (by omega)).trans X1_w1.out)
 have X0_w2 : Hid (w2.heap[w.heap.size]? = some (.cells #[.int .i64 c, .int .i64 v, .slice iN nm.length jN] 48 (0, 0))) := by rw [hw2]; exact (tr3_set2 X0_w1.out _)
 have RS_w2 := zaa (RS_w1.out.outside Ow2 (by omega) (by omega))
 clear Ow2
 obtain ⟨d0, d1, d2, g0, g1, g2⟩ := tri3 X0_w1.out
 go_upto_region 2 with fail
 rw [← hw2]
 clear hw2
 clear d0 d1 d2 g0 g1 g2 B_w1 X0_w1 X1_w1 RS_w1
 obtain ⟨c0_0, c0_1, c0_2, -⟩ := tri3 X0_w2.out
 obtain ⟨d0, d1, d2, g0, g1, g2⟩ := tri3 X1_w2.out
 obtain ⟨w3, hw3⟩ : ∃ w3, w3 = (((w2.setCell ⟨w.heap.size + 1, 0, none⟩ (.int .i64 c)).setCell ⟨w.heap.size + 1, 1, none⟩ (.int .i64 v)).setCell ⟨w.heap.size + 1, 2, none⟩ (.slice iN nm.length jN)) := ⟨_, rfl⟩
 have Ow3 : Outside (w.heap.size + 1) (w.heap.size + 1 + 1) w2 w3 := by
  rw [hw3]
  repeat (refine Outside.setCell ?_ (by simp only; omega) (by simp only; omega) _)
  exact Outside.refl _ _ _
 have zw3 : w2.heap.size ≤ w3.heap.size ∧ w3.heap.size ≤ w2.heap.size := by rw [hw3]; simp [World.setCell]
 have B_w3 := zaa (B_w2.out.trans (Ow3.below (B := w.heap.size) (by omega) B_w2.out.size))
 have X0_w3 := zaa ((Ow3.block (w.heap.size) (zaj X0_w2.out) (by omega)).trans X0_w2.out)
 have X1_w3 : Hid (w3.heap[w.heap.size + 1]? = some (.cells #[.int .i64 c, .int .i64 v, .slice iN nm.length jN] 48 (0, 0))) := by rw [hw3]; exact (tr3_set2 (tr3_set1 (tr3_set0 X1_w2.out _) _) _)
 have RS_w3 := zaa (RS_w2.out.outside Ow3 (by omega) (by omega))
 clear Ow3
 go_wp2
 refine bodyPost_ret (v := .agg #[.int .i64 c, .int .i64 v, .slice iN nm.length jN]) (by simp [results, Tryz.results121, go_sem, d0, d1, d2]) rfl ?_
 rw [← hw3]
 exact ⟨_, rfl, RS_w3.out.wide (by omega) (by omega), B_w3.out⟩
end Go.Proofs.YtipklbnfobckaaaGreatDoor

namespace Go.Proofs.YtipklbnfobckaaaGreatDoor
open Go.RowKit

set_option maxRecDepth 100000 in
set_option maxHeartbeats 16000000 in
theorem zup {aW aP aS aQ aH aT aN : Option Addr} {cW cP cS cQ cH cT cN : Nat} {ws : List Int} {ps : List St} {es : List Int} {qs : List Se} {hs : List Int} {td : List Mi} {cd vl : Int} {nm : List ByteArray} {fr : Bool} (b : Nat) (w : World) (hx : w.heap[b]? = some (.cells #[.slice aW ws.length cW, .slice aP ps.length cP, .slice aS es.length cS, .slice aQ qs.length cQ, .slice aH hs.length cH, .slice aT td.length cT, .int .i64 cd, .int .i64 vl, .slice aN nm.length cN, .bool fr] 98 (0, 0))) :
  Calls Tryz.prog 78 #[.pointer (some ⟨b, 0, none⟩)] w fun e w' => e = .returned (.bool (decide (0 < td.length))) ∧ w' = w := by
 have c5 := tenT hx
 clear hx
 by_cases c : 0 < td.length
 ·rw [decide_eq_true c]
  have c' : (0 : Int) < (td.length : Int) := by omega
  go_enter Tryz.func78, Tryz.ntmps78
  go_wp2
  go_ret
  exact ⟨rfl, rfl⟩
 ·rw [decide_eq_false c]
  have c' : ¬ (0 : Int) < (td.length : Int) := by omega
  go_enter Tryz.func78, Tryz.ntmps78
  go_wp2
  go_ret
  exact ⟨rfl, rfl⟩
end Go.Proofs.YtipklbnfobckaaaGreatDoor

namespace Go.Proofs.YtipklbnfobckaaaGreatDoor
open Go.RowKit

theorem zrl (a : Option Addr) (n cap : Nat) (hn : 8 ≤ n) (w : World) : (Instr.arrayAt 169 (.slice a n cap)).run Tryz.prog w = .ok (.pointer a) w := by
 have h : ¬ n < 8 := by omega
 simp [Instr.arrayAt, run_underlying Tryz.underlying169, h, go_sem]

set_option maxRecDepth 100000 in
set_option maxHeartbeats 2000000 in
theorem zpg (b o n c : Nat) (x : Ino) (w : World) (hn : 11 ≤ n) (hc : n ≤ c) (hb : b < w.heap.size) (h : ∀ j, j < 11 → w.cell? ⟨b, o + j, none⟩ = x.cs[j]?) :
  Calls Tryz.prog 233 #[.slice (some ⟨b, o, none⟩) n c] w fun e w' => e = .returned x.v ∧ Below w.heap.size w w' := by
 have BW := zaa ((Below.refl w.heap.size w).alloc (Nat.le_refl _) (.cells #[.int .i64 0, .int .i64 0, .int .i64 0, .int .i64 0, .int .i64 0, .int .i64 0, .int .i64 0, .int .i64 0, .int .i64 0, .int .i64 0, .int .i64 0] 171))
 have S : Hid (∀ w', Below w.heap.size w w' → w'.cell? ⟨b, o, none⟩ = some (.int .i64 x.kind) ∧ w'.cell? ⟨b, o + 1, none⟩ = some (.int .i64 x.size) ∧ w'.cell? ⟨b, o + 2, none⟩ = some (.int .i64 x.links) ∧ w'.cell? ⟨b, o + 3, none⟩ = some (.int .i64 x.m0) ∧ w'.cell? ⟨b, o + 3 + 1, none⟩ = some (.int .i64 x.m1) ∧ w'.cell? ⟨b, o + 3 + 2, none⟩ = some (.int .i64 x.m2) ∧ w'.cell? ⟨b, o + 3 + 3, none⟩ = some (.int .i64 x.m3) ∧ w'.cell? ⟨b, o + 3 + 4, none⟩ = some (.int .i64 x.m4) ∧ w'.cell? ⟨b, o + 3 + 5, none⟩ = some (.int .i64 x.m5) ∧ w'.cell? ⟨b, o + 3 + 6, none⟩ = some (.int .i64 x.m6) ∧ w'.cell? ⟨b, o + 3 + 7, none⟩ = some (.int .i64 x.m7)) := fun w' hw' =>
  have g := fun j (hj : j < 11) => (hw'.cell (p := ⟨b, o + j, none⟩) hb).trans (h j hj)
  ⟨g 0 (by omega), g 1 (by omega), g 2 (by omega), g 3 (by omega), g 4 (by omega), g 5 (by omega), g 6 (by omega), g 7 (by omega), g 8 (by omega), g 9 (by omega), g 10 (by omega)⟩
 obtain ⟨s0, s1, s2, s3, s4, s5, s6, s7, s8, s9, s10⟩ := S.out _ BW.out
 have i0 : (0 : Int) < (n : Int) := by omega
 have i00 : 0 < n := by omega
 have i1 : (1 : Int) < (n : Int) := by omega
 have i2 : (2 : Int) < (n : Int) := by omega
 have i3 : (11 : Int) ≤ (c : Int) := by omega
 have i4 : ¬ c = 3 := by omega
 have i5 : (3 : Int) ≤ 11 := by omega
 have har := zrl (some ⟨b, o + 3, none⟩) 8 (c - 3) (Nat.le_refl _)
 unfold Ino.v
 clear h hn hc
 go_enter Tryz.func233, Tryz.ntmps233
 go_wp2_with fail
 go_region_held3 (fun w' => w'.cell? ⟨b, o, none⟩ = some (.int .i64 x.kind) ∧ w'.cell? ⟨b, o + 1, none⟩ = some (.int .i64 x.size) ∧ w'.cell? ⟨b, o + 2, none⟩ = some (.int .i64 x.links) ∧ w'.cell? ⟨b, o + 3, none⟩ = some (.int .i64 x.m0) ∧ w'.cell? ⟨b, o + 3 + 1, none⟩ = some (.int .i64 x.m1) ∧ w'.cell? ⟨b, o + 3 + 2, none⟩ = some (.int .i64 x.m2) ∧ w'.cell? ⟨b, o + 3 + 3, none⟩ = some (.int .i64 x.m3) ∧ w'.cell? ⟨b, o + 3 + 4, none⟩ = some (.int .i64 x.m4) ∧ w'.cell? ⟨b, o + 3 + 5, none⟩ = some (.int .i64 x.m5) ∧ w'.cell? ⟨b, o + 3 + 6, none⟩ = some (.int .i64 x.m6) ∧ w'.cell? ⟨b, o + 3 + 7, none⟩ = some (.int .i64 x.m7))
  (exact S.out _ (by repeat (first | with_reducible exact BW.out | with_reducible refine zam ?_ _ | with_reducible exact Below.refl _ _ | with_reducible refine Below.drew ?_)))
  (fail)
 all_goals
  go_wp2
  refine bodyPost_ret (v := .agg #[.int .i64 x.kind, .int .i64 x.size, .int .i64 x.links, .int .i64 x.m0, .int .i64 x.m1, .int .i64 x.m2, .int .i64 x.m3, .int .i64 x.m4, .int .i64 x.m5, .int .i64 x.m6, .int .i64 x.m7]) (by simp [results, Tryz.results233, go_sem]) rfl ⟨rfl, ?_⟩
  repeat (first | with_reducible exact Below.refl _ _ | with_reducible refine zam ?_ _ | with_reducible refine Below.drew ?_)

/-- An entry off three words. -/
def denZ (z0 z1 z2 : Int) : Den := if z2 = 0 then ⟨0, ⟨#[]⟩, -1⟩ else ⟨z0, zuf z1, z2 - 1⟩
def zmn (z0 z1 z2 : Int) : Bool := if z2 = 0 then z0 == 0 && z1 == 0 else zfg z1

set_option maxRecDepth 100000 in
set_option maxHeartbeats 2000000 in
theorem zmv (b o n c : Nat) (z0 z1 z2 : Int) (w : World) (hn : 3 ≤ n) (_hc : n ≤ c) (hb : b < w.heap.size) (h0 : w.cell? ⟨b, o, none⟩ = some (.int .i64 z0)) (h1 : w.cell? ⟨b, o + 1, none⟩ = some (.int .i64 z1)) (h2 : w.cell? ⟨b, o + 2, none⟩ = some (.int .i64 z2)) (hF : FD w) (r1 : z1 ≤ 9223372036854775807) (r2 : 0 ≤ z2 ∧ z2 ≤ 9223372036854775807) :
  Calls Tryz.prog 234 #[.slice (some ⟨b, o, none⟩) n c] w fun e w' => (∃ s, e = .returned (.tuple #[.agg #[.int .i64 (denZ z0 z1 z2).dir, .string s, .int .i64 (denZ z0 z1 z2).child], .bool (zmn z0 z1 z2)]) ∧ (zmn z0 z1 z2 = true → s = (denZ z0 z1 z2).name)) ∧ Below w.heap.size w w' := by
 have BW := zaa ((Below.refl w.heap.size w).alloc (Nat.le_refl _) (.cells #[.int .i64 0, .string ⟨#[]⟩, .int .i64 0] 173))
 have S : Hid (∀ w', Below w.heap.size w w' → w'.cell? ⟨b, o, none⟩ = some (.int .i64 z0) ∧ w'.cell? ⟨b, o + 1, none⟩ = some (.int .i64 z1) ∧ w'.cell? ⟨b, o + 2, none⟩ = some (.int .i64 z2)) := fun w' hw' => ⟨(hw'.cell (p := ⟨b, o, none⟩) hb).trans h0, (hw'.cell (p := ⟨b, o + 1, none⟩) hb).trans h1, (hw'.cell (p := ⟨b, o + 2, none⟩) hb).trans h2⟩
 obtain ⟨s0, s1, s2⟩ := S.out _ BW.out
 have F := zaa hF
 have i0 : (0 : Int) < (n : Int) := by omega
 have i00 : 0 < n := by omega
 have i1 : (1 : Int) < (n : Int) := by omega
 have i2 : (2 : Int) < (n : Int) := by omega
 clear h0 h1 h2 hF
 by_cases c2 : z2 = 0
 ·subst c2
  have E1 : denZ z0 z1 0 = ⟨0, ⟨#[]⟩, -1⟩ := by unfold denZ; rw [if_pos rfl]
  have E2 : zmn z0 z1 0 = (z0 == 0 && z1 == 0) := by unfold zmn; rw [if_pos rfl]
  rw [E1, E2]
  clear E1 E2
  obtain ⟨f0, f1, f2⟩ := FD.cells (F.out.below BW.out)
  by_cases c0 : z0 = 0
  ·have q0 : (z0 == 0) = true := by rw [c0]; rfl
   have EQ : Hid ((z0 == 0 && z1 == 0) = (z1 == 0)) := by unfold Hid; rw [q0]; rfl
   rw [EQ.out]
   clear c0 EQ
   go_enter Tryz.func234, Tryz.ntmps234
   go_wp2_with fail
   go_region_held3 (fun w' => (w'.cell? ⟨b, o, none⟩ = some (.int .i64 z0) ∧ w'.cell? ⟨b, o + 1, none⟩ = some (.int .i64 z1) ∧ w'.cell? ⟨b, o + 2, none⟩ = some (.int .i64 0)) ∧ w'.cell? ⟨1, 0, none⟩ = some (.int .i64 0) ∧ w'.cell? ⟨1, 1, none⟩ = some (.string ⟨#[]⟩) ∧ w'.cell? ⟨1, 2, none⟩ = some (.int .i64 (-1)))
    (exact ⟨S.out _ (by repeat (first | with_reducible exact BW.out | with_reducible refine zam ?_ _ | with_reducible exact Below.refl _ _ | with_reducible refine Below.drew ?_)), FD.cells (F.out.below (by repeat (first | with_reducible exact BW.out | with_reducible refine zam ?_ _ | with_reducible exact Below.refl _ _ | with_reducible refine Below.drew ?_)))⟩)
    (fail)
   all_goals
    go_wp2
    refine bodyPost_ret (v := .tuple #[.agg #[.int .i64 0, .string ⟨#[]⟩, .int .i64 (-1)], .bool (z1 == 0)]) (by simp [results, Tryz.results234, go_sem]) rfl ?_
    exact ⟨⟨_, rfl, fun _ => rfl⟩, (by repeat (first | with_reducible exact BW.out | with_reducible exact Below.refl _ _ | with_reducible refine zam ?_ _ | with_reducible refine Below.drew ?_ | refine Below.setCell ?_ (by exact Nat.le_refl _) _))⟩
  ·have q0 : (z0 == 0) = false := by rw [beq_eq_false_iff_ne]; exact c0
   have EQ : Hid ((z0 == 0 && z1 == 0) = false) := by unfold Hid; rw [q0]; rfl
   rw [EQ.out]
   clear c0 EQ
   go_enter Tryz.func234, Tryz.ntmps234
   go_wp2_with fail
   go_region
   all_goals
    go_wp2
    refine bodyPost_ret (v := .tuple #[.agg #[.int .i64 0, .string ⟨#[]⟩, .int .i64 (-1)], .bool false]) (by simp [results, Tryz.results234, go_sem]) rfl ?_
    exact ⟨⟨_, rfl, fun _ => rfl⟩, (by repeat (first | with_reducible exact BW.out | with_reducible exact Below.refl _ _ | with_reducible refine zam ?_ _ | with_reducible refine Below.drew ?_ | refine Below.setCell ?_ (by exact Nat.le_refl _) _))⟩
 ·have q : (z2 == 0) = false := by rw [beq_eq_false_iff_ne]; exact c2
  have E1 : denZ z0 z1 z2 = ⟨z0, zuf z1, z2 - 1⟩ := by unfold denZ; rw [if_neg c2]
  have E2 : zmn z0 z1 z2 = zfg z1 := by unfold zmn; rw [if_neg c2]
  rw [E1, E2]
  have LU := zaa (fun w1 => zib z1 w1 r1)
  have EU : Hid ((unpC z1 == 0) = zfg z1) := by
   unfold Hid unpC
   cases zfg z1 <;> rfl
  have wp1 : IntKind.i64.wrap (z2 - 1) = z2 - 1 := by rw [IntKind.wrap_i64]; omega
  rw [← EU.out]
  clear E1 E2 c2 EU
  generalize unpC z1 = uc at *
  generalize zuf z1 = us at *
  go_enter Tryz.func234, Tryz.ntmps234
  go_wp2_with fail
  refine (LU.out _).mono ?_
  rintro e w1 ⟨rfl, hb1⟩
  have B1 := zaa (zab BW.out hb1 BW.out.size)
  have VB : Hid (w1.heap[w.heap.size]? = some (.cells #[.int .i64 0, .string ⟨#[]⟩, .int .i64 0] 173 (0, 0))) := (hb1.block _ (by simp)).trans (zah rfl)
  clear hb1 s0 s1 s2
  obtain ⟨s0, s1, s2⟩ := S.out _ B1.out
  obtain ⟨t0, t1, t2⟩ := zcc VB.out
  have u0 := (zay (xs := [.int .i64 0, .string ⟨#[]⟩, .int .i64 0]) VB.out 0).2
  have u1 := (zay (xs := [.int .i64 0, .string ⟨#[]⟩, .int .i64 0]) VB.out 1).2
  have u2 := (zay (xs := [.int .i64 0, .string ⟨#[]⟩, .int .i64 0]) VB.out 2).2
  go_wp2_with fail
  go_region_held3 (fun w' => w'.cell? ⟨b, o, none⟩ = some (.int .i64 z0) ∧ w'.cell? ⟨b, o + 1, none⟩ = some (.int .i64 z1) ∧ w'.cell? ⟨b, o + 2, none⟩ = some (.int .i64 z2))
   (exact S.out _ (by repeat (first | with_reducible exact B1.out | with_reducible refine Below.drew ?_ | refine Below.setCell ?_ (by exact Nat.le_refl _) _)))
   (fail)
  all_goals
   go_wp2
   refine bodyPost_ret (v := .tuple #[.agg #[.int .i64 z0, .string us, .int .i64 (z2 - 1)], .bool (uc == 0)]) (by simp [results, Tryz.results234, go_sem, t0, t1, t2]) rfl ?_
   exact ⟨⟨_, rfl, fun _ => rfl⟩, (by repeat (first | with_reducible exact B1.out | with_reducible refine Below.drew ?_ | refine Below.setCell ?_ (by exact Nat.le_refl _) _))⟩
end Go.Proofs.YtipklbnfobckaaaGreatDoor
