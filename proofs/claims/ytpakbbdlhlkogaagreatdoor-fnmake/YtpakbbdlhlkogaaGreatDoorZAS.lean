/- Several texts laid together: PmCopy, PmStore, PmFlush, PmFence, OpenA, AtE. -/
import Derived.Test.YtpakbbdlhlkogaaGreatDoorZAR
import Derived.Test.YtpakbbdlhlkogaaGreatDoorZAA
import Derived.ProofKit
import Derived.OpenShut
import Derived.ShutString
import Derived.ChangeOld
import Derived.Lib.SmallJoins
import Derived.Deep.Slices
import Derived.Deep.Strs
namespace Go.Proofs.YtpakbbdlhlkogaaGreatDoor
open Go.RowKit
def CopyInv (w a : World) (x y : Value) : Prop := Below w.heap.size w a ∧ a.heap[w.heap.size]? = some (.cells #[x, y] 26 (0, 0)) ∧ a.heap[w.heap.size + 1]? = some (.cells #[.slice none 0 0, .slice none 0 0] 26 (0, 0))
theorem CopyInv.grown {w a b : World} {x y : Value} (h : CopyInv w a x y) (hg : a.grownBy b none) : CopyInv w b x y := by
 obtain ⟨h1, h2, h3⟩ := h
 have l2 := (Array.getElem?_eq_some_iff.1 h2).1
 have l3 := (Array.getElem?_eq_some_iff.1 h3).1
 exact ⟨h1.grown hg h1.size (fun k hk => by cases hk), (hg.block _ l2 (by simp)).trans h2, (hg.block _ l3 (by simp)).trans h3⟩
theorem CopyInv.rd {w a : World} {x y : Value} (h : CopyInv w a x y) {size : Nat} {v : Value} {n : Nat} {xs : List Value} (hr : Rd w size v n xs) : Rd a size v n xs := hr.below h.1
theorem CopyInv.base {w a : World} {x y : Value} (h : CopyInv w a x y) : w.heap.size + 2 ≤ a.heap.size := (Array.getElem?_eq_some_iff.1 h.2.2).1
theorem Row.grownNone {a b : World} {e : TypeId} {size lo : Nat} {v : Value} {n : Nat} {xs : List Value} (h : Row a e size lo a.heap.size v n xs) (hg : a.grownBy b none) : Row b e size lo b.heap.size v n xs :=
 (h.same (fun k _ hk => hg.block k hk (by simp))).wide (Nat.le_refl _) hg.size
theorem yabg {w b : World} {x y v1 v2 : Value} {ws : List Int} {ps : List St} (hI : CopyInv w b x y) (r1 : Row b 3 1 (w.heap.size + 2) b.heap.size v1 ws.length (zdd ws)) (r2 : Row b 108 3 (w.heap.size + 2) b.heap.size v2 ps.length (sts ps)) :
  RowPm ((b.setCell ⟨w.heap.size + 1, 0, none⟩ v1).setCell ⟨w.heap.size + 1, 1, none⟩ v2) w.heap.size ((b.setCell ⟨w.heap.size + 1, 0, none⟩ v1).setCell ⟨w.heap.size + 1, 1, none⟩ v2).heap.size (.agg #[v1, v2]) ws ps ∧
   Below w.heap.size w ((b.setCell ⟨w.heap.size + 1, 0, none⟩ v1).setCell ⟨w.heap.size + 1, 1, none⟩ v2) := by
 refine ⟨⟨_, _, rfl, (r1.same fun k h1 h2 => ?_).wide (by omega) (by simp), (r2.same fun k h1 h2 => ?_).wide (by omega) (by simp)⟩, (hI.1.setCell (by simp only; omega) _).setCell (by simp only; omega) _⟩
 ·rw [Below.heap_setCell _ _ _ _ (by simp only; omega), Below.heap_setCell _ _ _ _ (by simp only; omega)]
 ·rw [Below.heap_setCell _ _ _ _ (by simp only; omega), Below.heap_setCell _ _ _ _ (by simp only; omega)]
set_option maxHeartbeats 4000000 in
theorem yadi (v : Value) (ws : List Int) (ps : List St) (w : World) (h : RdPm w v ws ps) (hw : ws.length ≤ 2147483648) (hp : ps.length ≤ 2147483648) :
  Calls Tryz.prog 38 #[v] w fun e w' => ∃ v', e = .returned v' ∧ RowPm w' w.heap.size w'.heap.size v' ws ps ∧ Below w.heap.size w w' := by
 obtain ⟨vW, vP, rfl, h1, h2⟩ := h
 have H1 := zaa h1
 have H2 := zaa h2
 obtain ⟨aW, cW, rfl, _⟩ := h1.shape
 obtain ⟨aP, cP, rfl, _⟩ := h2.shape
 clear h1 h2
 have I0 : CopyInv w ((w.alloc (.cells #[.slice aW ws.length cW, .slice aP ps.length cP] 26)).alloc (.cells #[.slice none 0 0, .slice none 0 0] 26)).drew (.slice aW ws.length cW) (.slice aP ps.length cP) := by
  refine ⟨Below.drew ?_, zak (zah rfl), zah (by simp)⟩
  repeat (refine Below.alloc ?_ (by simp <;> omega) _)
  exact Below.refl _ _
 have HI := zaa I0
 clear I0
 go_enter Tryz.func38, Tryz.ntmps38
 go_wp2_with fail
 go_region_law (first
  | (refine zam rfl (.const (.slice none 0 0)) (.tmp 4) 23 rfl (w.heap.size + 2) 3 (.int .i64 0) 1 8 Tryz.underlying23 zlj rfl (by decide) (.slice none 0 0) 0 [] rfl (World.ownsRow_nil _ _ _ _) (.slice aW ws.length cW) ws.length (zdd ws) rfl (by first | exact HI.out.rd H1.out | exact CopyInv.rd (Hid.out ‹_›) H1.out) (zfs ws) (by simp [maxLen]; omega) (by omega) (by first | exact HI.out.base | exact CopyInv.base (Hid.out ‹_›)) ?_; intro v1 w1 hown1 hgr1; have hown1 : w1.ownsRow (w.heap.size + 2) 3 1 v1 ws.length (zdd ws) := (by simpa using hown1); have I1 := zaa (CopyInv.grown (by first | exact HI.out | exact Hid.out ‹_›) hgr1); obtain ⟨_, a1, c1, rfl, _⟩ := (zad hown1).rd; obtain ⟨x1, x2, x3, x4⟩ := zac I1.out.2.1; obtain ⟨y1, y2, y3, y4⟩ := zac I1.out.2.2)
  | (refine zam rfl (.const (.slice none 0 0)) (.tmp 7) 24 rfl (w.heap.size + 2) 108 (.agg #[.int .i64 0, .int .i64 0, .bool false]) 3 24 Tryz.underlying24 zqh rfl (by decide) (.slice none 0 0) 0 [] rfl (World.ownsRow_nil _ _ _ _) (.slice aP ps.length cP) ps.length (sts ps) rfl (by first | exact HI.out.rd H2.out | exact CopyInv.rd (Hid.out ‹_›) H2.out) (zsg ps) (by simp [maxLen]; omega) (by omega) (by first | exact HI.out.base | exact CopyInv.base (Hid.out ‹_›)) ?_; intro v2 w2 hown2 hgr2; have hown2 : w2.ownsRow (w.heap.size + 2) 108 3 v2 ps.length (sts ps) := (by simpa using hown2); have I2 := zaa (CopyInv.grown (by first | exact HI.out | exact Hid.out ‹_›) hgr2); obtain ⟨_, a2, c2, rfl, _⟩ := (zad hown2).rd; obtain ⟨z1, z2, z3, z4⟩ := zac I2.out.2.1; obtain ⟨t1, t2, t3, t4⟩ := zac I2.out.2.2))
 all_goals
  go_wp2
  refine bodyPost_ret (v := .agg #[.slice a1 ws.length c1, .slice a2 ps.length c2]) (by first | (simp [results, Tryz.results38, go_sem, t1, t2]; done) | (simp [results, Tryz.results38, go_sem, y1, y2]; done)) rfl ?_
  refine ⟨_, rfl, ?_⟩
  first
   | exact yabg I2.out (Row.grownNone (zad hown1) hgr2) (zad hown2)
   | exact yabg I1.out (zad hown1) (Row.grownNone (zad hown2) hgr1)
set_option maxHeartbeats 4000000 in
theorem zvu (v : Value) (ws : List Int) (ps : List St) (at_ x : Int) (w : World) (h : RdPm w v ws ps) (hp : ps.length ≤ 1048576) :
  Calls Tryz.prog 156 #[v, .int .i64 at_, .int .i64 x] w fun e w' => ∃ v', e = .returned v' ∧ RdPm w' v' ws (ps ++ [⟨at_, x, false⟩]) ∧ Below w.heap.size w w' := by
 obtain ⟨vW, vP, rfl, h1, h2⟩ := h
 have H1 := zaa h1
 have H2 := zaa h2
 obtain ⟨aW, cW, rfl, _⟩ := h1.shape
 obtain ⟨aP, cP, rfl, _⟩ := h2.shape
 clear h1 h2
 have hb0 : Below w.heap.size w (((w.alloc (.cells #[.slice aW ws.length cW, .slice aP ps.length cP] 26)).alloc (.cells #[.slice none 0 0, .slice none 0 0] 26)).alloc (.cells #[] 108)) := by
  repeat (refine Below.alloc ?_ (by simp <;> omega) _)
  exact Below.refl _ _
 have ho0 : (((w.alloc (.cells #[.slice aW ws.length cW, .slice aP ps.length cP] 26)).alloc (.cells #[.slice none 0 0, .slice none 0 0] 26)).alloc (.cells #[] 108)).ownsRow (w.heap.size + 2) 108 3 (.slice (some ⟨w.heap.size + 1 + 1, 0, none⟩) 0 0) 0 [] := by
  simpa using World.ownsRow_lit (base := w.heap.size + 2) (e := 108) (size := 3) ((w.alloc (.cells #[.slice aW ws.length cW, .slice aP ps.length cP] 26)).alloc (.cells #[.slice none 0 0, .slice none 0 0] 26)) #[] 0 (by simp) (by simp) rfl
 have HO := zaa ho0
 have HB := zaa hb0
 clear ho0 hb0
 go_enter Tryz.func156, Tryz.ntmps156
 go_wp2_with (at_builtin; refine zae _ rfl (.tmp 7) (.tmp 9) 24 rfl (w.heap.size + 2) 108 (.agg #[.int .i64 0, .int .i64 0, .bool false]) 3 24 Tryz.underlying24 zqh rfl (by decide) _ 0 [] rfl HO.out _ ps.length (sts ps) rfl (Rd.below H2.out HB.out) (zsg ps) (by simp [maxLen]; omega) (by omega) (by simp) ?_)
 intro v1 w1 hown1 hgr1
 have hown1 : w1.ownsRow (w.heap.size + 2) 108 3 v1 ps.length (sts ps) := by simpa using hown1
 have hz1 : w.heap.size + 3 ≤ w1.heap.size := by have := hgr1.size; simp at this; omega
 have V0 := (hgr1.block w.heap.size (by simp <;> omega) (by simp [Value.ownBlock] <;> omega)).trans (zak (zak (zah rfl)))
 have V1 := (hgr1.block (w.heap.size + 1) (by simp <;> omega) (by simp [Value.ownBlock] <;> omega)).trans (zak (zah (by simp)))
 have B1 := HB.out.grown hgr1 (by simp <;> omega) (fun k hk => by simp [Value.ownBlock] at hk; omega)
 have hB2 := B1.alloc (by omega) (.cells #[.int .i64 at_, .int .i64 x, .bool false] 108)
 have V0' := zak (o := .cells #[.int .i64 at_, .int .i64 x, .bool false] 108) V0
 have V1' := zak (o := .cells #[.int .i64 at_, .int .i64 x, .bool false] 108) V1
 have ho2 := hown1.alloc (.cells #[.int .i64 at_, .int .i64 x, .bool false] 108)
 have hr2 : Rd (w1.alloc (.cells #[.int .i64 at_, .int .i64 x, .bool false] 108)) 3 (.slice (some ⟨w1.heap.size, 0, none⟩) 1 1) 1 (St.cells ⟨at_, x, false⟩) := by
  refine ⟨rfl, _, _, rfl, ⟨Nat.le_refl _, fun e => by cases e⟩, fun _ => ⟨w1.heap.size, 0, rfl, by simp, fun j hj => ?_⟩⟩
  obtain ⟨e0, e1, e2⟩ := zaw (zah (w := w1) (o := .cells #[.int .i64 at_, .int .i64 x, .bool false] 108) rfl)
  rw [Nat.zero_add]
  rcases (show j = 0 ∨ j = 1 ∨ j = 2 from by omega) with rfl | rfl | rfl
  ·exact e0
  ·exact e1
  ·exact e2
 have HV := zaa (And.intro V0' V1')
 have HB2 := zaa hB2
 have HO2 := zaa ho2
 have HR2 := zaa hr2
 clear hown1 hgr1 V0 V1 B1 V0' V1' hB2 ho2 hr2
 go_wp2_with (at_builtin; refine zae _ rfl (.tmp 10) (.tmp 14) 24 rfl (w.heap.size + 2) 108 (.agg #[.int .i64 0, .int .i64 0, .bool false]) 3 24 Tryz.underlying24 zqh rfl (by decide) _ ps.length (sts ps) rfl HO2.out _ 1 (St.cells ⟨at_, x, false⟩) rfl HR2.out (fun u hu => by simp [St.cells] at hu; rcases hu with rfl | rfl | rfl <;> rfl) (by simp [maxLen]; omega) (by omega) (by simp; omega) ?_)
 intro v2 w2 hown2 hgr2
 have hr3 : RdS w2 v2 (ps ++ [⟨at_, x, false⟩]) := by
  have := (zad hown2).rd
  unfold RdS
  rw [zzt, List.length_append]
  exact this
 have L3 := zaa (fun k hk => (hown2.lt k hk).1)
 have R3 : Hid (RdS w2 v2 (ps ++ [⟨at_, x, false⟩])) := hr3
 obtain ⟨_, a2, c2, e2, _⟩ := hr3
 simp only [List.length_append, List.length_singleton] at e2
 subst e2
 have hz2 : w1.heap.size + 1 ≤ w2.heap.size := by have := hgr2.size; simp at this; omega
 have hne : ∀ b, b < w.heap.size + 2 → ¬ some b = Value.ownBlock v1 := by
  intro b hb e
  have := (HO2.out.lt b e.symm).1
  omega
 have V0 := (hgr2.block w.heap.size (by simp <;> omega) (hne _ (by omega))).trans HV.out.1
 have V1 := (hgr2.block (w.heap.size + 1) (by simp <;> omega) (hne _ (by omega))).trans HV.out.2
 have B2 := zaa (HB2.out.grown hgr2 (by simp <;> omega) (fun k hk => by have := (HO2.out.lt k hk).1; omega))
 obtain ⟨z1, z2, z3, z4⟩ := zac V0
 obtain ⟨t1, t2, t3, t4⟩ := zac V1
 clear hown2 hgr2 V0 V1
 go_wp2
 refine bodyPost_ret (v := .agg #[.slice aW ws.length cW, .slice a2 (ps.length + 1) c2]) (by simp [results, Tryz.results156, go_sem, t1, t2]) rfl ?_
 have B3 := ((B2.out.setCell (p := ⟨w.heap.size, 1, none⟩) (Nat.le_refl _) (.slice a2 (ps.length + 1) c2)).setCell (p := ⟨w.heap.size + 1, 0, none⟩) (by simp only; omega) (.slice aW ws.length cW)).setCell (p := ⟨w.heap.size + 1, 1, none⟩) (by simp only; omega) (.slice a2 (ps.length + 1) c2)
 refine ⟨_, rfl, ⟨_, _, rfl, Rd.below H1.out B3, Rd.same R3.out (by simp) (fun b _ hb => ?_)⟩, B3⟩
 have := L3.out b hb
 rw [Below.heap_setCell _ _ _ _ (by simp only; omega), Below.heap_setCell _ _ _ _ (by simp only; omega), Below.heap_setCell _ _ _ _ (by simp only; omega)]
theorem yafd (l : List St) (j : Nat) (hj : j / 3 < l.length) : (sts l)[j]? = (l[j / 3]).cells[j % 3]? := by
 have := zbr St.cells 3 St.cells_len l (j / 3) (j % 3) hj (Nat.mod_lt _ (by decide))
 rw [show j / 3 * 3 + j % 3 = j from by omega] at this
 exact this
theorem yaey (l : List St) (m : Nat) (hm : m < l.length) (b : Bool) : (sts l).set (m * 3 + 2) (.bool b) = sts (l.set m ⟨l[m].at_, l[m].val, b⟩) := by
 apply List.ext_getElem?
 intro j
 by_cases hj : j < l.length * 3
 ·have h3 : j / 3 < l.length := by omega
  have h3' : j / 3 < (l.set m ⟨l[m].at_, l[m].val, b⟩).length := by simpa using h3
  rw [yagr (by rw [zyr]; exact hj), yafd _ j h3', yafd l j h3, List.getElem_set]
  by_cases e : m = j / 3
  ·rw [if_pos e]
   subst e
   rcases (show j % 3 = 0 ∨ j % 3 = 1 ∨ j % 3 = 2 from by omega) with r | r | r
   ·rw [if_neg (by omega), r]; rfl
   ·rw [if_neg (by omega), r]; rfl
   ·rw [if_pos (by omega), r]; rfl
  ·rw [if_neg e, if_neg (by omega)]
 ·rw [List.getElem?_eq_none (by rw [List.length_set, zyr]; omega), List.getElem?_eq_none (by rw [zyr, List.length_set]; omega)]
def fl1 (k : Int) (p : St) : St := if p.at_ / 8 = k / 8 then ⟨p.at_, p.val, true⟩ else p
def mix (k : Int) (ps : List St) (m : Nat) : List St := (ps.take m).map (fl1 k) ++ ps.drop m
theorem zyk (k : Int) (ps : List St) (m : Nat) (hm : m ≤ ps.length) : (mix k ps m).length = ps.length := by simp [mix]; omega
theorem yamy (k : Int) (ps : List St) : mix k ps 0 = ps := by simp [mix]
theorem yaqt (k : Int) (ps : List St) : mix k ps ps.length = ps.map (fl1 k) := by simp [mix]
theorem yahq (k : Int) (ps : List St) (m : Nat) (hm : m < ps.length) (h : m < (mix k ps m).length) : (mix k ps m)[m] = ps[m] := by
 have e : (mix k ps m)[m]? = ps[m]? := by
  unfold mix
  rw [List.getElem?_append_right (by rw [List.length_map, List.length_take]; omega)]
  simp [Nat.min_eq_left (Nat.le_of_lt hm)]
 rw [List.getElem?_eq_getElem h, List.getElem?_eq_getElem hm] at e
 exact Option.some.inj e
theorem yabm (k : Int) (ps : List St) (m : Nat) (hm : m < ps.length) : mix k ps (m + 1) = (mix k ps m).set m (fl1 k ps[m]) := by
 unfold mix
 rw [List.take_succ_eq_append_getElem hm, List.map_append, List.set_append_right _ _ (by rw [List.length_map, List.length_take]; omega)]
 simp only [List.map_cons, List.map_nil, List.length_map, List.length_take, Nat.min_eq_left (Nat.le_of_lt hm), Nat.sub_self]
 rw [List.drop_eq_getElem_cons hm, List.set_cons_zero, List.append_assoc]
 rfl
theorem yaqw {k : Int} {ps : List St} {m : Nat} (hm : m < ps.length) (h : ps[m].at_ / 8 = k / 8) : (sts (mix k ps m)).set (m * 3 + 2) (.bool true) = sts (mix k ps (m + 1)) := by
 have hl : m < (mix k ps m).length := by rw [zyk _ _ _ (by omega)]; exact hm
 rw [yaey _ m hl, yabm k ps m hm, yahq k ps m hm hl]
 unfold fl1
 rw [if_pos h]
theorem yane {k : Int} {ps : List St} {m : Nat} (hm : m < ps.length) (h : ¬ ps[m].at_ / 8 = k / 8) : mix k ps (m + 1) = mix k ps m := by
 have hl : m < (mix k ps m).length := by rw [zyk _ _ _ (by omega)]; exact hm
 rw [yabm k ps m hm]
 unfold fl1
 rw [if_neg h]
 have := yahq k ps m hm hl
 rw [← this, List.set_getElem_self]
set_option maxHeartbeats 4000000 in
theorem zwl (v : Value) (ws : List Int) (ps : List St) (k : Nat) (w : World) (h : RdPm w v ws ps) (hp : ps.length ≤ 1048576) (hk : k < 336) (hok : ∀ j (h : j < ps.length), 0 ≤ ps[j].at_ ∧ ps[j].at_ < 336) :
  Calls Tryz.prog 157 #[v, .int .i64 (k : Int)] w fun e w' => ∃ v', e = .returned v' ∧ RdPm w' v' ws (ps.map (fl1 (k : Int))) ∧ Below w.heap.size w w' := by
 obtain ⟨vW, vP, rfl, h1, h2⟩ := h
 have H1 := zaa h1
 have H2 := zaa h2
 have HOK := zaa hok
 obtain ⟨aW, cW, rfl, _⟩ := h1.shape
 obtain ⟨aP, cP, rfl, _⟩ := h2.shape
 clear h1 h2 hok
 have hb0 : Below w.heap.size w (((w.alloc (.cells #[.slice aW ws.length cW, .slice aP ps.length cP] 26)).alloc (.cells #[.slice none 0 0, .slice none 0 0] 26)).alloc (.cells #[] 108)) := by
  repeat (refine Below.alloc ?_ (by simp <;> omega) _)
  exact Below.refl _ _
 have ho0 : (((w.alloc (.cells #[.slice aW ws.length cW, .slice aP ps.length cP] 26)).alloc (.cells #[.slice none 0 0, .slice none 0 0] 26)).alloc (.cells #[] 108)).ownsRow (w.heap.size + 2) 108 3 (.slice (some ⟨w.heap.size + 1 + 1, 0, none⟩) 0 0) 0 [] := by
  simpa using World.ownsRow_lit (base := w.heap.size + 2) (e := 108) (size := 3) ((w.alloc (.cells #[.slice aW ws.length cW, .slice aP ps.length cP] 26)).alloc (.cells #[.slice none 0 0, .slice none 0 0] 26)) #[] 0 (by simp) (by simp) rfl
 have HO := zaa ho0
 have HB := zaa hb0
 clear ho0 hb0
 go_enter Tryz.func157, Tryz.ntmps157
 go_wp2_with (at_builtin; refine zae _ rfl (.tmp 6) (.tmp 8) 24 rfl (w.heap.size + 2) 108 (.agg #[.int .i64 0, .int .i64 0, .bool false]) 3 24 Tryz.underlying24 zqh rfl (by decide) _ 0 [] rfl HO.out _ ps.length (sts ps) rfl (Rd.below H2.out HB.out) (zsg ps) (by simp [maxLen]; omega) (by omega) (by simp) ?_)
 intro v1 w1 hown1 hgr1
 have hown1 : w1.ownsRow (w.heap.size + 2) 108 3 v1 ps.length (sts ps) := by simpa using hown1
 obtain ⟨a1, c1, rfl⟩ := RdS.form (zad hown1).rd rfl
 have hz1 : w.heap.size + 3 ≤ w1.heap.size := by have := hgr1.size; simp at this; omega
 have V0 := (hgr1.block w.heap.size (by simp <;> omega) (by simp [Value.ownBlock] <;> omega)).trans (zak (zak (zah rfl)))
 have V1 := (hgr1.block (w.heap.size + 1) (by simp <;> omega) (by simp [Value.ownBlock] <;> omega)).trans (zak (zah (by simp)))
 have B1 := HB.out.grown hgr1 (by simp <;> omega) (fun k hk => by simp [Value.ownBlock] at hk; omega)
 obtain ⟨x1, x2, x3, x4⟩ := zac V0
 have RH : Hid (Row (w1.setCell ⟨w.heap.size, 1, none⟩ (.slice a1 ps.length c1)) 108 3 (w.heap.size + 2) w1.heap.size (.slice a1 ps.length c1) ps.length (sts ps)) := (zad hown1).same (fun b h1 _ => Below.heap_setCell _ _ _ _ (by simp only; omega))
 have VH := zaa (And.intro (ztn V0 (.slice a1 ps.length c1)) ((Below.heap_setCell w1 ⟨w.heap.size, 1, none⟩ (.slice a1 ps.length c1) (w.heap.size + 1) (by simp)).trans V1))
 have BH := zaa (B1.setCell (p := ⟨w.heap.size, 1, none⟩) (Nat.le_refl _) (.slice a1 ps.length c1))
 clear hown1 hgr1 V0 V1 B1
 go_wp2
 go_loopw [5] (fun i wr => ∃ m : Nat, m ≤ ps.length ∧ i = .int .i64 m ∧ Row wr 108 3 (w.heap.size + 2) w1.heap.size (.slice a1 ps.length c1) ps.length (sts (mix (k : Int) ps m)) ∧ (wr.heap[w.heap.size]? = some (.cells #[.slice aW ws.length cW, .slice a1 ps.length c1] 26 (0, 0)) ∧ wr.heap[w.heap.size + 1]? = some (.cells #[.slice none 0 0, .slice none 0 0] 26 (0, 0))) ∧ Below w.heap.size w wr ∧ w1.heap.size ≤ wr.heap.size) (fun i _ => ps.length - (intOf i).toNat)
 case atStart => exact ⟨0, by omega, rfl, by rw [yamy]; exact RH.out, VH.out, BH.out, by simp⟩
 case round =>
  obtain ⟨m, hm, rfl, hrow, hv, hb, hz⟩ := hrel
  obtain ⟨y1, y2, y3, y4⟩ := zac hv.1
  by_cases hlt : m < ps.length
  ·have hl := zyk (k : Int) ps m hm
   obtain ⟨_, ao', cap', e', _, hc⟩ := hrow.rd
   cases e'
   obtain ⟨b, o, rfl, hbl, _⟩ := hc (by omega)
   obtain ⟨rfl, hb1, hb2, _, hfr, hcl⟩ := hrow.at
   have hml : m < (mix (k : Int) ps m).length := by omega
   have e0 := (hcl (m * 3) (by omega)).trans (zpc _ m hml)
   have e2 := (hcl (m * 3 + 2) (by omega)).trans (zya _ m hml)
   rw [yahq _ _ _ hlt hml] at e0 e2
   have f2 := hfr (m * 3 + 2)
   obtain ⟨q0, q1⟩ := HOK.out m hlt
   have ST := zaa (hrow.stored (m * 3 + 2) (.bool true))
   have BH2 := zaa (hb.setCell (p := ⟨b, m * 3 + 2, none⟩) (by simp only; omega) (.bool true))
   have VH2 := zaa (And.intro ((Below.heap_setCell wr ⟨b, m * 3 + 2, none⟩ (.bool true) w.heap.size (by simp only; omega)).trans hv.1) ((Below.heap_setCell wr ⟨b, m * 3 + 2, none⟩ (.bool true) (w.heap.size + 1) (by simp only; omega)).trans hv.2))
   have RM := zaa hrow
   have VM := zaa hv
   clear hrow hc hfr hcl hv hl
   by_cases c : ps[m].at_ / 8 = (k : Int) / 8
   ·have c' : (ps[m].at_ / 8 == (k : Int) / 8) = true := by simpa using c
    have E := zaa (yaqw hlt c)
    clear c
    go_wp2
    go_roundw
    case rel => exact ⟨m + 1, by omega, by go_num, E.out ▸ ST.out, VH2.out, BH2.out, by simp; omega⟩
    case measure => simp [intOf]; omega
   ·have c' : (ps[m].at_ / 8 == (k : Int) / 8) = false := by simpa using c
    have E := zaa (yane hlt c)
    clear c
    go_wp2
    go_roundw
    case rel => exact ⟨m + 1, by omega, by go_num, E.out ▸ RM.out, VM.out, hb, hz⟩
    case measure => simp [intOf]; omega
  ·have e : m = ps.length := by omega
   subst e
   obtain ⟨t1, t2, t3, t4⟩ := zac hv.2
   have RM := zaa hrow
   clear hrow hv
   go_wp2
   refine bodyPost_ret (v := .agg #[.slice aW ws.length cW, .slice a1 ps.length c1]) (by simp [results, Tryz.results157, go_sem, t1, t2]) rfl ?_
   have B3 := (hb.setCell (p := ⟨w.heap.size + 1, 0, none⟩) (by simp only; omega) (.slice aW ws.length cW)).setCell (p := ⟨w.heap.size + 1, 1, none⟩) (by simp only; omega) (.slice a1 ps.length c1)
   refine ⟨_, rfl, ⟨_, _, rfl, Rd.below H1.out B3, ?_⟩, B3⟩
   have R3 := (RM.out.same (w' := (wr.setCell ⟨w.heap.size + 1, 0, none⟩ (.slice aW ws.length cW)).setCell ⟨w.heap.size + 1, 1, none⟩ (.slice a1 ps.length c1)) (fun b h1 h2 => by rw [Below.heap_setCell _ _ _ _ (by simp only; omega), Below.heap_setCell _ _ _ _ (by simp only; omega)])).rd
   unfold RdS
   rw [yaqt] at R3
   rw [List.length_map]
   exact R3
def znl (ws : List Int) (ps : List St) : List Int := ps.foldl (fun acc p => if p.fl then acc.set p.at_.toNat p.val else acc) ws
def zly (ps : List St) : List St := ps.filter (fun p => !p.fl)
theorem zvl (ws : List Int) (ps : List St) (p : St) : znl ws (ps ++ [p]) = if p.fl then (znl ws ps).set p.at_.toNat p.val else znl ws ps := by simp [znl]
theorem zmm (ws : List Int) : ∀ ps : List St, (znl ws ps).length = ws.length := by
 intro ps
 unfold znl
 induction ps generalizing ws with
 | nil => rfl
 | cons p ps ih =>
  rw [List.foldl_cons, ih]
  split <;> simp
theorem ztu (ps : List St) (p : St) : zly (ps ++ [p]) = if p.fl then zly ps else zly ps ++ [p] := by
 unfold zly
 rw [List.filter_append]
 cases h : p.fl <;> simp [h]
theorem yaqd (ps : List St) : (zly ps).length ≤ ps.length := List.length_filter_le _ _
structure FenInv (w wr : World) (ws : List Int) (ps : List St) (lo hi : Nat) (vW vP vL : Value) (m : Nat) : Prop where
 words : Row wr 3 1 lo hi vW ws.length (zdd (znl ws (ps.take m)))
 left : wr.ownsRow hi 108 3 vL (zly (ps.take m)).length (sts (zly (ps.take m)))
 pend : Row wr 108 3 lo hi vP ps.length (sts ps)
 box : wr.heap[w.heap.size]? = some (.cells #[vW, vP] 26 (0, 0))
 res : wr.heap[w.heap.size + 1]? = some (.cells #[.slice none 0 0, .slice none 0 0] 26 (0, 0))
 below : Below w.heap.size w wr
 size : hi ≤ wr.heap.size
theorem FenInv.hit {w wr : World} {ws : List Int} {ps : List St} {lo hi : Nat} {b n cap : Nat} {vP vL : Value} {m : Nat} (h : FenInv w wr ws ps lo hi (.slice (some ⟨b, 0, none⟩) n cap) vP vL m) (hm : m < ps.length) (hf : ps[m].fl = true) (hlo : w.heap.size + 2 ≤ lo) (o : Obj) (hn : n = ws.length) :
  FenInv w ((wr.setCell ⟨b, ps[m].at_.toNat, none⟩ (.int .i64 ps[m].val)).alloc o) ws ps lo hi (.slice (some ⟨b, 0, none⟩) n cap) vP vL (m + 1) := by
 subst hn
 obtain ⟨h1, h2, h3, h4, h5, h6, h7⟩ := h
 obtain ⟨_, hb1, hb2, _⟩ := h1.at
 have e1 : znl ws (ps.take (m + 1)) = (znl ws (ps.take m)).set ps[m].at_.toNat ps[m].val := by rw [zgf ps m hm, zvl, if_pos hf]
 have e2 : zly (ps.take (m + 1)) = zly (ps.take m) := by rw [zgf ps m hm, ztu, if_pos hf]
 refine ⟨?_, ?_, ?_, ?_, ?_, ?_, ?_⟩
 ·rw [e1, ← zie]
  exact (h1.stored _ _).alloc (by simp; omega) o
 ·rw [e2]
  exact ((zad h2).same (w' := wr.setCell ⟨b, ps[m].at_.toNat, none⟩ (.int .i64 ps[m].val)) (fun k hk _ => Below.heap_setCell _ _ _ _ (by simp only; omega))).1.alloc o
 ·exact (h3.apart h1 (by decide) (World.ownsRow.stored h1.1 _ _).2).alloc (by simp; omega) o
 ·refine zak ?_
  rw [Below.heap_setCell _ _ _ _ (by simp only; omega)]; exact h4
 ·refine zak ?_
  rw [Below.heap_setCell _ _ _ _ (by simp only; omega)]; exact h5
 ·exact (h6.setCell (by simp only; omega) _).alloc (by simp; exact h6.size) o
 ·simp; omega
theorem FenInv.miss {w wr w' : World} {ws : List Int} {ps : List St} {lo hi : Nat} {vW vP vL vL' : Value} {m : Nat} (h : FenInv w wr ws ps lo hi vW vP vL m) (hm : m < ps.length) (hf : ps[m].fl = false) (hlo : w.heap.size + 2 ≤ lo) (hhi : lo ≤ hi) (o o' : Obj)
  (ho : w'.ownsRow hi 108 3 vL' ((zly (ps.take m)).length + 1) (sts (zly (ps.take m)) ++ St.cells ps[m])) (hg : ((wr.alloc o).alloc o').grownBy w' vL.ownBlock) : FenInv w w' ws ps lo hi vW vP vL' (m + 1) := by
 obtain ⟨h1, h2, h3, h4, h5, h6, h7⟩ := h
 have hl := fun k hk => (((h2.alloc o).alloc o').lt k hk).1
 have e1 : znl ws (ps.take (m + 1)) = znl ws (ps.take m) := by rw [zgf ps m hm, zvl, hf]; rfl
 have e2 : zly (ps.take (m + 1)) = zly (ps.take m) ++ [ps[m]] := by rw [zgf ps m hm, ztu, hf]; rfl
 have keep : ∀ k, k < hi → w'.heap[k]? = ((wr.alloc o).alloc o').heap[k]? := fun k hk => hg.block k (by simp; omega) (fun e => by have := hl k e.symm; omega)
 have l4 := (Array.getElem?_eq_some_iff.1 h4).1
 refine ⟨?_, ?_, ?_, ?_, ?_, ?_, ?_⟩
 ·rw [e1]
  exact ((h1.alloc h7 o).alloc (by simp; omega) o').same (fun k _ hk => keep k hk)
 ·rw [e2, List.length_append, zzt]; exact ho
 ·exact ((h3.alloc h7 o).alloc (by simp; omega) o').same (fun k _ hk => keep k hk)
 ·rw [keep _ (by omega)]; exact zak (zak h4)
 ·rw [keep _ (by omega)]; exact zak (zak h5)
 ·exact ((h6.alloc h6.size o).alloc (by simp; have := h6.size; omega) o').grown hg (by simp; have := h6.size; omega) (fun k hk => by have := hl k hk; omega)
 ·have := hg.size; simp at this; omega
set_option maxHeartbeats 4000000 in
theorem zve (v : Value) (ws : List Int) (ps : List St) (w : World) (h : RdPm w v ws ps) (hw : ws.length ≤ 1048576) (hp : ps.length ≤ 1048576) (hok : ∀ j (h : j < ps.length), 0 ≤ ps[j].at_ ∧ ps[j].at_ < ws.length) :
  Calls Tryz.prog 158 #[v] w fun e w' => ∃ v', e = .returned v' ∧ RowPm w' w.heap.size w'.heap.size v' (znl ws ps) (zly ps) ∧ Below w.heap.size w w' := by
 have HR := zaa h
 obtain ⟨vW, vP, rfl, h1, h2⟩ := h
 obtain ⟨aW, cW, rfl, _⟩ := h1.shape
 obtain ⟨aP, cP, rfl, _⟩ := h2.shape
 have HOK := zaa hok
 clear h1 h2 hok
 have hb0 : Below w.heap.size w ((w.alloc (.cells #[.slice aW ws.length cW, .slice aP ps.length cP] 26)).alloc (.cells #[.slice none 0 0, .slice none 0 0] 26)) := by
  repeat (refine Below.alloc ?_ (by simp <;> omega) _)
  exact Below.refl _ _
 go_enter Tryz.func158, Tryz.ntmps158
 go_wp2_with fail
 refine (zqw _ ws ps _ (HR.out.below hb0) (by omega) (by omega)).mono ?_
 rintro e w2 ⟨v2, rfl, hr2, hb2⟩
 obtain ⟨vW2, vP2, rfl, hI2, hS2⟩ := hr2
 obtain ⟨aW2, cW2, rfl⟩ := RdI.form hI2.rd rfl
 obtain ⟨aP2, cP2, rfl⟩ := RdS.form hS2.rd rfl
 simp only [World.size_alloc] at hI2 hS2
 have hz2 : w.heap.size + 2 ≤ w2.heap.size := by have := hb2.size; simp at this; omega
 have V0 := (hb2.block w.heap.size (by simp <;> omega)).trans (zak (zah rfl))
 have V1 := (hb2.block (w.heap.size + 1) (by simp)).trans (zah (by simp))
 have B2 := zab hb0 hb2 (by simp <;> omega)
 obtain ⟨x1, x2, x3, x4⟩ := zac V0
 have INV : Hid (FenInv w (((w2.setCell ⟨w.heap.size, 0, none⟩ (.slice aW2 ws.length cW2)).setCell ⟨w.heap.size, 1, none⟩ (.slice aP2 ps.length cP2)).alloc (.cells #[] 108)) ws ps (w.heap.size + 1 + 1) w2.heap.size (.slice aW2 ws.length cW2) (.slice aP2 ps.length cP2) (.slice (some ⟨w2.heap.size, 0, none⟩) 0 0) 0) := by
  refine ⟨?_, ?_, ?_, ?_, ?_, ?_, ?_⟩
  ·refine ((hI2.same fun b hb1 _ => ?_).alloc (by simp) _)
   rw [Below.heap_setCell _ _ _ _ (by simp only; omega), Below.heap_setCell _ _ _ _ (by simp only; omega)]
  ·have := World.ownsRow_lit (base := w2.heap.size) (e := 108) (size := 3) ((w2.setCell ⟨w.heap.size, 0, none⟩ (.slice aW2 ws.length cW2)).setCell ⟨w.heap.size, 1, none⟩ (.slice aP2 ps.length cP2)) #[] 0 (by simp) (by simp) rfl
   simpa [zly, sts] using this
  ·refine ((hS2.same fun b hb1 _ => ?_).alloc (by simp) _)
   rw [Below.heap_setCell _ _ _ _ (by simp only; omega), Below.heap_setCell _ _ _ _ (by simp only; omega)]
  ·exact zak (ztn (zmx V0 _) _)
  ·refine zak ?_
   rw [Below.heap_setCell _ _ _ _ (by simp only; omega), Below.heap_setCell _ _ _ _ (by simp only; omega)]
   exact V1
  ·exact ((B2.setCell (by simp only; omega) _).setCell (by simp only; omega) _).alloc (by simp; omega) _
  ·simp
 clear hb0 hb2 hI2 hS2 V0 V1 B2
 go_wp2
 go_loopw [3, 4, 5] (fun vL i _ wr => ∃ m : Nat, m ≤ ps.length ∧ i = .int .i64 m ∧ Hid (FenInv w wr ws ps (w.heap.size + 1 + 1) w2.heap.size (.slice aW2 ws.length cW2) (.slice aP2 ps.length cP2) vL m)) (fun _ i _ _ => ps.length - (intOf i).toNat)
 case atStart => exact ⟨0, by omega, rfl, INV⟩
 case round =>
  obtain ⟨m, hm, rfl, I⟩ := hrel
  obtain ⟨y1, y2, y3, y4⟩ := zac I.out.box
  by_cases hlt : m < ps.length
  ·obtain ⟨_, ao', cap', e', _, hc⟩ := I.out.pend.rd
   cases e'
   obtain ⟨b, o, rfl, hbl, _⟩ := hc (by omega)
   obtain ⟨rfl, _, _, _, hfr, hcl⟩ := I.out.pend.at
   have e0 := (hcl (m * 3) (by omega)).trans (zpc _ m hlt)
   have e1 := (hcl (m * 3 + 1) (by omega)).trans (yait _ m hlt)
   have e2 := (hcl (m * 3 + 2) (by omega)).trans (zya _ m hlt)
   obtain ⟨q0, q1⟩ := HOK.out m hlt
   have hsz := I.out.size
   clear hc hfr hcl
   cases hf : ps[m].fl
   ·rw [hf] at e2
    have ec : St.cells ⟨ps[m].at_, ps[m].val, false⟩ = St.cells ps[m] := by simp [St.cells, hf]
    have hr := yate (wr.alloc (.cells #[.int .i64 ps[m].at_, .int .i64 ps[m].val, .bool false] 108)) ps[m].at_ ps[m].val false
    simp only [World.size_alloc] at hr
    have HRD := zaa hr
    have HOW := zaa ((I.out.left.alloc (.cells #[.int .i64 ps[m].at_, .int .i64 ps[m].val, .bool false] 108)).alloc (.cells #[.int .i64 ps[m].at_, .int .i64 ps[m].val, .bool false] 108))
    have hfl := yaqd (ps.take m)
    rw [List.length_take] at hfl
    have EC := zaa ec
    have HF := zaa hf
    have HS := zaa hsz
    clear hr ec hf hsz
    go_wp2_with (at_builtin; refine zae _ rfl (.tmp 30) (.tmp 32) 24 rfl w2.heap.size 108 (.agg #[.int .i64 0, .int .i64 0, .bool false]) 3 24 Tryz.underlying24 zqh rfl (by decide) _ _ _ rfl HOW.out _ 1 (St.cells ⟨ps[m].at_, ps[m].val, false⟩) rfl HRD.out (yafx _) (by simp [maxLen]; omega) (by omega) (by have := HS.out; simp; omega) ?_)
    intro vN wN hownN hgrN
    have I1 := zaa (I.out.miss hlt HF.out (Nat.le_refl _) hz2 _ _ (by rw [← EC.out]; exact hownN) hgrN)
    clear hownN hgrN
    go_wp2
    go_roundw
    case rel => exact ⟨m + 1, by omega, by go_num, I1⟩
    case measure => simp [intOf]; omega
   ·rw [hf] at e2
    obtain ⟨_, aw', cw', ew', _, hcw⟩ := I.out.words.rd
    cases ew'
    obtain ⟨bw, ow, rfl, hblw, _⟩ := hcw (by omega)
    obtain ⟨rfl, _, _, _, hfrw, hclw⟩ := (I.out.words.alloc hsz (.cells #[.int .i64 ps[m].at_, .int .i64 ps[m].val, .bool true] 108)).at
    have hj : ps[m].at_.toNat < (znl ws (ps.take m)).length := by rw [zmm]; omega
    have g0 := hfrw ps[m].at_.toNat
    have g1 := (hclw ps[m].at_.toNat (by omega)).trans (zct _ _ hj)
    have I1 := zaa (I.out.hit hlt hf (Nat.le_refl _) (.cells #[.int .i64 ps[m].at_, .int .i64 ps[m].val, .bool true] 108) rfl)
    obtain ⟨z1, z2, _, _⟩ := zac (zak (o := .cells #[.int .i64 ps[m].at_, .int .i64 ps[m].val, .bool true] 108) I.out.box)
    clear hcw hfrw hclw
    go_wp2
    go_roundw
    case rel => exact ⟨m + 1, by omega, by go_num, I1⟩
    case measure => simp [intOf]; omega
  ·have e : m = ps.length := by omega
   subst e
   obtain ⟨aL, cL, hvL⟩ := RdS.form (zad I.out.left).rd (n := (zly ps).length) (by rw [List.take_length])
   subst hvL
   obtain ⟨t1, t2, t3, t4⟩ := zac I.out.res
   have hsz := I.out.size
   go_wp2
   have I2 := I.out
   refine bodyPost_ret (v := .agg #[.slice aW2 ws.length cW2, .slice aL (zly ps).length cL]) (by simp [results, Tryz.results158, go_sem, t1, t2]) rfl ?_
   refine ⟨_, rfl, ⟨_, _, rfl, ?_, ?_⟩, ((I2.below.setCell (by simp only; omega) _).setCell (by simp only; omega) _).setCell (by simp only; omega) _⟩
   ·rw [zmm]
    have := I2.words
    rw [List.take_length] at this
    refine (this.same fun b h1 h2 => ?_).wide (by omega) (by simp; omega)
    rw [Below.heap_setCell _ _ _ _ (by simp only; omega), Below.heap_setCell _ _ _ _ (by simp only; omega), Below.heap_setCell _ _ _ _ (by simp only; omega)]
   ·have := zad I2.left
    rw [List.take_length] at this
    refine (this.same fun b h1 h2 => ?_).wide (by omega) (by simp)
    rw [Below.heap_setCell _ _ _ _ (by simp only; omega), Below.heap_setCell _ _ _ _ (by simp only; omega), Below.heap_setCell _ _ _ _ (by simp only; omega)]
end Go.Proofs.YtpakbbdlhlkogaaGreatDoor

namespace Go.Proofs.YtpakbbdlhlkogaaGreatDoor
open Go.ChangeShapes Go.WideShapes Go.ChangeAt Go.RowKit Go.Joins
theorem own : ownKnob Tryz.prog.godebug = none := by kernel_rfl
theorem zov : laidOutB Tryz.prog = true := by kernel_rfl
theorem yaaf : Tryz.prog.cellsOf 3 = 1 := by kernel_rfl
section
variable {H : Type} {enc : TypeId × Value → H} {W : World} {sp : Nat → Bool} {held : Bool} {fuel : Nat} {v : Value} {y : DataW H × List MemPlace}
end
end Go.Proofs.YtpakbbdlhlkogaaGreatDoor

namespace Go.Proofs.YtpakbbdlhlkogaaGreatDoor
open Go.ChangeShapes Go.WideShapes Go.ChangeAt Go.RowKit Go.Joins
theorem Below.drewN'' {B : Nat} {a w : World} (h : Below B a w) (n : Nat) : Below B a (w.drewN n) := by
 induction n with
 | zero => exact h
 | succ n ih => exact ⟨ih.os, ih.tape, ih.output, ih.size, ih.block⟩
def atX (bs : List Int) (i : Int) : Int := bs[(i % (bs.length : Int)).toNat]?.getD 0
def atV (bs : List Int) (i n : Int) : Int := if bs.length = 0 then i * 7 % n else (atX bs i * 31 + atX bs (i + 1) + i / (bs.length : Int)) % n
theorem yatp (bs : List Int) (i n : Int) (h : 2 ≤ n) : 0 ≤ atV bs i n ∧ atV bs i n < n := by
 unfold atV
 split
 ·exact ⟨Int.emod_nonneg _ (by omega), Int.emod_lt_of_pos _ (by omega)⟩
 ·exact ⟨Int.emod_nonneg _ (by omega), Int.emod_lt_of_pos _ (by omega)⟩
set_option maxRecDepth 100000 in
set_option maxHeartbeats 8000000 in
theorem yamk (v : Value) (bs : List Int) (i n : Int) (w : World) (h : RdB w v bs) (hl : bs.length ≤ 1048576) (h0 : 0 ≤ i) (h1 : i ≤ 9) (hn : 2 ≤ n) (hn2 : n ≤ 100000) :
  Calls Tryz.prog 16 #[v, .int .i64 i, .int .i64 n] w fun e w' => e = .returned (.int .i64 (atV bs i n)) ∧ Below w.heap.size w w' := by
 obtain ⟨aC, cC, rfl, _, hc⟩ := h.shape
 by_cases c : bs.length = 0
 ·have c' : ((bs.length : Int) == 0) = true := by simp [c]
  have E := zaa (show atV bs i n = i * 7 % n by unfold atV; rw [if_pos c])
  clear hc
  go_enter Tryz.func16, Tryz.ntmps16
  go_wp2
  go_ret
  exact ⟨zcf (by rw [E.out]), Below.refl _ _⟩
 ·obtain ⟨b, o, rfl, hb, hc⟩ := hc (by omega)
  have l0 : (0 : Int) < (bs.length : Int) := by omega
  have i0 := Int.emod_nonneg i (b := (bs.length : Int)) (by omega)
  have i1 := Int.emod_lt_of_pos i l0
  have j0 := Int.emod_nonneg (i + 1) (b := (bs.length : Int)) (by omega)
  have j1 := Int.emod_lt_of_pos (i + 1) l0
  have x0 := hc (i % (bs.length : Int)).toNat (by omega)
  have y0 := hc ((i + 1) % (bs.length : Int)).toNat (by omega)
  have bx := h.2 (i % (bs.length : Int)).toNat (by omega)
  have byy := h.2 ((i + 1) % (bs.length : Int)).toNat (by omega)
  have d0 : 0 ≤ i / (bs.length : Int) := Int.ediv_nonneg h0 (by omega)
  have d1 : i / (bs.length : Int) ≤ 9 := Int.le_trans (Int.ediv_le_self _ h0) h1
  have c' : ((bs.length : Int) == 0) = false := by simpa using c
  have ex : atX bs i = bs[(i % (bs.length : Int)).toNat] := by unfold atX; rw [List.getElem?_eq_getElem (by omega)]; rfl
  have ey : atX bs (i + 1) = bs[((i + 1) % (bs.length : Int)).toNat] := by unfold atX; rw [List.getElem?_eq_getElem (by omega)]; rfl
  have E := zaa (show atV bs i n = (bs[(i % (bs.length : Int)).toNat] * 31 + bs[((i + 1) % (bs.length : Int)).toNat] + i / (bs.length : Int)) % n by unfold atV; rw [if_neg c, ex, ey])
  clear hc ex ey
  generalize bs[(i % (bs.length : Int)).toNat] = x at *
  generalize bs[((i + 1) % (bs.length : Int)).toNat] = y at *
  go_enter Tryz.func16, Tryz.ntmps16
  go_wp2
  go_quiet (fail)
  go_wp2
  go_ret
  exact ⟨zcf (by rw [E.out]), Below.drewN'' (Below.refl _ _) _⟩
theorem yaup : Tryz.prog.cellsOf 5 = 1 := by kernel_rfl
section
variable {H : Type} {enc : TypeId × Value → H} {W : World} {sp : Nat → Bool} {held : Bool} {fuel : Nat} {v : Value} {y : DataW H × List MemPlace}
theorem yawn {z : Int} (h : (Lit.int .u8 z).wf = true) : 0 ≤ z ∧ z < 256 := by
 have h1 : IntKind.u8.min ≤ z ∧ z ≤ IntKind.u8.max := by simpa [Lit.wf] using h
 have a : IntKind.u8.min = 0 := by rfl
 have b : IntKind.u8.max = 255 := by rfl
 omega
theorem yabc (h : DataW.trod enc Tryz.prog W 0 sp held fuel 22 [v] = some y) : ∃ zs : List Int, RdB W v zs ∧ zs.length ≤ maxLen := by
 rcases open_ints Tryz.underlying22 Tryz.underlying5 yaup h with ⟨hcs, _⟩ | ⟨a, len, cap, zs, hcs, _, hl, hm, hz, _, hcell, hwz⟩
 ·simp only [List.cons.injEq, and_true] at hcs
  subst hcs
  exact ⟨[], ⟨⟨rfl, none, 0, rfl, ⟨Nat.le_refl _, fun _ => rfl⟩, fun h => absurd h (by simp)⟩, fun k hk => by simp at hk⟩, by simp⟩
 ·simp only [List.cons.injEq, and_true] at hcs
  subst hcs
  have hzl : len ≤ zs.length := by rw [hz]; split <;> omega
  have e : (zs.take len).length = len := by simp; omega
  refine ⟨zs.take len, ⟨⟨by simp [bys], some a, cap, by rw [e], ⟨by rw [e]; exact hl, fun e => by cases e⟩, fun hn => ?_⟩, fun k hk => yawn (hwz _ (List.mem_of_mem_take (List.getElem_mem hk)))⟩, by rw [e]; omega⟩
  rw [e] at hn
  obtain ⟨b, off, spot⟩ := a
  have hc := hcell 0 (by omega)
  have hspot : spot = none := by simpa [Addr.add] using World.cell?_spot hc
  subst hspot
  refine ⟨b, off, rfl, World.block_lt_of_cell? W _ (by simpa [Addr.add] using hc), fun j hj => ?_⟩
  rw [e] at hj
  have hc := hcell j (by omega)
  rw [Addr.add_lit] at hc
  rw [hc, yapr _ j (by rw [e]; omega)]
  simp [List.getD, show j < zs.length by omega]
end
end Go.Proofs.YtpakbbdlhlkogaaGreatDoor
