/- Several texts laid together: PmOwn, PmCopy, PmStore, PmFlush. -/
import Derived.Test.YtbbmljakfbhnpaaGreatDoorZAQ
import Derived.Deep.RegionLaw
namespace Go.Proofs.YtbbmljakfbhnpaaGreatDoor
open Go.RowKit


set_option maxHeartbeats 2000000 in
theorem zpe (v : Value) (ws : List Int) (ps : List St) (w : World) (h : RdPm w v ws ps) (hw : ws.length ≤ 2147483648) (hp : ps.length ≤ 2147483648) :
  Calls Tryz.prog 193 #[v] w fun e w' => ∃ v', e = .returned v' ∧ RowPm w' w.heap.size w'.heap.size v' ws ps ∧ Below w.heap.size w w' := by
 obtain ⟨vW, vP, rfl, h1, h2⟩ := h
 have H1 := zaa h1
 have H2 := zaa h2
 obtain ⟨aW, cW, rfl, _⟩ := h1.shape
 obtain ⟨aP, cP, rfl, _⟩ := h2.shape
 clear h1 h2
 have hb0 : Below w.heap.size w (((w.alloc (.cells #[.slice aW ws.length cW, .slice aP ps.length cP] 31)).alloc (.cells #[.slice none 0 0, .slice none 0 0] 31)).alloc (.cells #[] 3)) := by
  repeat (refine Below.alloc ?_ (by simp <;> omega) _)
  exact Below.refl _ _
 have ho0 : (((w.alloc (.cells #[.slice aW ws.length cW, .slice aP ps.length cP] 31)).alloc (.cells #[.slice none 0 0, .slice none 0 0] 31)).alloc (.cells #[] 3)).ownsRow (w.heap.size + 2) 3 1 (.slice (some ⟨w.heap.size + 1 + 1, 0, none⟩) 0 0) 0 [] := by
  simpa using World.ownsRow_lit (base := w.heap.size + 2) (e := 3) (size := 1) ((w.alloc (.cells #[.slice aW ws.length cW, .slice aP ps.length cP] 31)).alloc (.cells #[.slice none 0 0, .slice none 0 0] 31)) #[] 0 (by simp) (by simp) rfl
 have HO := zaa ho0
 have HB := zaa hb0
 clear ho0 hb0
 go_enter Tryz.func193, Tryz.ntmps193
 go_wp2_with (at_builtin; refine zae _ rfl (.tmp 3) (.tmp 5) 28 rfl (w.heap.size + 2) 3 (.int .i64 0) 1 8 Tryz.underlying28 zjk rfl (by decide) _ 0 [] rfl HO.out _ ws.length (zco ws) rfl (Rd.below H1.out HB.out) (zev ws) (by simp [maxLen]; omega) (by omega) (by simp) ?_)
 intro v1 w1 hown1 hgr1
 have hown1 : w1.ownsRow (w.heap.size + 2) 3 1 v1 ws.length (zco ws) := by simpa using hown1
 have R1 := zaa (zac hown1)
 obtain ⟨_, a1, c1, rfl, _⟩ := (zac hown1).rd
 have hz1 : w.heap.size + 3 ≤ w1.heap.size := by have := hgr1.size; simp at this; omega
 have V0 := (hgr1.block w.heap.size (by simp <;> omega) (by simp [Value.ownBlock] <;> omega)).trans (zaj (zaj (zag rfl)))
 have V1 := (hgr1.block (w.heap.size + 1) (by simp <;> omega) (by simp [Value.ownBlock] <;> omega)).trans (zaj (zag (by simp)))
 have B1 := HB.out.grown hgr1 (by simp <;> omega) (fun k hk => by simp [Value.ownBlock] at hk; omega)
 have V0' := zaj (o := .cells #[] 136) (zlm V0 (.slice a1 ws.length c1))
 have V1' := zaj (o := .cells #[] 136) ((Below.heap_setCell w1 ⟨w.heap.size, 0, none⟩ (.slice a1 ws.length c1) (w.heap.size + 1) (by simp)).trans V1)
 obtain ⟨x1, x2, x3, x4⟩ := zad V0
 obtain ⟨x5, x6, x7, x8⟩ := zad V0'
 have HV := zaa (And.intro V0' V1')
 have hB2 := (B1.setCell (p := ⟨w.heap.size, 0, none⟩) (Nat.le_refl _) (.slice a1 ws.length c1)).alloc (by simp; omega) (.cells #[] 136)
 have ho2 : ((w1.setCell ⟨w.heap.size, 0, none⟩ (.slice a1 ws.length c1)).alloc (.cells #[] 136)).ownsRow w1.heap.size 136 3 (.slice (some ⟨w1.heap.size, 0, none⟩) 0 0) 0 [] := by
  simpa using World.ownsRow_lit (base := w1.heap.size) (e := 136) (size := 3) (w1.setCell ⟨w.heap.size, 0, none⟩ (.slice a1 ws.length c1)) #[] 0 (by simp) (by simp) rfl
 have HB2 := zaa hB2
 have HO2 := zaa ho2
 clear hown1 hgr1 V0 V1 B1 V0' V1' hB2 ho2
 go_wp2_with (at_builtin; refine zae _ rfl (.tmp 8) (.tmp 10) 29 rfl w1.heap.size 136 (.agg #[.int .i64 0, .int .i64 0, .bool false]) 3 24 Tryz.underlying29 zsr rfl (by decide) _ 0 [] rfl HO2.out _ ps.length (sts ps) rfl (Rd.below H2.out HB2.out) (zwc ps) (by simp [maxLen]; omega) (by omega) (by simp) ?_)
 intro v2 w2 hown2 hgr2
 have hown2 : w2.ownsRow w1.heap.size 136 3 v2 ps.length (sts ps) := by simpa using hown2
 have R2 := zaa (zac hown2)
 obtain ⟨_, a2, c2, rfl, _⟩ := (zac hown2).rd
 have hz2 : w1.heap.size + 1 ≤ w2.heap.size := by have := hgr2.size; simp at this; omega
 have V0 := (hgr2.block w.heap.size (by simp <;> omega) (by simp [Value.ownBlock]; omega)).trans HV.out.1
 have V1 := (hgr2.block (w.heap.size + 1) (by simp <;> omega) (by simp [Value.ownBlock]; omega)).trans HV.out.2
 have B2 := zaa (HB2.out.grown hgr2 (by simp <;> omega) (fun k hk => by simp [Value.ownBlock] at hk; omega))
 have K2 : Hid (∀ b, w.heap.size + 2 ≤ b → b < w1.heap.size → w2.heap[b]? = w1.heap[b]?) := by
  intro b h1 h2
  rw [hgr2.block b (by simp <;> omega) (by simp [Value.ownBlock]; omega), zee, if_neg (by simp; omega), Below.heap_setCell _ _ _ _ (by simp only; omega)]
 obtain ⟨z1, z2, z3, z4⟩ := zad V0
 obtain ⟨t1, t2, t3, t4⟩ := zad V1
 clear hown2 hgr2 V0 V1
 go_wp2
 refine bodyPost_ret (v := .agg #[.slice a1 ws.length c1, .slice a2 ps.length c2]) (by simp [results, Tryz.results193, go_sem, t1, t2]) rfl ?_
 refine ⟨_, rfl, ⟨_, _, rfl, (R1.out.same fun b h1 h2 => ?_).wide (by omega) (by simp; omega), (R2.out.same fun b h1 h2 => ?_).wide (by omega) (by simp)⟩, ?_⟩
 ·rw [Below.heap_setCell _ _ _ _ (by simp only; omega), Below.heap_setCell _ _ _ _ (by simp only; omega), Below.heap_setCell _ _ _ _ (by simp only; omega), K2.out b h1 h2]
 ·rw [Below.heap_setCell _ _ _ _ (by simp only; omega), Below.heap_setCell _ _ _ _ (by simp only; omega), Below.heap_setCell _ _ _ _ (by simp only; omega)]
 ·exact ((B2.out.setCell (by simp only; omega) _).setCell (by simp only; omega) _).setCell (by simp only; omega) _
end Go.Proofs.YtbbmljakfbhnpaaGreatDoor

namespace Go.Proofs.YtbbmljakfbhnpaaGreatDoor
open Go.RowKit

/-- In the midst of a copy: what was there is as it was; the argument's box and the answer's variable. -/
def CopyInv (w a : World) (x y : Value) : Prop := Below w.heap.size w a ∧ a.heap[w.heap.size]? = some (.cells #[x, y] 31 (0, 0)) ∧ a.heap[w.heap.size + 1]? = some (.cells #[.slice none 0 0, .slice none 0 0] 31 (0, 0))
theorem CopyInv.grown {w a b : World} {x y : Value} (h : CopyInv w a x y) (hg : a.grownBy b none) : CopyInv w b x y := by
 obtain ⟨h1, h2, h3⟩ := h
 have l2 := (Array.getElem?_eq_some_iff.1 h2).1
 have l3 := (Array.getElem?_eq_some_iff.1 h3).1
 exact ⟨h1.grown hg h1.size (fun k hk => by cases hk), (hg.block _ l2 (by simp)).trans h2, (hg.block _ l3 (by simp)).trans h3⟩
theorem CopyInv.rd {w a : World} {x y : Value} (h : CopyInv w a x y) {size : Nat} {v : Value} {n : Nat} {xs : List Value} (hr : Rd w size v n xs) : Rd a size v n xs := hr.below h.1
theorem CopyInv.base {w a : World} {x y : Value} (h : CopyInv w a x y) : w.heap.size + 2 ≤ a.heap.size := (Array.getElem?_eq_some_iff.1 h.2.2).1
end Go.Proofs.YtbbmljakfbhnpaaGreatDoor

namespace Go.Proofs.YtbbmljakfbhnpaaGreatDoor
open Go.RowKit



set_option maxHeartbeats 4000000 in
theorem zst (v : Value) (ws : List Int) (ps : List St) (at_ x : Int) (w : World) (h : RdPm w v ws ps) (hp : ps.length ≤ 1048576) :
  Calls Tryz.prog 209 #[v, .int .i64 at_, .int .i64 x] w fun e w' => ∃ v', e = .returned v' ∧ RdPm w' v' ws (ps ++ [⟨at_, x, false⟩]) ∧ Below w.heap.size w w' := by
 obtain ⟨vW, vP, rfl, h1, h2⟩ := h
 have H1 := zaa h1
 have H2 := zaa h2
 obtain ⟨aW, cW, rfl, _⟩ := h1.shape
 obtain ⟨aP, cP, rfl, _⟩ := h2.shape
 clear h1 h2
 have hb0 : Below w.heap.size w (((w.alloc (.cells #[.slice aW ws.length cW, .slice aP ps.length cP] 31)).alloc (.cells #[.slice none 0 0, .slice none 0 0] 31)).alloc (.cells #[] 136)) := by
  repeat (refine Below.alloc ?_ (by simp <;> omega) _)
  exact Below.refl _ _
 have ho0 : (((w.alloc (.cells #[.slice aW ws.length cW, .slice aP ps.length cP] 31)).alloc (.cells #[.slice none 0 0, .slice none 0 0] 31)).alloc (.cells #[] 136)).ownsRow (w.heap.size + 2) 136 3 (.slice (some ⟨w.heap.size + 1 + 1, 0, none⟩) 0 0) 0 [] := by
  simpa using World.ownsRow_lit (base := w.heap.size + 2) (e := 136) (size := 3) ((w.alloc (.cells #[.slice aW ws.length cW, .slice aP ps.length cP] 31)).alloc (.cells #[.slice none 0 0, .slice none 0 0] 31)) #[] 0 (by simp) (by simp) rfl
 have HO := zaa ho0
 have HB := zaa hb0
 clear ho0 hb0
 go_enter Tryz.func209, Tryz.ntmps209
 go_wp2_with (at_builtin; refine zae _ rfl (.tmp 7) (.tmp 9) 29 rfl (w.heap.size + 2) 136 (.agg #[.int .i64 0, .int .i64 0, .bool false]) 3 24 Tryz.underlying29 zsr rfl (by decide) _ 0 [] rfl HO.out _ ps.length (sts ps) rfl (Rd.below H2.out HB.out) (zwc ps) (by simp [maxLen]; omega) (by omega) (by simp) ?_)
 intro v1 w1 hown1 hgr1
 have hown1 : w1.ownsRow (w.heap.size + 2) 136 3 v1 ps.length (sts ps) := by simpa using hown1
 have hz1 : w.heap.size + 3 ≤ w1.heap.size := by have := hgr1.size; simp at this; omega
 have V0 := (hgr1.block w.heap.size (by simp <;> omega) (by simp [Value.ownBlock] <;> omega)).trans (zaj (zaj (zag rfl)))
 have V1 := (hgr1.block (w.heap.size + 1) (by simp <;> omega) (by simp [Value.ownBlock] <;> omega)).trans (zaj (zag (by simp)))
 have B1 := HB.out.grown hgr1 (by simp <;> omega) (fun k hk => by simp [Value.ownBlock] at hk; omega)
 have hB2 := B1.alloc (by omega) (.cells #[.int .i64 at_, .int .i64 x, .bool false] 136)
 have V0' := zaj (o := .cells #[.int .i64 at_, .int .i64 x, .bool false] 136) V0
 have V1' := zaj (o := .cells #[.int .i64 at_, .int .i64 x, .bool false] 136) V1
 have ho2 := hown1.alloc (.cells #[.int .i64 at_, .int .i64 x, .bool false] 136)
 have hr2 : Rd (w1.alloc (.cells #[.int .i64 at_, .int .i64 x, .bool false] 136)) 3 (.slice (some ⟨w1.heap.size, 0, none⟩) 1 1) 1 (St.cells ⟨at_, x, false⟩) := by
  refine ⟨rfl, _, _, rfl, ⟨Nat.le_refl _, fun e => by cases e⟩, fun _ => ⟨w1.heap.size, 0, rfl, by simp, fun j hj => ?_⟩⟩
  obtain ⟨e0, e1, e2⟩ := zba (zag (w := w1) (o := .cells #[.int .i64 at_, .int .i64 x, .bool false] 136) rfl)
  rw [Nat.zero_add]
  rcases (show j = 0 ∨ j = 1 ∨ j = 2 from by omega) with rfl | rfl | rfl
  ·exact e0
  ·exact e1
  ·exact e2
 have HV := zaa (And.intro V0' V1')
 have HB2 := zaa hB2
 have HO2 := zaa ho2
 have HR2 := zaa hr2
 clear hown1 hgr1 V0 V1 B1 V0' V1' hB2 ho2 hr2
 go_wp2_with (at_builtin; refine zae _ rfl (.tmp 10) (.tmp 14) 29 rfl (w.heap.size + 2) 136 (.agg #[.int .i64 0, .int .i64 0, .bool false]) 3 24 Tryz.underlying29 zsr rfl (by decide) _ ps.length (sts ps) rfl HO2.out _ 1 (St.cells ⟨at_, x, false⟩) rfl HR2.out (fun u hu => by simp [St.cells] at hu; rcases hu with rfl | rfl | rfl <;> rfl) (by simp [maxLen]; omega) (by omega) (by simp; omega) ?_)
 intro v2 w2 hown2 hgr2
 have hr3 : RdS w2 v2 (ps ++ [⟨at_, x, false⟩]) := by
  have := (zac hown2).rd
  unfold RdS
  rw [sts_snoc, List.length_append]
  exact this
 have L3 := zaa (fun k hk => (hown2.lt k hk).1)
 have R3 : Hid (RdS w2 v2 (ps ++ [⟨at_, x, false⟩])) := hr3
 obtain ⟨_, a2, c2, e2, _⟩ := hr3
 simp only [List.length_append, List.length_singleton] at e2
 subst e2
 have hz2 : w1.heap.size + 1 ≤ w2.heap.size := by have := hgr2.size; simp at this; omega
 have hne : ∀ b, b < w.heap.size + 2 → ¬ some b = Value.ownBlock v1 := by
  intro b hb e
  have := (HO2.out.lt b e.symm).1
  omega
 have V0 := (hgr2.block w.heap.size (by simp <;> omega) (hne _ (by omega))).trans HV.out.1
 have V1 := (hgr2.block (w.heap.size + 1) (by simp <;> omega) (hne _ (by omega))).trans HV.out.2
 have B2 := zaa (HB2.out.grown hgr2 (by simp <;> omega) (fun k hk => by have := (HO2.out.lt k hk).1; omega))
 obtain ⟨z1, z2, z3, z4⟩ := zad V0
 obtain ⟨t1, t2, t3, t4⟩ := zad V1
 clear hown2 hgr2 V0 V1
 go_wp2
 refine bodyPost_ret (v := .agg #[.slice aW ws.length cW, .slice a2 (ps.length + 1) c2]) (by simp [results, Tryz.results209, go_sem, t1, t2]) rfl ?_
 have B3 := ((B2.out.setCell (p := ⟨w.heap.size, 1, none⟩) (Nat.le_refl _) (.slice a2 (ps.length + 1) c2)).setCell (p := ⟨w.heap.size + 1, 0, none⟩) (by simp only; omega) (.slice aW ws.length cW)).setCell (p := ⟨w.heap.size + 1, 1, none⟩) (by simp only; omega) (.slice a2 (ps.length + 1) c2)
 refine ⟨_, rfl, ⟨_, _, rfl, Rd.below H1.out B3, Rd.same R3.out (by simp) (fun b _ hb => ?_)⟩, B3⟩
 have := L3.out b hb
 rw [Below.heap_setCell _ _ _ _ (by simp only; omega), Below.heap_setCell _ _ _ _ (by simp only; omega), Below.heap_setCell _ _ _ _ (by simp only; omega)]


end Go.Proofs.YtbbmljakfbhnpaaGreatDoor

namespace Go.Proofs.YtbbmljakfbhnpaaGreatDoor
open Go.RowKit

theorem sts_get (l : List St) (j : Nat) (hj : j / 3 < l.length) : (sts l)[j]? = (l[j / 3]).cells[j % 3]? := by
 have := zbk St.cells 3 St.cells_len l (j / 3) (j % 3) hj (Nat.mod_lt _ (by decide))
 rw [show j / 3 * 3 + j % 3 = j from by omega] at this
 exact this
/-- A flag laid. -/
theorem sts_setfl (l : List St) (m : Nat) (hm : m < l.length) (b : Bool) : (sts l).set (m * 3 + 2) (.bool b) = sts (l.set m ⟨l[m].at_, l[m].val, b⟩) := by
 apply List.ext_getElem?
 intro j
 by_cases hj : j < l.length * 3
 ·have h3 : j / 3 < l.length := by omega
  have h3' : j / 3 < (l.set m ⟨l[m].at_, l[m].val, b⟩).length := by simpa using h3
  rw [zpd (by rw [zuw]; exact hj), sts_get _ j h3', sts_get l j h3, List.getElem_set]
  by_cases e : m = j / 3
  ·rw [if_pos e]
   subst e
   rcases (show j % 3 = 0 ∨ j % 3 = 1 ∨ j % 3 = 2 from by omega) with r | r | r
   ·rw [if_neg (by omega), r]; rfl
   ·rw [if_neg (by omega), r]; rfl
   ·rw [if_pos (by omega), r]; rfl
  ·rw [if_neg e, if_neg (by omega)]
 ·rw [List.getElem?_eq_none (by rw [List.length_set, zuw]; omega), List.getElem?_eq_none (by rw [zuw, List.length_set]; omega)]

/-- A store of the line is flushed; any other is as it was. -/
def fl1 (k : Int) (p : St) : St := if p.at_ / 8 = k / 8 then ⟨p.at_, p.val, true⟩ else p
def mix (k : Int) (ps : List St) (m : Nat) : List St := (ps.take m).map (fl1 k) ++ ps.drop m
theorem zws (k : Int) (ps : List St) (m : Nat) (hm : m ≤ ps.length) : (mix k ps m).length = ps.length := by simp [mix]; omega
theorem mix_zero (k : Int) (ps : List St) : mix k ps 0 = ps := by simp [mix]
theorem mix_all (k : Int) (ps : List St) : mix k ps ps.length = ps.map (fl1 k) := by simp [mix]
theorem mix_at (k : Int) (ps : List St) (m : Nat) (hm : m < ps.length) (h : m < (mix k ps m).length) : (mix k ps m)[m] = ps[m] := by
 have e : (mix k ps m)[m]? = ps[m]? := by
  unfold mix
  rw [List.getElem?_append_right (by rw [List.length_map, List.length_take]; omega)]
  simp [Nat.min_eq_left (Nat.le_of_lt hm)]
 rw [List.getElem?_eq_getElem h, List.getElem?_eq_getElem hm] at e
 exact Option.some.inj e
theorem mix_succ (k : Int) (ps : List St) (m : Nat) (hm : m < ps.length) : mix k ps (m + 1) = (mix k ps m).set m (fl1 k ps[m]) := by
 unfold mix
 rw [List.take_succ_eq_append_getElem hm, List.map_append, List.set_append_right _ _ (by rw [List.length_map, List.length_take]; omega)]
 simp only [List.map_cons, List.map_nil, List.length_map, List.length_take, Nat.min_eq_left (Nat.le_of_lt hm), Nat.sub_self]
 rw [List.drop_eq_getElem_cons hm, List.set_cons_zero, List.append_assoc]
 rfl
theorem mix_hit {k : Int} {ps : List St} {m : Nat} (hm : m < ps.length) (h : ps[m].at_ / 8 = k / 8) : (sts (mix k ps m)).set (m * 3 + 2) (.bool true) = sts (mix k ps (m + 1)) := by
 have hl : m < (mix k ps m).length := by rw [zws _ _ _ (by omega)]; exact hm
 rw [sts_setfl _ m hl, mix_succ k ps m hm, mix_at k ps m hm hl]
 unfold fl1
 rw [if_pos h]
theorem mix_miss {k : Int} {ps : List St} {m : Nat} (hm : m < ps.length) (h : ¬ ps[m].at_ / 8 = k / 8) : mix k ps (m + 1) = mix k ps m := by
 have hl : m < (mix k ps m).length := by rw [zws _ _ _ (by omega)]; exact hm
 rw [mix_succ k ps m hm]
 unfold fl1
 rw [if_neg h]
 have := mix_at k ps m hm hl
 rw [← this, List.set_getElem_self]

set_option maxHeartbeats 4000000 in
theorem ztu (v : Value) (ws : List Int) (ps : List St) (k : Nat) (w : World) (h : RdPm w v ws ps) (hp : ps.length ≤ 1048576) (hk : k < 336) (hok : ∀ j (h : j < ps.length), 0 ≤ ps[j].at_ ∧ ps[j].at_ < 336) :
  Calls Tryz.prog 210 #[v, .int .i64 (k : Int)] w fun e w' => ∃ v', e = .returned v' ∧ RdPm w' v' ws (ps.map (fl1 (k : Int))) ∧ Below w.heap.size w w' := by
 obtain ⟨vW, vP, rfl, h1, h2⟩ := h
 have H1 := zaa h1
 have H2 := zaa h2
 have HOK := zaa hok
 obtain ⟨aW, cW, rfl, _⟩ := h1.shape
 obtain ⟨aP, cP, rfl, _⟩ := h2.shape
 clear h1 h2 hok
 have hb0 : Below w.heap.size w (((w.alloc (.cells #[.slice aW ws.length cW, .slice aP ps.length cP] 31)).alloc (.cells #[.slice none 0 0, .slice none 0 0] 31)).alloc (.cells #[] 136)) := by
  repeat (refine Below.alloc ?_ (by simp <;> omega) _)
  exact Below.refl _ _
 have ho0 : (((w.alloc (.cells #[.slice aW ws.length cW, .slice aP ps.length cP] 31)).alloc (.cells #[.slice none 0 0, .slice none 0 0] 31)).alloc (.cells #[] 136)).ownsRow (w.heap.size + 2) 136 3 (.slice (some ⟨w.heap.size + 1 + 1, 0, none⟩) 0 0) 0 [] := by
  simpa using World.ownsRow_lit (base := w.heap.size + 2) (e := 136) (size := 3) ((w.alloc (.cells #[.slice aW ws.length cW, .slice aP ps.length cP] 31)).alloc (.cells #[.slice none 0 0, .slice none 0 0] 31)) #[] 0 (by simp) (by simp) rfl
 have HO := zaa ho0
 have HB := zaa hb0
 clear ho0 hb0
 go_enter Tryz.func210, Tryz.ntmps210
 go_wp2_with (at_builtin; refine zae _ rfl (.tmp 6) (.tmp 8) 29 rfl (w.heap.size + 2) 136 (.agg #[.int .i64 0, .int .i64 0, .bool false]) 3 24 Tryz.underlying29 zsr rfl (by decide) _ 0 [] rfl HO.out _ ps.length (sts ps) rfl (Rd.below H2.out HB.out) (zwc ps) (by simp [maxLen]; omega) (by omega) (by simp) ?_)
 intro v1 w1 hown1 hgr1
 have hown1 : w1.ownsRow (w.heap.size + 2) 136 3 v1 ps.length (sts ps) := by simpa using hown1
 obtain ⟨a1, c1, rfl⟩ := RdS.form (zac hown1).rd rfl
 have hz1 : w.heap.size + 3 ≤ w1.heap.size := by have := hgr1.size; simp at this; omega
 have V0 := (hgr1.block w.heap.size (by simp <;> omega) (by simp [Value.ownBlock] <;> omega)).trans (zaj (zaj (zag rfl)))
 have V1 := (hgr1.block (w.heap.size + 1) (by simp <;> omega) (by simp [Value.ownBlock] <;> omega)).trans (zaj (zag (by simp)))
 have B1 := HB.out.grown hgr1 (by simp <;> omega) (fun k hk => by simp [Value.ownBlock] at hk; omega)
 obtain ⟨x1, x2, x3, x4⟩ := zad V0
 have RH : Hid (Row (w1.setCell ⟨w.heap.size, 1, none⟩ (.slice a1 ps.length c1)) 136 3 (w.heap.size + 2) w1.heap.size (.slice a1 ps.length c1) ps.length (sts ps)) := (zac hown1).same (fun b h1 _ => Below.heap_setCell _ _ _ _ (by simp only; omega))
 have VH := zaa (And.intro (zra V0 (.slice a1 ps.length c1)) ((Below.heap_setCell w1 ⟨w.heap.size, 1, none⟩ (.slice a1 ps.length c1) (w.heap.size + 1) (by simp)).trans V1))
 have BH := zaa (B1.setCell (p := ⟨w.heap.size, 1, none⟩) (Nat.le_refl _) (.slice a1 ps.length c1))
 clear hown1 hgr1 V0 V1 B1
 go_wp2
 go_loopw [5] (fun i wr => ∃ m : Nat, m ≤ ps.length ∧ i = .int .i64 m ∧ Row wr 136 3 (w.heap.size + 2) w1.heap.size (.slice a1 ps.length c1) ps.length (sts (mix (k : Int) ps m)) ∧ (wr.heap[w.heap.size]? = some (.cells #[.slice aW ws.length cW, .slice a1 ps.length c1] 31 (0, 0)) ∧ wr.heap[w.heap.size + 1]? = some (.cells #[.slice none 0 0, .slice none 0 0] 31 (0, 0))) ∧ Below w.heap.size w wr ∧ w1.heap.size ≤ wr.heap.size) (fun i _ => ps.length - (intOf i).toNat)
 case atStart => exact ⟨0, by omega, rfl, by rw [mix_zero]; exact RH.out, VH.out, BH.out, by simp⟩
 case round =>
  obtain ⟨m, hm, rfl, hrow, hv, hb, hz⟩ := hrel
  obtain ⟨y1, y2, y3, y4⟩ := zad hv.1
  by_cases hlt : m < ps.length
  ·have hl := zws (k : Int) ps m hm
   obtain ⟨_, ao', cap', e', _, hc⟩ := hrow.rd
   cases e'
   obtain ⟨b, o, rfl, hbl, _⟩ := hc (by omega)
   obtain ⟨rfl, hb1, hb2, _, hfr, hcl⟩ := hrow.at
   have hml : m < (mix (k : Int) ps m).length := by omega
   have e0 := (hcl (m * 3) (by omega)).trans (znl _ m hml)
   have e2 := (hcl (m * 3 + 2) (by omega)).trans (zrh _ m hml)
   rw [mix_at _ _ _ hlt hml] at e0 e2
   have f2 := hfr (m * 3 + 2)
   obtain ⟨q0, q1⟩ := HOK.out m hlt
   have ST := zaa (hrow.stored (m * 3 + 2) (.bool true))
   have BH2 := zaa (hb.setCell (p := ⟨b, m * 3 + 2, none⟩) (by simp only; omega) (.bool true))
   have VH2 := zaa (And.intro ((Below.heap_setCell wr ⟨b, m * 3 + 2, none⟩ (.bool true) w.heap.size (by simp only; omega)).trans hv.1) ((Below.heap_setCell wr ⟨b, m * 3 + 2, none⟩ (.bool true) (w.heap.size + 1) (by simp only; omega)).trans hv.2))
   have RM := zaa hrow
   have VM := zaa hv
   clear hrow hc hfr hcl hv hl
   by_cases c : ps[m].at_ / 8 = (k : Int) / 8
   ·have c' : (ps[m].at_ / 8 == (k : Int) / 8) = true := by simpa using c
    have E := zaa (mix_hit hlt c)
    clear c
    go_wp2
    go_roundw
    case rel => exact ⟨m + 1, by omega, by go_num, E.out ▸ ST.out, VH2.out, BH2.out, by simp; omega⟩
    case measure => simp [intOf]; omega
   ·have c' : (ps[m].at_ / 8 == (k : Int) / 8) = false := by simpa using c
    have E := zaa (mix_miss hlt c)
    clear c
    go_wp2
    go_roundw
    case rel => exact ⟨m + 1, by omega, by go_num, E.out ▸ RM.out, VM.out, hb, hz⟩
    case measure => simp [intOf]; omega
  ·have e : m = ps.length := by omega
   subst e
   obtain ⟨t1, t2, t3, t4⟩ := zad hv.2
   have RM := zaa hrow
   clear hrow hv
   go_wp2
   refine bodyPost_ret (v := .agg #[.slice aW ws.length cW, .slice a1 ps.length c1]) (by simp [results, Tryz.results210, go_sem, t1, t2]) rfl ?_
   have B3 := (hb.setCell (p := ⟨w.heap.size + 1, 0, none⟩) (by simp only; omega) (.slice aW ws.length cW)).setCell (p := ⟨w.heap.size + 1, 1, none⟩) (by simp only; omega) (.slice a1 ps.length c1)
   refine ⟨_, rfl, ⟨_, _, rfl, Rd.below H1.out B3, ?_⟩, B3⟩
   have R3 := (RM.out.same (w' := (wr.setCell ⟨w.heap.size + 1, 0, none⟩ (.slice aW ws.length cW)).setCell ⟨w.heap.size + 1, 1, none⟩ (.slice a1 ps.length c1)) (fun b h1 h2 => by rw [Below.heap_setCell _ _ _ _ (by simp only; omega), Below.heap_setCell _ _ _ _ (by simp only; omega)])).rd
   unfold RdS
   rw [mix_all] at R3
   rw [List.length_map]
   exact R3
end Go.Proofs.YtbbmljakfbhnpaaGreatDoor
