/- Several texts laid together: PmStoreI, PmFlush. -/
import Derived.Test.YtipklbnfobckaaaGreatDoorZAH
namespace Go.Proofs.YtipklbnfobckaaaGreatDoor
open Go.RowKit

set_option maxHeartbeats 4000000 in
theorem implPmStore_any (v : Value) (ws : List Int) (ps : List St) (at_ x : Int) (w : World) (h : RdPm w v ws ps) (hw : ws.length ≤ 1048576) (hp : ps.length ≤ 1048576) :
    Calls Tryz.prog 275 #[v, .int .i64 at_, .int .i64 x] w fun e w' => ∃ v', e = .returned (.tuple #[v', .int .i64 (storeC ws ps at_ x)]) ∧ RowPm w' w.heap.size w'.heap.size v' (storeWs ws ps at_ x) (storePs ws ps at_ x) ∧ Below w.heap.size w w' := by
  have HR := hideIt h
  obtain ⟨vW, vP, rfl, h1, h2⟩ := h
  obtain ⟨aW, cW, rfl, _⟩ := h1.shape
  obtain ⟨aP, cP, rfl, _⟩ := h2.shape
  clear h1 h2
  have hb0 : Below w.heap.size w ((w.alloc (.cells #[.slice aW ws.length cW, .slice aP ps.length cP] 41)).alloc (.cells #[.slice none 0 0, .slice none 0 0] 41)) := by
    repeat (refine Below.alloc ?_ (by simp <;> omega) _)
    exact Below.refl _ _
  rcases store_cases ws ps at_ x with ⟨hc, e1, e2, e3⟩ | ⟨hc, hx, e1, e2, e3⟩ | ⟨hc, hx, hl, e1, e2, e3⟩ | ⟨hc, hx, hl, e1, e2, e3⟩
  · rw [e1, e2, e3]
    clear e1 e2 e3
    have hne : (askC ws ps at_ != 0) = true := by rcases hc with hc | hc <;> simp [hc]
    clear hc
    go_enter Tryz.func275, Tryz.ntmps275
    go_wp2_with fail
    refine (placeFault_any _ ws ps _ _ (HR.out.below hb0) hw hp).mono ?_
    rintro e w1 ⟨rfl, hb1⟩
    have V1 := (hb1.block (w.heap.size + 1) (by simp)).trans (at_new (by simp))
    obtain ⟨t1, t2, t3, t4⟩ := two_cells V1
    have B1 := hideIt (below_trans hb0 hb1 (by simp <;> omega))
    clear hb0 hb1 V1
    go_wp2
    refine bodyPost_ret (v := .tuple #[.agg #[.slice none 0 0, .slice none 0 0], .int .i64 (askC ws ps at_)]) (by simp [results, Tryz.results275, go_sem, t1, t2]) rfl ?_
    exact ⟨_, rfl, RowPm.zero _ _ _, (B1.out.setCell (by simp only; omega) _).setCell (by simp only; omega) _⟩
  · rw [e1, e2, e3]
    clear e1 e2 e3
    have C := hideIt hc
    clear hc
    go_enter Tryz.func275, Tryz.ntmps275
    go_wp2_with fail
    refine (placeFault_any _ ws ps _ _ (HR.out.below hb0) hw hp).mono ?_
    rw [C.out]
    rintro e w1 ⟨rfl, hb1⟩
    have hz1 : w.heap.size + 2 ≤ w1.heap.size := by have := hb1.size; simp at this; omega
    have V0 := (hb1.block w.heap.size (by simp <;> omega)).trans (at_old (at_new rfl))
    have V1 := (hb1.block (w.heap.size + 1) (by simp)).trans (at_new (by simp))
    obtain ⟨x1, x2, x3, x4⟩ := two_cells V0
    obtain ⟨t1, t2, t3, t4⟩ := two_cells V1
    have B1 := hideIt (below_trans hb0 hb1 (by simp <;> omega))
    have VH := hideIt (And.intro V0 V1)
    clear hb0 hb1 V0 V1
    go_wp2_with (go_at_call 156; refine (isWord_any _ _).mono ?_; rintro e w1 ⟨rfl, rfl⟩)
    refine bodyPost_ret (v := .tuple #[.agg #[.slice none 0 0, .slice none 0 0], .int .i64 4]) (by simp [results, Tryz.results275, go_sem, t1, t2]) rfl ?_
    exact ⟨_, rfl, RowPm.zero _ _ _, (B1.out.setCell (by simp only; omega) _).setCell (by simp only; omega) _⟩
  · rw [e1, e2, e3]
    clear e1 e2 e3
    have C := hideIt hc
    have hl' : ((ps.length : Int) == 400) = true := by simp [hl]
    clear hc hl
    go_enter Tryz.func275, Tryz.ntmps275
    go_wp2_with fail
    refine (placeFault_any _ ws ps _ _ (HR.out.below hb0) hw hp).mono ?_
    rw [C.out]
    rintro e w1 ⟨rfl, hb1⟩
    have hz1 : w.heap.size + 2 ≤ w1.heap.size := by have := hb1.size; simp at this; omega
    have V0 := (hb1.block w.heap.size (by simp <;> omega)).trans (at_old (at_new rfl))
    have V1 := (hb1.block (w.heap.size + 1) (by simp)).trans (at_new (by simp))
    obtain ⟨x1, x2, x3, x4⟩ := two_cells V0
    have B1 := hideIt (below_trans hb0 hb1 (by simp <;> omega))
    have VH := hideIt (And.intro V0 V1)
    clear hb0 hb1 V0 V1
    go_wp2_with (go_at_call 156; refine (isWord_any _ _).mono ?_; rintro e w1 ⟨rfl, rfl⟩)
    refine (copyPm_any _ ws ps _ (HR.out.below B1.out) (by omega) (by omega)).mono ?_
    rintro e w2 ⟨v2, rfl, hr2, hb2⟩
    obtain ⟨vW2, vP2, rfl, hI2, hS2⟩ := hr2
    obtain ⟨aW2, cW2, rfl⟩ := RdI.form hI2.rd rfl
    obtain ⟨aP2, cP2, rfl⟩ := RdS.form hS2.rd rfl
    have hz2 := hb2.size
    have B2 := hideIt (below_trans B1.out hb2 (by omega))
    have V2 := hideIt ((hb2.block _ hz1).trans VH.out.2)
    have RI := hideIt hI2
    have RS := hideIt hS2
    clear hb2 hI2 hS2 x1 x2 x3 x4
    obtain ⟨t5, t6, t7, t8⟩ := two_cells (at_old (o := .cells #[.slice aW2 ws.length cW2, .slice aP2 ps.length cP2] 41) V2.out)
    go_wp2
    refine bodyPost_ret (v := .tuple #[.agg #[.slice aW2 ws.length cW2, .slice aP2 ps.length cP2], .int .i64 7]) (by simp [results, Tryz.results275, go_sem, t5, t6]) rfl ?_
    have hrow : RowPm w2 w1.heap.size w2.heap.size (.agg #[.slice aW2 ws.length cW2, .slice aP2 ps.length cP2]) ws ps := ⟨_, _, rfl, RI.out, RS.out⟩
    exact ⟨_, rfl, (((hrow.alloc (Nat.le_refl _) _).setCell (by simp only; omega) _).setCell (by simp only; omega) _).wide (by omega) (by simp), ((B2.out.alloc (by omega) _).setCell (by simp only; omega) _).setCell (by simp only; omega) _⟩
  · rw [e1, e2, e3]
    clear e1 e2 e3
    have C := hideIt hc
    have hl' : ((ps.length : Int) == 400) = false := by simp; omega
    clear hc hl
    go_enter Tryz.func275, Tryz.ntmps275
    go_wp2_with fail
    refine (placeFault_any _ ws ps _ _ (HR.out.below hb0) hw hp).mono ?_
    rw [C.out]
    rintro e w1 ⟨rfl, hb1⟩
    have hz1 : w.heap.size + 2 ≤ w1.heap.size := by have := hb1.size; simp at this; omega
    have V0 := (hb1.block w.heap.size (by simp <;> omega)).trans (at_old (at_new rfl))
    have V1 := (hb1.block (w.heap.size + 1) (by simp)).trans (at_new (by simp))
    obtain ⟨x1, x2, x3, x4⟩ := two_cells V0
    have B1 := hideIt (below_trans hb0 hb1 (by simp <;> omega))
    have VH := hideIt (And.intro V0 V1)
    clear hb0 hb1 V0 V1
    go_wp2_with (go_at_call 156; refine (isWord_any _ _).mono ?_; rintro e w1 ⟨rfl, rfl⟩)
    refine (copyPm_any _ ws ps _ (HR.out.below B1.out) (by omega) (by omega)).mono ?_
    rintro e w2 ⟨v2, rfl, hr2, hb2⟩
    obtain ⟨vW2, vP2, rfl, hI2, hS2⟩ := hr2
    obtain ⟨aW2, cW2, rfl⟩ := RdI.form hI2.rd rfl
    obtain ⟨aP2, cP2, rfl⟩ := RdS.form hS2.rd rfl
    have hz2 := hb2.size
    have B2 := hideIt (below_trans B1.out hb2 (by omega))
    have V2 := hideIt ((hb2.block _ hz1).trans VH.out.2)
    have RI := hideIt hI2
    have RS := hideIt hS2
    clear hb2 hI2 hS2 x1 x2 x3 x4
    have V9 : Hid (((w2.alloc (.cells #[.slice aW2 ws.length cW2, .slice aP2 ps.length cP2] 41)).alloc (.cells #[.int .i64 at_, .int .i64 x, .bool false] 165)).heap[w2.heap.size]? = some (.cells #[.slice aW2 ws.length cW2, .slice aP2 ps.length cP2] 41 (0, 0))) := at_old (at_new rfl)
    have V3 := hideIt (at_old (o := .cells #[.int .i64 at_, .int .i64 x, .bool false] 165) (at_old (o := .cells #[.slice aW2 ws.length cW2, .slice aP2 ps.length cP2] 41) V2.out))
    have B3 := hideIt ((B2.out.alloc (by omega) (.cells #[.slice aW2 ws.length cW2, .slice aP2 ps.length cP2] 41)).alloc (by simp; omega) (.cells #[.int .i64 at_, .int .i64 x, .bool false] 165))
    have bb : Below w2.heap.size w2 ((w2.alloc (.cells #[.slice aW2 ws.length cW2, .slice aP2 ps.length cP2] 41)).alloc (.cells #[.int .i64 at_, .int .i64 x, .bool false] 165)) := by
      repeat (refine Below.alloc ?_ (by simp <;> omega) _)
      exact Below.refl _ _
    have RI3 := hideIt (RI.out.below bb (Nat.le_refl _))
    have RS3 := hideIt (RS.out.below bb (Nat.le_refl _))
    have hr2 : Rd ((w2.alloc (.cells #[.slice aW2 ws.length cW2, .slice aP2 ps.length cP2] 41)).alloc (.cells #[.int .i64 at_, .int .i64 x, .bool false] 165)) 3 (.slice (some ⟨w2.heap.size + 1, 0, none⟩) 1 1) 1 (St.cells ⟨at_, x, false⟩) := by
      refine ⟨rfl, _, _, rfl, ⟨Nat.le_refl _, fun e => by cases e⟩, fun _ => ⟨w2.heap.size + 1, 0, rfl, by simp, fun j hj => ?_⟩⟩
      obtain ⟨e0, e1, e2⟩ := three_cells (at_new (w := w2.alloc (.cells #[.slice aW2 ws.length cW2, .slice aP2 ps.length cP2] 41)) (o := .cells #[.int .i64 at_, .int .i64 x, .bool false] 165) (k := w2.heap.size + 1) (by simp))
      rw [Nat.zero_add]
      rcases (show j = 0 ∨ j = 1 ∨ j = 2 from by omega) with rfl | rfl | rfl
      · exact e0
      · exact e1
      · exact e2
    have HR2 := hideIt hr2
    clear hr2 bb
    go_wp2_with (at_builtin; refine wpList_append_rd _ rfl (.tmp 29) (.tmp 33) 39 rfl w1.heap.size 165 (.agg #[.int .i64 0, .int .i64 0, .bool false]) 3 24 Tryz.underlying39 info52 rfl (by decide) _ ps.length (sts ps) rfl RS3.out.1 _ 1 (St.cells ⟨at_, x, false⟩) rfl HR2.out (fun u hu => by simp [St.cells] at hu; rcases hu with rfl | rfl | rfl <;> rfl) (by simp [maxLen]; omega) (by omega) (by simp; omega) ?_)
    intro v3 w3 hown3 hgr3
    have hr3 : Row w3 165 3 w1.heap.size w3.heap.size v3 (ps ++ [(⟨at_, x, false⟩ : St)]).length (sts (ps ++ [⟨at_, x, false⟩])) := by
      rw [sts_snoc, List.length_append]
      exact own_block hown3
    obtain ⟨aP3, cP3, rfl⟩ := RdS.form hr3.rd (n := ps.length + 1) (by simp)
    have hz3 : w2.heap.size + 2 ≤ w3.heap.size := by have := hgr3.size; simp at this; omega
    have hne : ∀ b, (b < w1.heap.size ∨ w2.heap.size ≤ b) → ¬ some b = (Value.slice aP2 ps.length cP2).ownBlock := by
      intro b hb e
      have h1 := (RS3.out.1.lt b e.symm).1
      have h2 := RS3.out.2 b e.symm
      omega
    have W0 := (hgr3.block w2.heap.size (by simp <;> omega) (hne _ (.inr (Nat.le_refl _)))).trans V9.out
    have W1 := (hgr3.block (w.heap.size + 1) (by simp <;> omega) (hne _ (.inl (by omega)))).trans V3.out
    have N4 := hideIt (hr3.ne_type W0 (by decide))
    have RI4 := hideIt (RI3.out.apart RS3.out (by decide) hgr3)
    have RS4 := hideIt hr3
    have B4 := hideIt (B3.out.grown hgr3 (by simp <;> omega) (fun k hk => by have := (RS3.out.1.lt k hk).1; omega))
    obtain ⟨x5, x6, x7, x8⟩ := two_cells W0
    obtain ⟨t5, t6, t7, t8⟩ := two_cells W1
    clear hown3 hgr3 hr3 W0 W1
    go_wp2
    refine bodyPost_ret (v := .tuple #[.agg #[.slice aW2 ws.length cW2, .slice aP3 (ps.length + 1) cP3], .int .i64 0]) (by simp [results, Tryz.results275, go_sem, t5, t6]) rfl ?_
    refine ⟨_, rfl, ⟨_, _, rfl, ?_, ?_⟩, ((B4.out.setCell (by simp only; omega) _).setCell (by simp only; omega) _).setCell (by simp only; omega) _⟩
    · refine (RI4.out.same fun b h1 h2 => ?_).wide (by omega) (by simp; omega)
      rw [Below.heap_setCell _ _ _ _ (by simp only; omega), Below.heap_setCell _ _ _ _ (by simp only; omega), Below.heap_setCell _ _ _ _ (by simp only; omega)]
    · refine Row.wide (((RS4.out.setOther (a := ⟨w2.heap.size, 1, none⟩) N4.out (.slice aP3 (ps.length + 1) cP3)).same fun b h1 h2 => ?_)) (by omega) (by simp)
      rw [Below.heap_setCell _ _ _ _ (by simp only; omega), Below.heap_setCell _ _ _ _ (by simp only; omega)]
end Go.Proofs.YtipklbnfobckaaaGreatDoor

namespace Go.Proofs.YtipklbnfobckaaaGreatDoor
open Go.RowKit

theorem sts_get (l : List St) (j : Nat) (hj : j / 3 < l.length) : (sts l)[j]? = (l[j / 3]).cells[j % 3]? := by
  have := flatMap_at St.cells 3 St.cells_len l (j / 3) (j % 3) hj (Nat.mod_lt _ (by decide))
  rw [show j / 3 * 3 + j % 3 = j from by omega] at this
  exact this
/-- A flag laid. -/
theorem sts_setfl (l : List St) (m : Nat) (hm : m < l.length) (b : Bool) : (sts l).set (m * 3 + 2) (.bool b) = sts (l.set m ⟨l[m].at_, l[m].val, b⟩) := by
  apply List.ext_getElem?
  intro j
  by_cases hj : j < l.length * 3
  · have h3 : j / 3 < l.length := by omega
    have h3' : j / 3 < (l.set m ⟨l[m].at_, l[m].val, b⟩).length := by simpa using h3
    rw [set_at (by rw [sts_len]; exact hj), sts_get _ j h3', sts_get l j h3, List.getElem_set]
    by_cases e : m = j / 3
    · rw [if_pos e]
      subst e
      rcases (show j % 3 = 0 ∨ j % 3 = 1 ∨ j % 3 = 2 from by omega) with r | r | r
      · rw [if_neg (by omega), r]; rfl
      · rw [if_neg (by omega), r]; rfl
      · rw [if_pos (by omega), r]; rfl
    · rw [if_neg e, if_neg (by omega)]
  · rw [List.getElem?_eq_none (by rw [List.length_set, sts_len]; omega), List.getElem?_eq_none (by rw [sts_len, List.length_set]; omega)]

/-- A store of the line is flushed; any other is as it was. -/
def fl1 (k : Int) (p : St) : St := if p.at_ / 8 = k / 8 then ⟨p.at_, p.val, true⟩ else p
def mix (k : Int) (ps : List St) (m : Nat) : List St := (ps.take m).map (fl1 k) ++ ps.drop m
theorem mix_len (k : Int) (ps : List St) (m : Nat) (hm : m ≤ ps.length) : (mix k ps m).length = ps.length := by simp [mix]; omega
theorem mix_zero (k : Int) (ps : List St) : mix k ps 0 = ps := by simp [mix]
theorem mix_all (k : Int) (ps : List St) : mix k ps ps.length = ps.map (fl1 k) := by simp [mix]
theorem mix_at (k : Int) (ps : List St) (m : Nat) (hm : m < ps.length) (h : m < (mix k ps m).length) : (mix k ps m)[m] = ps[m] := by
  have e : (mix k ps m)[m]? = ps[m]? := by
    unfold mix
    rw [List.getElem?_append_right (by rw [List.length_map, List.length_take]; omega)]
    simp [Nat.min_eq_left (Nat.le_of_lt hm)]
  rw [List.getElem?_eq_getElem h, List.getElem?_eq_getElem hm] at e
  exact Option.some.inj e
theorem mix_succ (k : Int) (ps : List St) (m : Nat) (hm : m < ps.length) : mix k ps (m + 1) = (mix k ps m).set m (fl1 k ps[m]) := by
  unfold mix
  rw [List.take_succ_eq_append_getElem hm, List.map_append, List.set_append_right _ _ (by rw [List.length_map, List.length_take]; omega)]
  simp only [List.map_cons, List.map_nil, List.length_map, List.length_take, Nat.min_eq_left (Nat.le_of_lt hm), Nat.sub_self]
  rw [List.drop_eq_getElem_cons hm, List.set_cons_zero, List.append_assoc]
  rfl
theorem mix_hit {k : Int} {ps : List St} {m : Nat} (hm : m < ps.length) (h : ps[m].at_ / 8 = k / 8) : (sts (mix k ps m)).set (m * 3 + 2) (.bool true) = sts (mix k ps (m + 1)) := by
  have hl : m < (mix k ps m).length := by rw [mix_len _ _ _ (by omega)]; exact hm
  rw [sts_setfl _ m hl, mix_succ k ps m hm, mix_at k ps m hm hl]
  unfold fl1
  rw [if_pos h]
theorem mix_miss {k : Int} {ps : List St} {m : Nat} (hm : m < ps.length) (h : ¬ ps[m].at_ / 8 = k / 8) : mix k ps (m + 1) = mix k ps m := by
  have hl : m < (mix k ps m).length := by rw [mix_len _ _ _ (by omega)]; exact hm
  rw [mix_succ k ps m hm]
  unfold fl1
  rw [if_neg h]
  have := mix_at k ps m hm hl
  rw [← this, List.set_getElem_self]

set_option maxHeartbeats 4000000 in
theorem l01Flush_any (v : Value) (ws : List Int) (ps : List St) (k : Nat) (w : World) (h : RdPm w v ws ps) (hp : ps.length ≤ 1048576) (hk : k < 336) (hok : ∀ j (h : j < ps.length), 0 ≤ ps[j].at_ ∧ ps[j].at_ < 336) :
    Calls Tryz.prog 209 #[v, .int .i64 (k : Int)] w fun e w' => ∃ v', e = .returned v' ∧ RdPm w' v' ws (ps.map (fl1 (k : Int))) ∧ Below w.heap.size w w' := by
  obtain ⟨vW, vP, rfl, h1, h2⟩ := h
  have H1 := hideIt h1
  have H2 := hideIt h2
  have HOK := hideIt hok
  obtain ⟨aW, cW, rfl, _⟩ := h1.shape
  obtain ⟨aP, cP, rfl, _⟩ := h2.shape
  clear h1 h2 hok
  have hb0 : Below w.heap.size w (((w.alloc (.cells #[.slice aW ws.length cW, .slice aP ps.length cP] 41)).alloc (.cells #[.slice none 0 0, .slice none 0 0] 41)).alloc (.cells #[] 165)) := by
    repeat (refine Below.alloc ?_ (by simp <;> omega) _)
    exact Below.refl _ _
  have ho0 : (((w.alloc (.cells #[.slice aW ws.length cW, .slice aP ps.length cP] 41)).alloc (.cells #[.slice none 0 0, .slice none 0 0] 41)).alloc (.cells #[] 165)).ownsRow (w.heap.size + 2) 165 3 (.slice (some ⟨w.heap.size + 1 + 1, 0, none⟩) 0 0) 0 [] := by
    simpa using World.ownsRow_lit (base := w.heap.size + 2) (e := 165) (size := 3) ((w.alloc (.cells #[.slice aW ws.length cW, .slice aP ps.length cP] 41)).alloc (.cells #[.slice none 0 0, .slice none 0 0] 41)) #[] 0 (by simp) (by simp) rfl
  have HO := hideIt ho0
  have HB := hideIt hb0
  clear ho0 hb0
  go_enter Tryz.func209, Tryz.ntmps209
  go_wp2_with (at_builtin; refine wpList_append_rd _ rfl (.tmp 6) (.tmp 8) 39 rfl (w.heap.size + 2) 165 (.agg #[.int .i64 0, .int .i64 0, .bool false]) 3 24 Tryz.underlying39 info52 rfl (by decide) _ 0 [] rfl HO.out _ ps.length (sts ps) rfl (Rd.below H2.out HB.out) (sts_one ps) (by simp [maxLen]; omega) (by omega) (by simp) ?_)
  intro v1 w1 hown1 hgr1
  have hown1 : w1.ownsRow (w.heap.size + 2) 165 3 v1 ps.length (sts ps) := by simpa using hown1
  obtain ⟨a1, c1, rfl⟩ := RdS.form (own_block hown1).rd rfl
  have hz1 : w.heap.size + 3 ≤ w1.heap.size := by have := hgr1.size; simp at this; omega
  have V0 := (hgr1.block w.heap.size (by simp <;> omega) (by simp [Value.ownBlock] <;> omega)).trans (at_old (at_old (at_new rfl)))
  have V1 := (hgr1.block (w.heap.size + 1) (by simp <;> omega) (by simp [Value.ownBlock] <;> omega)).trans (at_old (at_new (by simp)))
  have B1 := HB.out.grown hgr1 (by simp <;> omega) (fun k hk => by simp [Value.ownBlock] at hk; omega)
  obtain ⟨x1, x2, x3, x4⟩ := two_cells V0
  have RH : Hid (Row (w1.setCell ⟨w.heap.size, 1, none⟩ (.slice a1 ps.length c1)) 165 3 (w.heap.size + 2) w1.heap.size (.slice a1 ps.length c1) ps.length (sts ps)) := (own_block hown1).same (fun b h1 _ => Below.heap_setCell _ _ _ _ (by simp only; omega))
  have VH := hideIt (And.intro (two_set1 V0 (.slice a1 ps.length c1)) ((Below.heap_setCell w1 ⟨w.heap.size, 1, none⟩ (.slice a1 ps.length c1) (w.heap.size + 1) (by simp)).trans V1))
  have BH := hideIt (B1.setCell (p := ⟨w.heap.size, 1, none⟩) (Nat.le_refl _) (.slice a1 ps.length c1))
  clear hown1 hgr1 V0 V1 B1
  go_wp2
  go_loopw [5] (fun i wr => ∃ m : Nat, m ≤ ps.length ∧ i = .int .i64 m ∧ Row wr 165 3 (w.heap.size + 2) w1.heap.size (.slice a1 ps.length c1) ps.length (sts (mix (k : Int) ps m)) ∧ (wr.heap[w.heap.size]? = some (.cells #[.slice aW ws.length cW, .slice a1 ps.length c1] 41 (0, 0)) ∧ wr.heap[w.heap.size + 1]? = some (.cells #[.slice none 0 0, .slice none 0 0] 41 (0, 0))) ∧ Below w.heap.size w wr ∧ w1.heap.size ≤ wr.heap.size) (fun i _ => ps.length - (intOf i).toNat)
  case atStart => exact ⟨0, by omega, rfl, by rw [mix_zero]; exact RH.out, VH.out, BH.out, by simp⟩
  case round =>
    obtain ⟨m, hm, rfl, hrow, hv, hb, hz⟩ := hrel
    obtain ⟨y1, y2, y3, y4⟩ := two_cells hv.1
    by_cases hlt : m < ps.length
    · have hl := mix_len (k : Int) ps m hm
      obtain ⟨_, ao', cap', e', _, hc⟩ := hrow.rd
      cases e'
      obtain ⟨b, o, rfl, hbl, _⟩ := hc (by omega)
      obtain ⟨rfl, hb1, hb2, _, hfr, hcl⟩ := hrow.at
      have hml : m < (mix (k : Int) ps m).length := by omega
      have e0 := (hcl (m * 3) (by omega)).trans (sts_at0 _ m hml)
      have e2 := (hcl (m * 3 + 2) (by omega)).trans (sts_at2 _ m hml)
      rw [mix_at _ _ _ hlt hml] at e0 e2
      have f2 := hfr (m * 3 + 2)
      obtain ⟨q0, q1⟩ := HOK.out m hlt
      have ST := hideIt (hrow.stored (m * 3 + 2) (.bool true))
      have BH2 := hideIt (hb.setCell (p := ⟨b, m * 3 + 2, none⟩) (by simp only; omega) (.bool true))
      have VH2 := hideIt (And.intro ((Below.heap_setCell wr ⟨b, m * 3 + 2, none⟩ (.bool true) w.heap.size (by simp only; omega)).trans hv.1) ((Below.heap_setCell wr ⟨b, m * 3 + 2, none⟩ (.bool true) (w.heap.size + 1) (by simp only; omega)).trans hv.2))
      have RM := hideIt hrow
      have VM := hideIt hv
      clear hrow hc hfr hcl hv hl
      by_cases c : ps[m].at_ / 8 = (k : Int) / 8
      · have c' : (ps[m].at_ / 8 == (k : Int) / 8) = true := by simpa using c
        have E := hideIt (mix_hit hlt c)
        clear c
        go_wp2
        go_roundw
        case rel => exact ⟨m + 1, by omega, by go_num, E.out ▸ ST.out, VH2.out, BH2.out, by simp; omega⟩
        case measure => simp [intOf]; omega
      · have c' : (ps[m].at_ / 8 == (k : Int) / 8) = false := by simpa using c
        have E := hideIt (mix_miss hlt c)
        clear c
        go_wp2
        go_roundw
        case rel => exact ⟨m + 1, by omega, by go_num, E.out ▸ RM.out, VM.out, hb, hz⟩
        case measure => simp [intOf]; omega
    · have e : m = ps.length := by omega
      subst e
      obtain ⟨t1, t2, t3, t4⟩ := two_cells hv.2
      have RM := hideIt hrow
      clear hrow hv
      go_wp2
      refine bodyPost_ret (v := .agg #[.slice aW ws.length cW, .slice a1 ps.length c1]) (by simp [results, Tryz.results209, go_sem, t1, t2]) rfl ?_
      have B3 := (hb.setCell (p := ⟨w.heap.size + 1, 0, none⟩) (by simp only; omega) (.slice aW ws.length cW)).setCell (p := ⟨w.heap.size + 1, 1, none⟩) (by simp only; omega) (.slice a1 ps.length c1)
      refine ⟨_, rfl, ⟨_, _, rfl, Rd.below H1.out B3, ?_⟩, B3⟩
      have R3 := (RM.out.same (w' := (wr.setCell ⟨w.heap.size + 1, 0, none⟩ (.slice aW ws.length cW)).setCell ⟨w.heap.size + 1, 1, none⟩ (.slice a1 ps.length c1)) (fun b h1 h2 => by rw [Below.heap_setCell _ _ _ _ (by simp only; omega), Below.heap_setCell _ _ _ _ (by simp only; omega)])).rd
      unfold RdS
      rw [mix_all] at R3
      rw [List.length_map]
      exact R3
end Go.Proofs.YtipklbnfobckaaaGreatDoor
