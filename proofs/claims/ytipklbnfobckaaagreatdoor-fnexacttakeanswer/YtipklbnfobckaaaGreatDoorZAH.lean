/- Several texts laid together: PmOwn, PmCopy, PmStore. -/
import Derived.Test.YtipklbnfobckaaaGreatDoorZAG
import Derived.Deep.RegionLaw
namespace Go.Proofs.YtipklbnfobckaaaGreatDoor
open Go.RowKit


set_option maxHeartbeats 2000000 in
theorem l01Own_any (v : Value) (ws : List Int) (ps : List St) (w : World) (h : RdPm w v ws ps) (hw : ws.length ≤ 2147483648) (hp : ps.length ≤ 2147483648) :
    Calls Tryz.prog 180 #[v] w fun e w' => ∃ v', e = .returned v' ∧ RowPm w' w.heap.size w'.heap.size v' ws ps ∧ Below w.heap.size w w' := by
  obtain ⟨vW, vP, rfl, h1, h2⟩ := h
  have H1 := hideIt h1
  have H2 := hideIt h2
  obtain ⟨aW, cW, rfl, _⟩ := h1.shape
  obtain ⟨aP, cP, rfl, _⟩ := h2.shape
  clear h1 h2
  have hb0 : Below w.heap.size w (((w.alloc (.cells #[.slice aW ws.length cW, .slice aP ps.length cP] 41)).alloc (.cells #[.slice none 0 0, .slice none 0 0] 41)).alloc (.cells #[] 3)) := by
    repeat (refine Below.alloc ?_ (by simp <;> omega) _)
    exact Below.refl _ _
  have ho0 : (((w.alloc (.cells #[.slice aW ws.length cW, .slice aP ps.length cP] 41)).alloc (.cells #[.slice none 0 0, .slice none 0 0] 41)).alloc (.cells #[] 3)).ownsRow (w.heap.size + 2) 3 1 (.slice (some ⟨w.heap.size + 1 + 1, 0, none⟩) 0 0) 0 [] := by
    simpa using World.ownsRow_lit (base := w.heap.size + 2) (e := 3) (size := 1) ((w.alloc (.cells #[.slice aW ws.length cW, .slice aP ps.length cP] 41)).alloc (.cells #[.slice none 0 0, .slice none 0 0] 41)) #[] 0 (by simp) (by simp) rfl
  have HO := hideIt ho0
  have HB := hideIt hb0
  clear ho0 hb0
  go_enter Tryz.func180, Tryz.ntmps180
  go_wp2_with (at_builtin; refine wpList_append_rd _ rfl (.tmp 3) (.tmp 5) 22 rfl (w.heap.size + 2) 3 (.int .i64 0) 1 8 Tryz.underlying22 info3 rfl (by decide) _ 0 [] rfl HO.out _ ws.length (ints ws) rfl (Rd.below H1.out HB.out) (ints_one ws) (by simp [maxLen]; omega) (by omega) (by simp) ?_)
  intro v1 w1 hown1 hgr1
  have hown1 : w1.ownsRow (w.heap.size + 2) 3 1 v1 ws.length (ints ws) := by simpa using hown1
  have R1 := hideIt (own_block hown1)
  obtain ⟨_, a1, c1, rfl, _⟩ := (own_block hown1).rd
  have hz1 : w.heap.size + 3 ≤ w1.heap.size := by have := hgr1.size; simp at this; omega
  have V0 := (hgr1.block w.heap.size (by simp <;> omega) (by simp [Value.ownBlock] <;> omega)).trans (at_old (at_old (at_new rfl)))
  have V1 := (hgr1.block (w.heap.size + 1) (by simp <;> omega) (by simp [Value.ownBlock] <;> omega)).trans (at_old (at_new (by simp)))
  have B1 := HB.out.grown hgr1 (by simp <;> omega) (fun k hk => by simp [Value.ownBlock] at hk; omega)
  have V0' := at_old (o := .cells #[] 165) (two_set0 V0 (.slice a1 ws.length c1))
  have V1' := at_old (o := .cells #[] 165) ((Below.heap_setCell w1 ⟨w.heap.size, 0, none⟩ (.slice a1 ws.length c1) (w.heap.size + 1) (by simp)).trans V1)
  obtain ⟨x1, x2, x3, x4⟩ := two_cells V0
  obtain ⟨x5, x6, x7, x8⟩ := two_cells V0'
  have HV := hideIt (And.intro V0' V1')
  have hB2 := (B1.setCell (p := ⟨w.heap.size, 0, none⟩) (Nat.le_refl _) (.slice a1 ws.length c1)).alloc (by simp; omega) (.cells #[] 165)
  have ho2 : ((w1.setCell ⟨w.heap.size, 0, none⟩ (.slice a1 ws.length c1)).alloc (.cells #[] 165)).ownsRow w1.heap.size 165 3 (.slice (some ⟨w1.heap.size, 0, none⟩) 0 0) 0 [] := by
    simpa using World.ownsRow_lit (base := w1.heap.size) (e := 165) (size := 3) (w1.setCell ⟨w.heap.size, 0, none⟩ (.slice a1 ws.length c1)) #[] 0 (by simp) (by simp) rfl
  have HB2 := hideIt hB2
  have HO2 := hideIt ho2
  clear hown1 hgr1 V0 V1 B1 V0' V1' hB2 ho2
  go_wp2_with (at_builtin; refine wpList_append_rd _ rfl (.tmp 8) (.tmp 10) 39 rfl w1.heap.size 165 (.agg #[.int .i64 0, .int .i64 0, .bool false]) 3 24 Tryz.underlying39 info52 rfl (by decide) _ 0 [] rfl HO2.out _ ps.length (sts ps) rfl (Rd.below H2.out HB2.out) (sts_one ps) (by simp [maxLen]; omega) (by omega) (by simp) ?_)
  intro v2 w2 hown2 hgr2
  have hown2 : w2.ownsRow w1.heap.size 165 3 v2 ps.length (sts ps) := by simpa using hown2
  have R2 := hideIt (own_block hown2)
  obtain ⟨_, a2, c2, rfl, _⟩ := (own_block hown2).rd
  have hz2 : w1.heap.size + 1 ≤ w2.heap.size := by have := hgr2.size; simp at this; omega
  have V0 := (hgr2.block w.heap.size (by simp <;> omega) (by simp [Value.ownBlock]; omega)).trans HV.out.1
  have V1 := (hgr2.block (w.heap.size + 1) (by simp <;> omega) (by simp [Value.ownBlock]; omega)).trans HV.out.2
  have B2 := hideIt (HB2.out.grown hgr2 (by simp <;> omega) (fun k hk => by simp [Value.ownBlock] at hk; omega))
  have K2 : Hid (∀ b, w.heap.size + 2 ≤ b → b < w1.heap.size → w2.heap[b]? = w1.heap[b]?) := by
    intro b h1 h2
    rw [hgr2.block b (by simp <;> omega) (by simp [Value.ownBlock]; omega), heap_alloc_if, if_neg (by simp; omega), Below.heap_setCell _ _ _ _ (by simp only; omega)]
  obtain ⟨z1, z2, z3, z4⟩ := two_cells V0
  obtain ⟨t1, t2, t3, t4⟩ := two_cells V1
  clear hown2 hgr2 V0 V1
  go_wp2
  refine bodyPost_ret (v := .agg #[.slice a1 ws.length c1, .slice a2 ps.length c2]) (by simp [results, Tryz.results180, go_sem, t1, t2]) rfl ?_
  refine ⟨_, rfl, ⟨_, _, rfl, (R1.out.same fun b h1 h2 => ?_).wide (by omega) (by simp; omega), (R2.out.same fun b h1 h2 => ?_).wide (by omega) (by simp)⟩, ?_⟩
  · rw [Below.heap_setCell _ _ _ _ (by simp only; omega), Below.heap_setCell _ _ _ _ (by simp only; omega), Below.heap_setCell _ _ _ _ (by simp only; omega), K2.out b h1 h2]
  · rw [Below.heap_setCell _ _ _ _ (by simp only; omega), Below.heap_setCell _ _ _ _ (by simp only; omega), Below.heap_setCell _ _ _ _ (by simp only; omega)]
  · exact ((B2.out.setCell (by simp only; omega) _).setCell (by simp only; omega) _).setCell (by simp only; omega) _
end Go.Proofs.YtipklbnfobckaaaGreatDoor

namespace Go.Proofs.YtipklbnfobckaaaGreatDoor
open Go.RowKit

/-- In the midst of a copy: what was there is as it was; the argument's box and the answer's variable. -/
def CopyInv (w a : World) (x y : Value) : Prop := Below w.heap.size w a ∧ a.heap[w.heap.size]? = some (.cells #[x, y] 41 (0, 0)) ∧ a.heap[w.heap.size + 1]? = some (.cells #[.slice none 0 0, .slice none 0 0] 41 (0, 0))
theorem CopyInv.grown {w a b : World} {x y : Value} (h : CopyInv w a x y) (hg : a.grownBy b none) : CopyInv w b x y := by
  obtain ⟨h1, h2, h3⟩ := h
  have l2 := (Array.getElem?_eq_some_iff.1 h2).1
  have l3 := (Array.getElem?_eq_some_iff.1 h3).1
  exact ⟨h1.grown hg h1.size (fun k hk => by cases hk), (hg.block _ l2 (by simp)).trans h2, (hg.block _ l3 (by simp)).trans h3⟩
theorem CopyInv.rd {w a : World} {x y : Value} (h : CopyInv w a x y) {size : Nat} {v : Value} {n : Nat} {xs : List Value} (hr : Rd w size v n xs) : Rd a size v n xs := hr.below h.1
theorem CopyInv.base {w a : World} {x y : Value} (h : CopyInv w a x y) : w.heap.size + 2 ≤ a.heap.size := (Array.getElem?_eq_some_iff.1 h.2.2).1
theorem Row.grownNone {a b : World} {e : TypeId} {size lo : Nat} {v : Value} {n : Nat} {xs : List Value} (h : Row a e size lo a.heap.size v n xs) (hg : a.grownBy b none) : Row b e size lo b.heap.size v n xs :=
  (h.same (fun k _ hk => hg.block k hk (by simp))).wide (Nat.le_refl _) hg.size
theorem copy_end {w b : World} {x y v1 v2 : Value} {ws : List Int} {ps : List St} (hI : CopyInv w b x y) (r1 : Row b 3 1 (w.heap.size + 2) b.heap.size v1 ws.length (ints ws)) (r2 : Row b 165 3 (w.heap.size + 2) b.heap.size v2 ps.length (sts ps)) :
    RowPm ((b.setCell ⟨w.heap.size + 1, 0, none⟩ v1).setCell ⟨w.heap.size + 1, 1, none⟩ v2) w.heap.size ((b.setCell ⟨w.heap.size + 1, 0, none⟩ v1).setCell ⟨w.heap.size + 1, 1, none⟩ v2).heap.size (.agg #[v1, v2]) ws ps ∧
      Below w.heap.size w ((b.setCell ⟨w.heap.size + 1, 0, none⟩ v1).setCell ⟨w.heap.size + 1, 1, none⟩ v2) := by
  refine ⟨⟨_, _, rfl, (r1.same fun k h1 h2 => ?_).wide (by omega) (by simp), (r2.same fun k h1 h2 => ?_).wide (by omega) (by simp)⟩, (hI.1.setCell (by simp only; omega) _).setCell (by simp only; omega) _⟩
  · rw [Below.heap_setCell _ _ _ _ (by simp only; omega), Below.heap_setCell _ _ _ _ (by simp only; omega)]
  · rw [Below.heap_setCell _ _ _ _ (by simp only; omega), Below.heap_setCell _ _ _ _ (by simp only; omega)]

set_option maxHeartbeats 4000000 in
theorem copyPm_any (v : Value) (ws : List Int) (ps : List St) (w : World) (h : RdPm w v ws ps) (hw : ws.length ≤ 2147483648) (hp : ps.length ≤ 2147483648) :
    Calls Tryz.prog 182 #[v] w fun e w' => ∃ v', e = .returned v' ∧ RowPm w' w.heap.size w'.heap.size v' ws ps ∧ Below w.heap.size w w' := by
  obtain ⟨vW, vP, rfl, h1, h2⟩ := h
  have H1 := hideIt h1
  have H2 := hideIt h2
  obtain ⟨aW, cW, rfl, _⟩ := h1.shape
  obtain ⟨aP, cP, rfl, _⟩ := h2.shape
  clear h1 h2
  have I0 : CopyInv w ((w.alloc (.cells #[.slice aW ws.length cW, .slice aP ps.length cP] 41)).alloc (.cells #[.slice none 0 0, .slice none 0 0] 41)).drew (.slice aW ws.length cW) (.slice aP ps.length cP) := by
    refine ⟨Below.drew ?_, at_old (at_new rfl), at_new (by simp)⟩
    repeat (refine Below.alloc ?_ (by simp <;> omega) _)
    exact Below.refl _ _
  have HI := hideIt I0
  clear I0
  go_enter Tryz.func182, Tryz.ntmps182
  go_wp2_with fail
  go_region_law (first
    | (refine step_append_rd rfl (.const (.slice none 0 0)) (.tmp 4) 22 rfl (w.heap.size + 2) 3 (.int .i64 0) 1 8 Tryz.underlying22 info3 rfl (by decide) (.slice none 0 0) 0 [] rfl (World.ownsRow_nil _ _ _ _) (.slice aW ws.length cW) ws.length (ints ws) rfl (by first | exact HI.out.rd H1.out | exact CopyInv.rd (Hid.out ‹_›) H1.out) (ints_one ws) (by simp [maxLen]; omega) (by omega) (by first | exact HI.out.base | exact CopyInv.base (Hid.out ‹_›)) ?_; intro v1 w1 hown1 hgr1; have hown1 : w1.ownsRow (w.heap.size + 2) 3 1 v1 ws.length (ints ws) := (by simpa using hown1); have I1 := hideIt (CopyInv.grown (by first | exact HI.out | exact Hid.out ‹_›) hgr1); obtain ⟨_, a1, c1, rfl, _⟩ := (own_block hown1).rd; obtain ⟨x1, x2, x3, x4⟩ := two_cells I1.out.2.1; obtain ⟨y1, y2, y3, y4⟩ := two_cells I1.out.2.2)
    | (refine step_append_rd rfl (.const (.slice none 0 0)) (.tmp 7) 39 rfl (w.heap.size + 2) 165 (.agg #[.int .i64 0, .int .i64 0, .bool false]) 3 24 Tryz.underlying39 info52 rfl (by decide) (.slice none 0 0) 0 [] rfl (World.ownsRow_nil _ _ _ _) (.slice aP ps.length cP) ps.length (sts ps) rfl (by first | exact HI.out.rd H2.out | exact CopyInv.rd (Hid.out ‹_›) H2.out) (sts_one ps) (by simp [maxLen]; omega) (by omega) (by first | exact HI.out.base | exact CopyInv.base (Hid.out ‹_›)) ?_; intro v2 w2 hown2 hgr2; have hown2 : w2.ownsRow (w.heap.size + 2) 165 3 v2 ps.length (sts ps) := (by simpa using hown2); have I2 := hideIt (CopyInv.grown (by first | exact HI.out | exact Hid.out ‹_›) hgr2); obtain ⟨_, a2, c2, rfl, _⟩ := (own_block hown2).rd; obtain ⟨z1, z2, z3, z4⟩ := two_cells I2.out.2.1; obtain ⟨t1, t2, t3, t4⟩ := two_cells I2.out.2.2))
  all_goals
    go_wp2
    refine bodyPost_ret (v := .agg #[.slice a1 ws.length c1, .slice a2 ps.length c2]) (by first | (simp [results, Tryz.results182, go_sem, t1, t2]; done) | (simp [results, Tryz.results182, go_sem, y1, y2]; done)) rfl ?_
    refine ⟨_, rfl, ?_⟩
    first
      | exact copy_end I2.out (Row.grownNone (own_block hown1) hgr2) (own_block hown2)
      | exact copy_end I1.out (own_block hown1) (Row.grownNone (own_block hown2) hgr1)
end Go.Proofs.YtipklbnfobckaaaGreatDoor

namespace Go.Proofs.YtipklbnfobckaaaGreatDoor
open Go.RowKit



def storeC (ws : List Int) (ps : List St) (at_ v : Int) : Int := if askC ws ps at_ = 0 then if wordB v = false then 4 else if ps.length = 400 then 7 else 0 else askC ws ps at_
def storeWs (ws : List Int) (ps : List St) (at_ v : Int) : List Int := if storeC ws ps at_ v = 0 ∨ storeC ws ps at_ v = 7 then ws else []
def storePs (ws : List Int) (ps : List St) (at_ v : Int) : List St := if storeC ws ps at_ v = 0 then ps ++ [⟨at_, v, false⟩] else if storeC ws ps at_ v = 7 then ps else []
theorem store_cases (ws : List Int) (ps : List St) (at_ v : Int) :
    ((askC ws ps at_ = 1 ∨ askC ws ps at_ = 14) ∧ storeC ws ps at_ v = askC ws ps at_ ∧ storeWs ws ps at_ v = [] ∧ storePs ws ps at_ v = []) ∨
    (askC ws ps at_ = 0 ∧ wordB v = false ∧ storeC ws ps at_ v = 4 ∧ storeWs ws ps at_ v = [] ∧ storePs ws ps at_ v = []) ∨
    (askC ws ps at_ = 0 ∧ wordB v = true ∧ ps.length = 400 ∧ storeC ws ps at_ v = 7 ∧ storeWs ws ps at_ v = ws ∧ storePs ws ps at_ v = ps) ∨
    (askC ws ps at_ = 0 ∧ wordB v = true ∧ ¬ ps.length = 400 ∧ storeC ws ps at_ v = 0 ∧ storeWs ws ps at_ v = ws ∧ storePs ws ps at_ v = ps ++ [⟨at_, v, false⟩]) := by
  rcases askC_cases ws ps at_ with hc | ⟨hc, _⟩
  · left
    have e : storeC ws ps at_ v = askC ws ps at_ := by unfold storeC; rw [if_neg (by omega)]
    refine ⟨hc, e, ?_, ?_⟩
    · unfold storeWs; rw [e, if_neg (by omega)]
    · unfold storePs; rw [e, if_neg (by omega), if_neg (by omega)]
  · right
    by_cases c1 : wordB v = true
    · right
      by_cases c2 : ps.length = 400
      · have e : storeC ws ps at_ v = 7 := by unfold storeC; rw [if_pos hc, if_neg (by rw [c1]; simp), if_pos c2]
        refine .inl ⟨hc, c1, c2, e, ?_, ?_⟩
        · unfold storeWs; rw [e, if_pos (.inr rfl)]
        · unfold storePs; rw [e, if_neg (by decide), if_pos rfl]
      · have e : storeC ws ps at_ v = 0 := by unfold storeC; rw [if_pos hc, if_neg (by rw [c1]; simp), if_neg c2]
        refine .inr ⟨hc, c1, c2, e, ?_, ?_⟩
        · unfold storeWs; rw [e, if_pos (.inl rfl)]
        · unfold storePs; rw [e, if_pos rfl]
    · have c1' : wordB v = false := by simpa using c1
      have e : storeC ws ps at_ v = 4 := by unfold storeC; rw [if_pos hc, if_pos c1']
      refine .inl ⟨hc, c1', e, ?_, ?_⟩
      · unfold storeWs; rw [e, if_neg (by decide)]
      · unfold storePs; rw [e, if_neg (by decide), if_neg (by decide)]


set_option maxHeartbeats 4000000 in
theorem l01Store_any (v : Value) (ws : List Int) (ps : List St) (at_ x : Int) (w : World) (h : RdPm w v ws ps) (hp : ps.length ≤ 1048576) :
    Calls Tryz.prog 208 #[v, .int .i64 at_, .int .i64 x] w fun e w' => ∃ v', e = .returned v' ∧ RdPm w' v' ws (ps ++ [⟨at_, x, false⟩]) ∧ Below w.heap.size w w' := by
  obtain ⟨vW, vP, rfl, h1, h2⟩ := h
  have H1 := hideIt h1
  have H2 := hideIt h2
  obtain ⟨aW, cW, rfl, _⟩ := h1.shape
  obtain ⟨aP, cP, rfl, _⟩ := h2.shape
  clear h1 h2
  have hb0 : Below w.heap.size w (((w.alloc (.cells #[.slice aW ws.length cW, .slice aP ps.length cP] 41)).alloc (.cells #[.slice none 0 0, .slice none 0 0] 41)).alloc (.cells #[] 165)) := by
    repeat (refine Below.alloc ?_ (by simp <;> omega) _)
    exact Below.refl _ _
  have ho0 : (((w.alloc (.cells #[.slice aW ws.length cW, .slice aP ps.length cP] 41)).alloc (.cells #[.slice none 0 0, .slice none 0 0] 41)).alloc (.cells #[] 165)).ownsRow (w.heap.size + 2) 165 3 (.slice (some ⟨w.heap.size + 1 + 1, 0, none⟩) 0 0) 0 [] := by
    simpa using World.ownsRow_lit (base := w.heap.size + 2) (e := 165) (size := 3) ((w.alloc (.cells #[.slice aW ws.length cW, .slice aP ps.length cP] 41)).alloc (.cells #[.slice none 0 0, .slice none 0 0] 41)) #[] 0 (by simp) (by simp) rfl
  have HO := hideIt ho0
  have HB := hideIt hb0
  clear ho0 hb0
  go_enter Tryz.func208, Tryz.ntmps208
  go_wp2_with (at_builtin; refine wpList_append_rd _ rfl (.tmp 7) (.tmp 9) 39 rfl (w.heap.size + 2) 165 (.agg #[.int .i64 0, .int .i64 0, .bool false]) 3 24 Tryz.underlying39 info52 rfl (by decide) _ 0 [] rfl HO.out _ ps.length (sts ps) rfl (Rd.below H2.out HB.out) (sts_one ps) (by simp [maxLen]; omega) (by omega) (by simp) ?_)
  intro v1 w1 hown1 hgr1
  have hown1 : w1.ownsRow (w.heap.size + 2) 165 3 v1 ps.length (sts ps) := by simpa using hown1
  have hz1 : w.heap.size + 3 ≤ w1.heap.size := by have := hgr1.size; simp at this; omega
  have V0 := (hgr1.block w.heap.size (by simp <;> omega) (by simp [Value.ownBlock] <;> omega)).trans (at_old (at_old (at_new rfl)))
  have V1 := (hgr1.block (w.heap.size + 1) (by simp <;> omega) (by simp [Value.ownBlock] <;> omega)).trans (at_old (at_new (by simp)))
  have B1 := HB.out.grown hgr1 (by simp <;> omega) (fun k hk => by simp [Value.ownBlock] at hk; omega)
  have hB2 := B1.alloc (by omega) (.cells #[.int .i64 at_, .int .i64 x, .bool false] 165)
  have V0' := at_old (o := .cells #[.int .i64 at_, .int .i64 x, .bool false] 165) V0
  have V1' := at_old (o := .cells #[.int .i64 at_, .int .i64 x, .bool false] 165) V1
  have ho2 := hown1.alloc (.cells #[.int .i64 at_, .int .i64 x, .bool false] 165)
  have hr2 : Rd (w1.alloc (.cells #[.int .i64 at_, .int .i64 x, .bool false] 165)) 3 (.slice (some ⟨w1.heap.size, 0, none⟩) 1 1) 1 (St.cells ⟨at_, x, false⟩) := by
    refine ⟨rfl, _, _, rfl, ⟨Nat.le_refl _, fun e => by cases e⟩, fun _ => ⟨w1.heap.size, 0, rfl, by simp, fun j hj => ?_⟩⟩
    obtain ⟨e0, e1, e2⟩ := three_cells (at_new (w := w1) (o := .cells #[.int .i64 at_, .int .i64 x, .bool false] 165) rfl)
    rw [Nat.zero_add]
    rcases (show j = 0 ∨ j = 1 ∨ j = 2 from by omega) with rfl | rfl | rfl
    · exact e0
    · exact e1
    · exact e2
  have HV := hideIt (And.intro V0' V1')
  have HB2 := hideIt hB2
  have HO2 := hideIt ho2
  have HR2 := hideIt hr2
  clear hown1 hgr1 V0 V1 B1 V0' V1' hB2 ho2 hr2
  go_wp2_with (at_builtin; refine wpList_append_rd _ rfl (.tmp 10) (.tmp 14) 39 rfl (w.heap.size + 2) 165 (.agg #[.int .i64 0, .int .i64 0, .bool false]) 3 24 Tryz.underlying39 info52 rfl (by decide) _ ps.length (sts ps) rfl HO2.out _ 1 (St.cells ⟨at_, x, false⟩) rfl HR2.out (fun u hu => by simp [St.cells] at hu; rcases hu with rfl | rfl | rfl <;> rfl) (by simp [maxLen]; omega) (by omega) (by simp; omega) ?_)
  intro v2 w2 hown2 hgr2
  have hr3 : RdS w2 v2 (ps ++ [⟨at_, x, false⟩]) := by
    have := (own_block hown2).rd
    unfold RdS
    rw [sts_snoc, List.length_append]
    exact this
  have L3 := hideIt (fun k hk => (hown2.lt k hk).1)
  have R3 : Hid (RdS w2 v2 (ps ++ [⟨at_, x, false⟩])) := hr3
  obtain ⟨_, a2, c2, e2, _⟩ := hr3
  simp only [List.length_append, List.length_singleton] at e2
  subst e2
  have hz2 : w1.heap.size + 1 ≤ w2.heap.size := by have := hgr2.size; simp at this; omega
  have hne : ∀ b, b < w.heap.size + 2 → ¬ some b = Value.ownBlock v1 := by
    intro b hb e
    have := (HO2.out.lt b e.symm).1
    omega
  have V0 := (hgr2.block w.heap.size (by simp <;> omega) (hne _ (by omega))).trans HV.out.1
  have V1 := (hgr2.block (w.heap.size + 1) (by simp <;> omega) (hne _ (by omega))).trans HV.out.2
  have B2 := hideIt (HB2.out.grown hgr2 (by simp <;> omega) (fun k hk => by have := (HO2.out.lt k hk).1; omega))
  obtain ⟨z1, z2, z3, z4⟩ := two_cells V0
  obtain ⟨t1, t2, t3, t4⟩ := two_cells V1
  clear hown2 hgr2 V0 V1
  go_wp2
  refine bodyPost_ret (v := .agg #[.slice aW ws.length cW, .slice a2 (ps.length + 1) c2]) (by simp [results, Tryz.results208, go_sem, t1, t2]) rfl ?_
  have B3 := ((B2.out.setCell (p := ⟨w.heap.size, 1, none⟩) (Nat.le_refl _) (.slice a2 (ps.length + 1) c2)).setCell (p := ⟨w.heap.size + 1, 0, none⟩) (by simp only; omega) (.slice aW ws.length cW)).setCell (p := ⟨w.heap.size + 1, 1, none⟩) (by simp only; omega) (.slice a2 (ps.length + 1) c2)
  refine ⟨_, rfl, ⟨_, _, rfl, Rd.below H1.out B3, Rd.same R3.out (by simp) (fun b _ hb => ?_)⟩, B3⟩
  have := L3.out b hb
  rw [Below.heap_setCell _ _ _ _ (by simp only; omega), Below.heap_setCell _ _ _ _ (by simp only; omega), Below.heap_setCell _ _ _ _ (by simp only; omega)]


end Go.Proofs.YtipklbnfobckaaaGreatDoor
