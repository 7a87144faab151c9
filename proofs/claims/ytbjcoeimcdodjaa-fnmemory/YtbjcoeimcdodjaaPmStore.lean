/- A store more: by the program, and by the model. -/
import Derived.Test.YtbjcoeimcdodjaaPmCopy
namespace Go.Proofs.Ytbjcoeimcdodjaa
open Go.RowKit
def storeC (ws : List Int) (ps : List St) (at_ v : Int) : Int := if askC ws ps at_ = 0 then if wordB v = false then 4 else if ps.length = 400 then 7 else 0 else askC ws ps at_
def storeWs (ws : List Int) (ps : List St) (at_ v : Int) : List Int := if storeC ws ps at_ v = 0 ∨ storeC ws ps at_ v = 7 then ws else []
def storePs (ws : List Int) (ps : List St) (at_ v : Int) : List St := if storeC ws ps at_ v = 0 then ps ++ [⟨at_, v, false⟩] else if storeC ws ps at_ v = 7 then ps else []
theorem store_cases (ws : List Int) (ps : List St) (at_ v : Int) :
    ((askC ws ps at_ = 1 ∨ askC ws ps at_ = 14) ∧ storeC ws ps at_ v = askC ws ps at_ ∧ storeWs ws ps at_ v = [] ∧ storePs ws ps at_ v = []) ∨
    (askC ws ps at_ = 0 ∧ wordB v = false ∧ storeC ws ps at_ v = 4 ∧ storeWs ws ps at_ v = [] ∧ storePs ws ps at_ v = []) ∨
    (askC ws ps at_ = 0 ∧ wordB v = true ∧ ps.length = 400 ∧ storeC ws ps at_ v = 7 ∧ storeWs ws ps at_ v = ws ∧ storePs ws ps at_ v = ps) ∨
    (askC ws ps at_ = 0 ∧ wordB v = true ∧ ¬ ps.length = 400 ∧ storeC ws ps at_ v = 0 ∧ storeWs ws ps at_ v = ws ∧ storePs ws ps at_ v = ps ++ [⟨at_, v, false⟩]) := by
  rcases askC_cases ws ps at_ with hc | ⟨hc, _⟩
  · left
    have e : storeC ws ps at_ v = askC ws ps at_ := by unfold storeC; rw [if_neg (by omega)]
    refine ⟨hc, e, ?_, ?_⟩
    · unfold storeWs; rw [e, if_neg (by omega)]
    · unfold storePs; rw [e, if_neg (by omega), if_neg (by omega)]
  · right
    by_cases c1 : wordB v = true
    · right
      by_cases c2 : ps.length = 400
      · have e : storeC ws ps at_ v = 7 := by unfold storeC; rw [if_pos hc, if_neg (by rw [c1]; simp), if_pos c2]
        refine .inl ⟨hc, c1, c2, e, ?_, ?_⟩
        · unfold storeWs; rw [e, if_pos (.inr rfl)]
        · unfold storePs; rw [e, if_neg (by decide), if_pos rfl]
      · have e : storeC ws ps at_ v = 0 := by unfold storeC; rw [if_pos hc, if_neg (by rw [c1]; simp), if_neg c2]
        refine .inr ⟨hc, c1, c2, e, ?_, ?_⟩
        · unfold storeWs; rw [e, if_pos (.inl rfl)]
        · unfold storePs; rw [e, if_pos rfl]
    · have c1' : wordB v = false := by simpa using c1
      have e : storeC ws ps at_ v = 4 := by unfold storeC; rw [if_pos hc, if_pos c1']
      refine .inl ⟨hc, c1', e, ?_, ?_⟩
      · unfold storeWs; rw [e, if_neg (by decide)]
      · unfold storePs; rw [e, if_neg (by decide), if_neg (by decide)]
set_option maxHeartbeats 4000000 in
theorem l01Store_any (v : Value) (ws : List Int) (ps : List St) (at_ x : Int) (w : World) (h : RdPm w v ws ps) (hp : ps.length ≤ 1048576) :
    Calls Try.prog 52 #[v, .int .i64 at_, .int .i64 x] w fun e w' => ∃ v', e = .returned v' ∧ RdPm w' v' ws (ps ++ [⟨at_, x, false⟩]) ∧ Below w.heap.size w w' := by
  obtain ⟨vW, vP, rfl, h1, h2⟩ := h
  have H1 := hideIt h1
  have H2 := hideIt h2
  obtain ⟨aW, cW, rfl, _⟩ := h1.shape
  obtain ⟨aP, cP, rfl, _⟩ := h2.shape
  clear h1 h2
  have hb0 : Below w.heap.size w (((w.alloc (.cells #[.slice aW ws.length cW, .slice aP ps.length cP] 26)).alloc (.cells #[.slice none 0 0, .slice none 0 0] 26)).alloc (.cells #[] 45)) := by
    repeat (refine Below.alloc ?_ (by simp <;> omega) _)
    exact Below.refl _ _
  have ho0 : (((w.alloc (.cells #[.slice aW ws.length cW, .slice aP ps.length cP] 26)).alloc (.cells #[.slice none 0 0, .slice none 0 0] 26)).alloc (.cells #[] 45)).ownsRow (w.heap.size + 2) 45 3 (.slice (some ⟨w.heap.size + 1 + 1, 0, none⟩) 0 0) 0 [] := by
    simpa using World.ownsRow_lit (base := w.heap.size + 2) (e := 45) (size := 3) ((w.alloc (.cells #[.slice aW ws.length cW, .slice aP ps.length cP] 26)).alloc (.cells #[.slice none 0 0, .slice none 0 0] 26)) #[] 0 (by simp) (by simp) rfl
  have HO := hideIt ho0
  have HB := hideIt hb0
  clear ho0 hb0
  go_enter Try.func52, Try.ntmps52
  go_wp2_with (at_builtin; refine wpList_append_rd _ rfl (.tmp 7) (.tmp 9) 24 rfl (w.heap.size + 2) 45 (.agg #[.int .i64 0, .int .i64 0, .bool false]) 3 24 Try.underlying24 info52 rfl (by decide) _ 0 [] rfl HO.out _ ps.length (sts ps) rfl (Rd.below H2.out HB.out) (sts_one ps) (by simp [maxLen]; omega) (by omega) (by simp) ?_)
  intro v1 w1 hown1 hgr1
  have hown1 : w1.ownsRow (w.heap.size + 2) 45 3 v1 ps.length (sts ps) := by simpa using hown1
  have hz1 : w.heap.size + 3 ≤ w1.heap.size := by have := hgr1.size; simp at this; omega
  have V0 := (hgr1.block w.heap.size (by simp <;> omega) (by simp [Value.ownBlock] <;> omega)).trans (at_old (at_old (at_new rfl)))
  have V1 := (hgr1.block (w.heap.size + 1) (by simp <;> omega) (by simp [Value.ownBlock] <;> omega)).trans (at_old (at_new (by simp)))
  have B1 := HB.out.grown hgr1 (by simp <;> omega) (fun k hk => by simp [Value.ownBlock] at hk; omega)
  have hB2 := B1.alloc (by omega) (.cells #[.int .i64 at_, .int .i64 x, .bool false] 45)
  have V0' := at_old (o := .cells #[.int .i64 at_, .int .i64 x, .bool false] 45) V0
  have V1' := at_old (o := .cells #[.int .i64 at_, .int .i64 x, .bool false] 45) V1
  have ho2 := hown1.alloc (.cells #[.int .i64 at_, .int .i64 x, .bool false] 45)
  have hr2 : Rd (w1.alloc (.cells #[.int .i64 at_, .int .i64 x, .bool false] 45)) 3 (.slice (some ⟨w1.heap.size, 0, none⟩) 1 1) 1 (St.cells ⟨at_, x, false⟩) := by
    refine ⟨rfl, _, _, rfl, ⟨Nat.le_refl _, fun e => by cases e⟩, fun _ => ⟨w1.heap.size, 0, rfl, by simp, fun j hj => ?_⟩⟩
    obtain ⟨e0, e1, e2⟩ := three_cells (at_new (w := w1) (o := .cells #[.int .i64 at_, .int .i64 x, .bool false] 45) rfl)
    rw [Nat.zero_add]
    rcases (show j = 0 ∨ j = 1 ∨ j = 2 from by omega) with rfl | rfl | rfl
    · exact e0
    · exact e1
    · exact e2
  have HV := hideIt (And.intro V0' V1')
  have HB2 := hideIt hB2
  have HO2 := hideIt ho2
  have HR2 := hideIt hr2
  clear hown1 hgr1 V0 V1 B1 V0' V1' hB2 ho2 hr2
  go_wp2_with (at_builtin; refine wpList_append_rd _ rfl (.tmp 10) (.tmp 14) 24 rfl (w.heap.size + 2) 45 (.agg #[.int .i64 0, .int .i64 0, .bool false]) 3 24 Try.underlying24 info52 rfl (by decide) _ ps.length (sts ps) rfl HO2.out _ 1 (St.cells ⟨at_, x, false⟩) rfl HR2.out (fun u hu => by simp [St.cells] at hu; rcases hu with rfl | rfl | rfl <;> rfl) (by simp [maxLen]; omega) (by omega) (by simp; omega) ?_)
  intro v2 w2 hown2 hgr2
  have hr3 : RdS w2 v2 (ps ++ [⟨at_, x, false⟩]) := by
    have := (own_block hown2).rd
    unfold RdS
    rw [sts_snoc, List.length_append]
    exact this
  have L3 := hideIt (fun k hk => (hown2.lt k hk).1)
  have R3 : Hid (RdS w2 v2 (ps ++ [⟨at_, x, false⟩])) := hr3
  obtain ⟨_, a2, c2, e2, _⟩ := hr3
  simp only [List.length_append, List.length_singleton] at e2
  subst e2
  have hz2 : w1.heap.size + 1 ≤ w2.heap.size := by have := hgr2.size; simp at this; omega
  have hne : ∀ b, b < w.heap.size + 2 → ¬ some b = Value.ownBlock v1 := by
    intro b hb e
    have := (HO2.out.lt b e.symm).1
    omega
  have V0 := (hgr2.block w.heap.size (by simp <;> omega) (hne _ (by omega))).trans HV.out.1
  have V1 := (hgr2.block (w.heap.size + 1) (by simp <;> omega) (hne _ (by omega))).trans HV.out.2
  have B2 := hideIt (HB2.out.grown hgr2 (by simp <;> omega) (fun k hk => by have := (HO2.out.lt k hk).1; omega))
  obtain ⟨z1, z2, z3, z4⟩ := two_cells V0
  obtain ⟨t1, t2, t3, t4⟩ := two_cells V1
  clear hown2 hgr2 V0 V1
  go_wp2
  refine bodyPost_ret (v := .agg #[.slice aW ws.length cW, .slice a2 (ps.length + 1) c2]) (by simp [results, Try.results52, go_sem, t1, t2]) rfl ?_
  have B3 := ((B2.out.setCell (p := ⟨w.heap.size, 1, none⟩) (Nat.le_refl _) (.slice a2 (ps.length + 1) c2)).setCell (p := ⟨w.heap.size + 1, 0, none⟩) (by simp only; omega) (.slice aW ws.length cW)).setCell (p := ⟨w.heap.size + 1, 1, none⟩) (by simp only; omega) (.slice a2 (ps.length + 1) c2)
  refine ⟨_, rfl, ⟨_, _, rfl, Rd.below H1.out B3, Rd.same R3.out (by simp) (fun b _ hb => ?_)⟩, B3⟩
  have := L3.out b hb
  rw [Below.heap_setCell _ _ _ _ (by simp only; omega), Below.heap_setCell _ _ _ _ (by simp only; omega), Below.heap_setCell _ _ _ _ (by simp only; omega)]
end Go.Proofs.Ytbjcoeimcdodjaa
