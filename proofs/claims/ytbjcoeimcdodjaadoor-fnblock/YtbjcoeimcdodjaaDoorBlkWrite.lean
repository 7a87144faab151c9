/- A store more: by the program, and by the model. -/
import Derived.Test.YtbjcoeimcdodjaaDoorBlkOwn
namespace Go.Proofs.YtbjcoeimcdodjaaDoor
open Go.RowKit
def writeC (ws : List Int) (ps : List Se) (at_ v : Int) : Int := if askE ws ps at_ = 0 then if wordB v = false then 4 else if ps.length = 400 then 7 else 0 else askE ws ps at_
def writeWs (ws : List Int) (ps : List Se) (at_ v : Int) : List Int := if writeC ws ps at_ v = 0 ∨ writeC ws ps at_ v = 7 then ws else []
def writePs (ws : List Int) (ps : List Se) (at_ v : Int) : List Se := if writeC ws ps at_ v = 0 then ps ++ [⟨at_, v⟩] else if writeC ws ps at_ v = 7 then ps else []
theorem write_cases (ws : List Int) (ps : List Se) (at_ v : Int) :
    ((askE ws ps at_ = 1 ∨ askE ws ps at_ = 14) ∧ writeC ws ps at_ v = askE ws ps at_ ∧ writeWs ws ps at_ v = [] ∧ writePs ws ps at_ v = []) ∨
    (askE ws ps at_ = 0 ∧ wordB v = false ∧ writeC ws ps at_ v = 4 ∧ writeWs ws ps at_ v = [] ∧ writePs ws ps at_ v = []) ∨
    (askE ws ps at_ = 0 ∧ wordB v = true ∧ ps.length = 400 ∧ writeC ws ps at_ v = 7 ∧ writeWs ws ps at_ v = ws ∧ writePs ws ps at_ v = ps) ∨
    (askE ws ps at_ = 0 ∧ wordB v = true ∧ ¬ ps.length = 400 ∧ writeC ws ps at_ v = 0 ∧ writeWs ws ps at_ v = ws ∧ writePs ws ps at_ v = ps ++ [⟨at_, v⟩]) := by
  rcases askE_cases ws ps at_ with hc | ⟨hc, _⟩
  · left
    have e : writeC ws ps at_ v = askE ws ps at_ := by unfold writeC; rw [if_neg (by omega)]
    refine ⟨hc, e, ?_, ?_⟩
    · unfold writeWs; rw [e, if_neg (by omega)]
    · unfold writePs; rw [e, if_neg (by omega), if_neg (by omega)]
  · right
    by_cases c1 : wordB v = true
    · right
      by_cases c2 : ps.length = 400
      · have e : writeC ws ps at_ v = 7 := by unfold writeC; rw [if_pos hc, if_neg (by rw [c1]; simp), if_pos c2]
        refine .inl ⟨hc, c1, c2, e, ?_, ?_⟩
        · unfold writeWs; rw [e, if_pos (.inr rfl)]
        · unfold writePs; rw [e, if_neg (by decide), if_pos rfl]
      · have e : writeC ws ps at_ v = 0 := by unfold writeC; rw [if_pos hc, if_neg (by rw [c1]; simp), if_neg c2]
        refine .inr ⟨hc, c1, c2, e, ?_, ?_⟩
        · unfold writeWs; rw [e, if_pos (.inl rfl)]
        · unfold writePs; rw [e, if_pos rfl]
    · have c1' : wordB v = false := by simpa using c1
      have e : writeC ws ps at_ v = 4 := by unfold writeC; rw [if_pos hc, if_pos c1']
      refine .inl ⟨hc, c1', e, ?_, ?_⟩
      · unfold writeWs; rw [e, if_neg (by decide)]
      · unfold writePs; rw [e, if_neg (by decide), if_neg (by decide)]
set_option maxHeartbeats 4000000 in
theorem l02Write_own (vW vP : Value) (ws : List Int) (ps : List Se) (at_ x : Int) (w : World) (h : RdBlk w (.agg #[vW, vP]) ws ps) (hp : ps.length ≤ 1048576) :
    Calls Tryd.prog 53 #[.agg #[vW, vP], .int .i64 at_, .int .i64 x] w fun e w' => ∃ vP', e = .returned (.agg #[vW, vP']) ∧ RdBlk w' (.agg #[vW, vP']) ws (ps ++ [⟨at_, x⟩]) ∧ (∀ k, vP'.ownBlock = some k → w.heap.size ≤ k) ∧ Below w.heap.size w w' := by
  obtain ⟨_, _, e0, h1, h2⟩ := h
  cases e0
  have H1 := hideIt h1
  have H2 := hideIt h2
  obtain ⟨aW, cW, rfl, _⟩ := h1.shape
  obtain ⟨aP, cP, rfl, _⟩ := h2.shape
  clear h1 h2
  have hb0 : Below w.heap.size w (((w.alloc (.cells #[.slice aW ws.length cW, .slice aP ps.length cP] 26)).alloc (.cells #[.slice none 0 0, .slice none 0 0] 26)).alloc (.cells #[] 59)) := by
    repeat (refine Below.alloc ?_ (by simp <;> omega) _)
    exact Below.refl _ _
  have ho0 : (((w.alloc (.cells #[.slice aW ws.length cW, .slice aP ps.length cP] 26)).alloc (.cells #[.slice none 0 0, .slice none 0 0] 26)).alloc (.cells #[] 59)).ownsRow (w.heap.size + 2) 59 2 (.slice (some ⟨w.heap.size + 1 + 1, 0, none⟩) 0 0) 0 [] := by
    simpa using World.ownsRow_lit (base := w.heap.size + 2) (e := 59) (size := 2) ((w.alloc (.cells #[.slice aW ws.length cW, .slice aP ps.length cP] 26)).alloc (.cells #[.slice none 0 0, .slice none 0 0] 26)) #[] 0 (by simp) (by simp) rfl
  have HO := hideIt ho0
  have HB := hideIt hb0
  clear ho0 hb0
  go_enter Tryd.func53, Tryd.ntmps53
  go_wp2_with (at_builtin; refine wpList_append_rd _ rfl (.tmp 7) (.tmp 9) 24 rfl (w.heap.size + 2) 59 (.agg #[.int .i64 0, .int .i64 0]) 2 16 Tryd.underlying24 infoSec rfl (by decide) _ 0 [] rfl HO.out _ ps.length (ses ps) rfl (Rd.below H2.out HB.out) (ses_one ps) (by simp [maxLen]; omega) (by omega) (by simp) ?_)
  intro v1 w1 hown1 hgr1
  have hown1 : w1.ownsRow (w.heap.size + 2) 59 2 v1 ps.length (ses ps) := by simpa using hown1
  have hz1 : w.heap.size + 3 ≤ w1.heap.size := by have := hgr1.size; simp at this; omega
  have V0 := (hgr1.block w.heap.size (by simp <;> omega) (by simp [Value.ownBlock] <;> omega)).trans (at_old (at_old (at_new rfl)))
  have V1 := (hgr1.block (w.heap.size + 1) (by simp <;> omega) (by simp [Value.ownBlock] <;> omega)).trans (at_old (at_new (by simp)))
  have B1 := HB.out.grown hgr1 (by simp <;> omega) (fun k hk => by simp [Value.ownBlock] at hk; omega)
  have hB2 := B1.alloc (by omega) (.cells #[.int .i64 at_, .int .i64 x] 59)
  have V0' := at_old (o := .cells #[.int .i64 at_, .int .i64 x] 59) V0
  have V1' := at_old (o := .cells #[.int .i64 at_, .int .i64 x] 59) V1
  have ho2 := hown1.alloc (.cells #[.int .i64 at_, .int .i64 x] 59)
  have hr2 := rd_sec w1 at_ x
  have HV := hideIt (And.intro V0' V1')
  have HB2 := hideIt hB2
  have HO2 := hideIt ho2
  have HR2 := hideIt hr2
  clear hown1 hgr1 V0 V1 B1 V0' V1' hB2 ho2 hr2
  go_wp2_with (at_builtin; refine wpList_append_rd _ rfl (.tmp 10) (.tmp 14) 24 rfl (w.heap.size + 2) 59 (.agg #[.int .i64 0, .int .i64 0]) 2 16 Tryd.underlying24 infoSec rfl (by decide) _ ps.length (ses ps) rfl HO2.out _ 1 (Se.cells ⟨at_, x⟩) rfl HR2.out (fun u hu => by simp [Se.cells] at hu; rcases hu with rfl | rfl <;> rfl) (by simp [maxLen]; omega) (by omega) (by simp; omega) ?_)
  intro v2 w2 hown2 hgr2
  have hr3 : RdE w2 v2 (ps ++ [⟨at_, x⟩]) := by
    have := (own_block hown2).rd
    unfold RdE
    rw [ses_snoc, List.length_append]
    exact this
  have L3 := hideIt (fun k hk => (hown2.lt k hk).1)
  have R3 : Hid (RdE w2 v2 (ps ++ [⟨at_, x⟩])) := hr3
  obtain ⟨_, a2, c2, e2, _⟩ := hr3
  simp only [List.length_append, List.length_singleton] at e2
  subst e2
  have hz2 : w1.heap.size + 1 ≤ w2.heap.size := by have := hgr2.size; simp at this; omega
  have hne : ∀ b, b < w.heap.size + 2 → ¬ some b = Value.ownBlock v1 := by
    intro b hb e
    have := (HO2.out.lt b e.symm).1
    omega
  have V0 := (hgr2.block w.heap.size (by simp <;> omega) (hne _ (by omega))).trans HV.out.1
  have V1 := (hgr2.block (w.heap.size + 1) (by simp <;> omega) (hne _ (by omega))).trans HV.out.2
  have B2 := hideIt (HB2.out.grown hgr2 (by simp <;> omega) (fun k hk => by have := (HO2.out.lt k hk).1; omega))
  obtain ⟨z1, z2, z3, z4⟩ := two_cells V0
  obtain ⟨t1, t2, t3, t4⟩ := two_cells V1
  clear hown2 hgr2 V0 V1
  go_wp2
  refine bodyPost_ret (v := .agg #[.slice aW ws.length cW, .slice a2 (ps.length + 1) c2]) (by simp [results, Tryd.results53, go_sem, t1, t2]) rfl ?_
  have B3 := ((B2.out.setCell (p := ⟨w.heap.size, 1, none⟩) (Nat.le_refl _) (.slice a2 (ps.length + 1) c2)).setCell (p := ⟨w.heap.size + 1, 0, none⟩) (by simp only; omega) (.slice aW ws.length cW)).setCell (p := ⟨w.heap.size + 1, 1, none⟩) (by simp only; omega) (.slice a2 (ps.length + 1) c2)
  refine ⟨_, rfl, ⟨_, _, rfl, Rd.below H1.out B3, Rd.same R3.out (by simp) (fun b _ hb => ?_)⟩, fun b hb => by have := L3.out b hb; omega, B3⟩
  have := L3.out b hb
  rw [Below.heap_setCell _ _ _ _ (by simp only; omega), Below.heap_setCell _ _ _ _ (by simp only; omega), Below.heap_setCell _ _ _ _ (by simp only; omega)]
end Go.Proofs.YtbjcoeimcdodjaaDoor
