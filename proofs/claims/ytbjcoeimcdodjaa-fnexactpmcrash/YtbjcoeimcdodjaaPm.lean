/- The helpers of the laws over memories. -/
import Derived.Test.YtbjcoeimcdodjaaStoreT
namespace Go.Proofs.Ytbjcoeimcdodjaa
open Go.RowKit
def RdPm (w : World) (v : Value) (ws : List Int) (ps : List St) : Prop := ∃ vW vP, v = .agg #[vW, vP] ∧ RdI w vW ws ∧ RdS w vP ps
def RowPm (w : World) (lo hi : Nat) (v : Value) (ws : List Int) (ps : List St) : Prop := ∃ vW vP, v = .agg #[vW, vP] ∧ Row w 3 1 lo hi vW ws.length (ints ws) ∧ Row w 45 3 lo hi vP ps.length (sts ps)
theorem RowPm.rd {w : World} {lo hi : Nat} {v : Value} {ws : List Int} {ps : List St} (h : RowPm w lo hi v ws ps) : RdPm w v ws ps := by
  obtain ⟨vW, vP, rfl, h1, h2⟩ := h
  exact ⟨vW, vP, rfl, h1.rd, h2.rd⟩
theorem RdPm.below {w w' : World} {v : Value} {ws : List Int} {ps : List St} (h : RdPm w v ws ps) (hb : Below w.heap.size w w') : RdPm w' v ws ps := by
  obtain ⟨vW, vP, rfl, h1, h2⟩ := h
  exact ⟨vW, vP, rfl, Rd.below h1 hb, Rd.below h2 hb⟩
theorem RowPm.below {w w' : World} {lo hi : Nat} {v : Value} {ws : List Int} {ps : List St} (h : RowPm w lo hi v ws ps) {B : Nat} (hb : Below B w w') (hB : hi ≤ B) : RowPm w' lo hi v ws ps := by
  obtain ⟨vW, vP, rfl, h1, h2⟩ := h
  exact ⟨vW, vP, rfl, h1.below hb hB, h2.below hb hB⟩
theorem RowPm.outside {w w' : World} {lo hi : Nat} {v : Value} {ws : List Int} {ps : List St} (h : RowPm w lo hi v ws ps) {lo' hi' : Nat} (ho : Outside lo' hi' w w') (hd : hi ≤ lo' ∨ hi' ≤ lo) (hz : hi ≤ w.heap.size) : RowPm w' lo hi v ws ps := by
  obtain ⟨vW, vP, rfl, h1, h2⟩ := h
  exact ⟨vW, vP, rfl, h1.outside ho hd hz, h2.outside ho hd hz⟩
theorem RowPm.wide {w : World} {lo hi : Nat} {v : Value} {ws : List Int} {ps : List St} (h : RowPm w lo hi v ws ps) {lo' hi' : Nat} (h1 : lo' ≤ lo) (h2 : hi ≤ hi') : RowPm w lo' hi' v ws ps := by
  obtain ⟨vW, vP, rfl, a, b⟩ := h
  exact ⟨vW, vP, rfl, a.wide h1 h2, b.wide h1 h2⟩
set_option maxHeartbeats 2000000 in
theorem toPm_any (v : Value) (ws : List Int) (ps : List St) (w : World) (h : RdPm w v ws ps) (hw : ws.length ≤ 1048576) (hp : ps.length ≤ 1048576) :
    Calls Try.prog 21 #[v] w fun e w' => ∃ v', e = .returned v' ∧ RowPm w' w.heap.size w'.heap.size v' ws ps ∧ Below w.heap.size w w' := by
  obtain ⟨vW, vP, rfl, h1, h2⟩ := h
  have H1 := hideIt h1
  have H2 := hideIt h2
  obtain ⟨aW, cW, eW, _⟩ := h1.shape
  obtain ⟨aP, cP, eP, _⟩ := h2.shape
  clear h1 h2
  subst eW eP
  go_enter Try.func21, Try.ntmps21
  go_wp2_with fail
  have hb0 : Below w.heap.size w (((w.alloc (.cells #[.slice aW ws.length cW, .slice aP ps.length cP] 48)).alloc (.cells #[.slice none 0 0, .slice none 0 0] 26)).alloc (.cells #[.slice none 0 0, .slice none 0 0] 26)) := by
    repeat (refine Below.alloc ?_ (by simp <;> omega) _)
    exact Below.refl _ _
  refine (toIntS_any _ ws _ (Rd.below H1.out hb0) hw).mono ?_
  rintro e w1 ⟨v1, rfl, hr1, hb1⟩
  obtain ⟨_, a1, c1, rfl, _⟩ := hr1.rd
  have hz1 : w.heap.size + 3 ≤ w1.heap.size := by have := hb1.size; simp at this; omega
  have V0 := (hb1.block w.heap.size (by simp <;> omega)).trans (at_old (at_old (at_new rfl)))
  have V1 := (hb1.block (w.heap.size + 1) (by simp <;> omega)).trans (at_old (at_new (by simp)))
  have V2 := (hb1.block (w.heap.size + 1 + 1) (by simp <;> omega)).trans (at_new (by simp))
  have B1 := hideIt (hb0.trans (hb1.mono (by simp <;> omega)))
  have R1 := hideIt hr1
  obtain ⟨x1, x2, _, _⟩ := two_cells V0
  obtain ⟨y1, y2, y3, y4⟩ := two_cells V2
  have V2' := two_set0 V2 (.slice a1 ws.length c1)
  have V1' := (Below.heap_setCell w1 ⟨w.heap.size + 1 + 1, 0, none⟩ (.slice a1 ws.length c1) (w.heap.size + 1) (by simp)).trans V1
  have VH := hideIt (And.intro V1' V2')
  clear hb0 hb1 hr1 V0 V1 V2 V1' V2'
  go_wp2_with fail
  have hb2 := B1.out.setCell (p := ⟨w.heap.size + 1 + 1, 0, none⟩) (by simp; omega) (.slice a1 ws.length c1)
  refine (toStoreS_any _ ps _ (Rd.below H2.out hb2) hp).mono ?_
  rintro e w2 ⟨v2, rfl, hr2, hb3⟩
  obtain ⟨_, a2, c2, rfl, _⟩ := hr2.rd
  have hz2 : w1.heap.size ≤ w2.heap.size := by have := hb3.size; simpa using this
  have V1 := (hb3.block _ (by simp; omega)).trans VH.out.1
  have V2 := (hb3.block _ (by simp; omega)).trans VH.out.2
  have B2 := hideIt (hb2.trans (hb3.mono (by simp; omega)))
  have K2 := hideIt hb3
  have R2 := hideIt hr2
  clear hb2 hb3 hr2
  obtain ⟨z1, z2, z3, z4⟩ := two_cells V2
  obtain ⟨t1, t2, t3, t4⟩ := two_cells V1
  clear V1 V2
  go_wp2
  refine bodyPost_ret (v := .agg #[.slice a1 ws.length c1, .slice a2 ps.length c2]) (by simp [results, Try.results21, go_sem, t1, t2]) rfl ?_
  refine ⟨_, rfl, ⟨_, _, rfl, (R1.out.same fun b h1 h2 => ?_).wide (by simp; omega) (by simp; omega), (R2.out.same fun b h1 h2 => ?_).wide (by simp; omega) (by simp)⟩, ?_⟩
  · simp only [World.size_alloc] at h1
    rw [Below.heap_setCell _ _ _ _ (by simp only; omega), Below.heap_setCell _ _ _ _ (by simp only; omega), Below.heap_setCell _ _ _ _ (by simp only; omega), K2.out.block b (by simp; omega), Below.heap_setCell _ _ _ _ (by simp only; omega)]
  · simp at h1
    rw [Below.heap_setCell _ _ _ _ (by simp only; omega), Below.heap_setCell _ _ _ _ (by simp only; omega), Below.heap_setCell _ _ _ _ (by simp only; omega)]
  · exact ((B2.out.setCell (by simp only; omega) _).setCell (by simp only; omega) _).setCell (by simp only; omega) _
end Go.Proofs.Ytbjcoeimcdodjaa
