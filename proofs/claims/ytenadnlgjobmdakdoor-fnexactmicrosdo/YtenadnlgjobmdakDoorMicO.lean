/- Devices owned; one step with its code: by the model. -/
import Derived.Test.YtenadnlgjobmdakDoorMicDo
namespace Go.Proofs.YtenadnlgjobmdakDoor
open Go.RowKit

/-- The answer's box, filled. -/
def putR (w : World) (bR : Nat) (a b c d : Value) : World := (((w.setCell ⟨bR, 0, none⟩ a).setCell ⟨bR, 1, none⟩ b).setCell ⟨bR, 2, none⟩ c).setCell ⟨bR, 3, none⟩ d
theorem putR_out (w : World) (bR : Nat) (a b c d : Value) : Outside bR (bR + 1) w (putR w bR a b c d) := by
  unfold putR
  repeat (refine Outside.setCell ?_ (by simp only; omega) (by simp only; omega) _)
  exact Outside.refl _ _ _
theorem putR_size (w : World) (bR : Nat) (a b c d : Value) : (putR w bR a b c d).heap.size = w.heap.size := by simp [putR, World.setCell]

set_option maxRecDepth 100000 in
set_option maxHeartbeats 8000000 in
theorem l04Own_any (v : Value) (ws : List Int) (ps : List St) (es : List Int) (qs : List Se) (w : World) (h : RdDev w v ws ps es qs) (hw : ws.length ≤ 1048576) (hp : ps.length ≤ 1048576) (he : es.length ≤ 1048576) (hq : qs.length ≤ 1048576) :
    Calls Tryd.prog 23 #[v] w fun e w' => ∃ v', e = .returned v' ∧ RowDev w' w.heap.size w'.heap.size v' ws ps es qs ∧ Below w.heap.size w w' := by
  obtain ⟨aW, cW, aP, cP, aS, cS, aQ, cQ, rfl, r1, r2⟩ := h.form
  have R1 := hideIt r1
  have R2 := hideIt r2
  clear h r1 r2
  have hb0 : Below w.heap.size w ((w.alloc (.cells #[.slice aW ws.length cW, .slice aP ps.length cP, .slice aS es.length cS, .slice aQ qs.length cQ] 41)).alloc (.cells #[.slice none 0 0, .slice none 0 0, .slice none 0 0, .slice none 0 0] 41)) := by
    repeat (refine Below.alloc ?_ (by simp <;> omega) _)
    exact Below.refl _ _
  go_enter Tryd.func23, Tryd.ntmps23
  go_upto_region 1 with fail
  obtain ⟨w0, hw0⟩ : ∃ w0 : World, w0 = (w.alloc (.cells #[.slice aW ws.length cW, .slice aP ps.length cP, .slice aS es.length cS, .slice aQ qs.length cQ] 41)).alloc (.cells #[.slice none 0 0, .slice none 0 0, .slice none 0 0, .slice none 0 0] 41) := ⟨_, rfl⟩
  rw [← hw0]
  rw [← hw0] at hb0
  have hz0 : w.heap.size + 2 ≤ w0.heap.size := by rw [hw0]; simp
  have V0 : Hid (w0.heap[w.heap.size]? = some (.cells #[.slice aW ws.length cW, .slice aP ps.length cP, .slice aS es.length cS, .slice aQ qs.length cQ] 41 (0, 0))) := by rw [hw0]; exact at_old (at_new rfl)
  have V1 : Hid (w0.heap[w.heap.size + 1]? = some (.cells #[.slice none 0 0, .slice none 0 0, .slice none 0 0, .slice none 0 0] 41 (0, 0))) := by rw [hw0]; exact at_new (by simp)
  clear hw0
  have B0 := hideIt hb0
  clear hb0
  obtain ⟨x0, x1, x2, x3, -, -, -, -⟩ := four_cells V0.out
  obtain ⟨y0, y1, y2, y3, y4, y5, y6, y7⟩ := four_cells V1.out
  go_region_with (first
    | (go_at_call 46; refine (l01Own_any _ ws ps _ (R1.out.below (by first | exact B0.out | exact B0.out.drew)) (by omega) (by omega)).mono ?_; rintro e w1 ⟨v1, rfl, hr1, hb1⟩; obtain ⟨aW1, cW1, aP1, cP1, rfl⟩ := hr1.form; have hz1 : w0.heap.size ≤ w1.heap.size := hb1.size; have B1 : Hid (Below w0.heap.size w0 w1) := (by first | exact hb1 | exact below_trans ((Below.refl _ _).drew) hb1 (Nat.le_refl _)); have Q1 : Hid (RowPm w1 w0.heap.size w1.heap.size (.agg #[.slice aW1 ws.length cW1, .slice aP1 ps.length cP1]) ws ps) := hr1; obtain ⟨z0, z1, z2, z3, -, -, -, -⟩ := four_cells ((B1.out.block w.heap.size (by omega)).trans V0.out); clear hr1 hb1)
    | (go_at_call 47; refine (l02Own_any _ es qs _ (R2.out.below (by first | exact below_trans B0.out B1.out (by omega) | exact (below_trans B0.out B1.out (by omega)).drew)) (by omega) (by omega)).mono ?_; rintro e w2 ⟨v2, rfl, hr2, hb2⟩; obtain ⟨aS2, cS2, aQ2, cQ2, rfl⟩ := hr2.form; have hz2 : w1.heap.size ≤ w2.heap.size := hb2.size; have B2 : Hid (Below w1.heap.size w1 w2) := (by first | exact hb2 | exact below_trans ((Below.refl _ _).drew) hb2 (Nat.le_refl _)); have Q2 : Hid (RowBlk w2 w1.heap.size w2.heap.size (.agg #[.slice aS2 es.length cS2, .slice aQ2 qs.length cQ2]) es qs) := hr2; have VR := hideIt ((B2.out.block (w.heap.size + 1) (by omega)).trans ((B1.out.block (w.heap.size + 1) (by omega)).trans V1.out)); obtain ⟨t0, t1, t2, t3, t4, t5, t6, t7⟩ := four_cells VR.out; clear hr2 hb2))
  all_goals
    go_wp2
    refine bodyPost_ret (v := .agg #[.slice aW1 ws.length cW1, .slice aP1 ps.length cP1, .slice aS2 es.length cS2, .slice aQ2 qs.length cQ2]) (by simp [results, Tryd.results23, go_sem, t0, t1, t2, t3]) rfl ?_
    have O := putR_out w2 (w.heap.size + 1) (.slice aW1 ws.length cW1) (.slice aP1 ps.length cP1) (.slice aS2 es.length cS2) (.slice aQ2 qs.length cQ2)
    have Z := putR_size w2 (w.heap.size + 1) (.slice aW1 ws.length cW1) (.slice aP1 ps.length cP1) (.slice aS2 es.length cS2) (.slice aQ2 qs.length cQ2)
    refine ⟨_, rfl, ⟨_, _, _, _, w0.heap.size, w1.heap.size, w1.heap.size, w2.heap.size, rfl, ?_, ?_, by omega, Nat.le_trans hz2 (Nat.le_of_eq Z.symm), by omega, Nat.le_of_eq Z.symm, .inl (Nat.le_refl _)⟩, ?_⟩
    · exact (Q1.out.below B2.out (Nat.le_refl _)).outside O (by omega) (by omega)
    · exact Q2.out.outside O (by omega) (Nat.le_refl _)
    · exact (below_trans (below_trans B0.out B1.out (by omega)) B2.out (by omega)).trans (O.below (by omega) (by omega))

/-- The code of a step, and what it leaves. -/
def fullB (m : Mi) (ps : List St) (qs : List Se) : Bool := decide ((m.kind = 1 ∧ ps.length = 400) ∨ (m.kind = 4 ∧ qs.length = 400))
def mdC (m : Mi) (ws : List Int) (ps : List St) (es : List Int) (qs : List Se) : Int := if (pmB ws ps && blkB es qs && miB m) = true then if fullB m ps qs = true then 7 else 0 else 1
def mdW (m : Mi) (ws : List Int) (ps : List St) (es : List Int) (qs : List Se) : List Int := if mdC m ws ps es qs = 0 then doW m ws ps else if mdC m ws ps es qs = 7 then ws else []
def mdP (m : Mi) (ws : List Int) (ps : List St) (es : List Int) (qs : List Se) : List St := if mdC m ws ps es qs = 0 then doP m ps else if mdC m ws ps es qs = 7 then ps else []
def mdE (m : Mi) (ws : List Int) (ps : List St) (es : List Int) (qs : List Se) : List Int := if mdC m ws ps es qs = 0 then doE m es qs else if mdC m ws ps es qs = 7 then es else []
def mdQ (m : Mi) (ws : List Int) (ps : List St) (es : List Int) (qs : List Se) : List Se := if mdC m ws ps es qs = 0 then doQ m qs else if mdC m ws ps es qs = 7 then qs else []
theorem md_cases (m : Mi) (ws : List Int) (ps : List St) (es : List Int) (qs : List Se) :
    ((pmB ws ps && blkB es qs) = false ∧ mdC m ws ps es qs = 1 ∧ mdW m ws ps es qs = [] ∧ mdP m ws ps es qs = [] ∧ mdE m ws ps es qs = [] ∧ mdQ m ws ps es qs = []) ∨
    ((pmB ws ps && blkB es qs) = true ∧ miB m = false ∧ mdC m ws ps es qs = 1 ∧ mdW m ws ps es qs = [] ∧ mdP m ws ps es qs = [] ∧ mdE m ws ps es qs = [] ∧ mdQ m ws ps es qs = []) ∨
    ((pmB ws ps && blkB es qs) = true ∧ miB m = true ∧ fullB m ps qs = true ∧ mdC m ws ps es qs = 7 ∧ mdW m ws ps es qs = ws ∧ mdP m ws ps es qs = ps ∧ mdE m ws ps es qs = es ∧ mdQ m ws ps es qs = qs) ∨
    ((pmB ws ps && blkB es qs) = true ∧ miB m = true ∧ fullB m ps qs = false ∧ mdC m ws ps es qs = 0 ∧ mdW m ws ps es qs = doW m ws ps ∧ mdP m ws ps es qs = doP m ps ∧ mdE m ws ps es qs = doE m es qs ∧ mdQ m ws ps es qs = doQ m qs) := by
  by_cases c1 : (pmB ws ps && blkB es qs) = true
  · by_cases c2 : miB m = true
    · by_cases c3 : fullB m ps qs = true
      · have e : mdC m ws ps es qs = 7 := by unfold mdC; rw [c1, c2, c3]; rfl
        refine .inr (.inr (.inl ⟨c1, c2, c3, e, ?_, ?_, ?_, ?_⟩))
        · unfold mdW; rw [e]; rfl
        · unfold mdP; rw [e]; rfl
        · unfold mdE; rw [e]; rfl
        · unfold mdQ; rw [e]; rfl
      · have c3' : fullB m ps qs = false := by simpa using c3
        have e : mdC m ws ps es qs = 0 := by unfold mdC; rw [c1, c2, c3']; rfl
        refine .inr (.inr (.inr ⟨c1, c2, c3', e, ?_, ?_, ?_, ?_⟩))
        · unfold mdW; rw [e]; rfl
        · unfold mdP; rw [e]; rfl
        · unfold mdE; rw [e]; rfl
        · unfold mdQ; rw [e]; rfl
    · have c2' : miB m = false := by simpa using c2
      have e : mdC m ws ps es qs = 1 := by unfold mdC; rw [c1, c2']; rfl
      refine .inr (.inl ⟨c1, c2', e, ?_, ?_, ?_, ?_⟩)
      · unfold mdW; rw [e]; rfl
      · unfold mdP; rw [e]; rfl
      · unfold mdE; rw [e]; rfl
      · unfold mdQ; rw [e]; rfl
  · have c1' : (pmB ws ps && blkB es qs) = false := by simpa using c1
    have e : mdC m ws ps es qs = 1 := by unfold mdC; rw [c1']; rfl
    refine .inl ⟨c1', e, ?_, ?_, ?_, ?_⟩
    · unfold mdW; rw [e]; rfl
    · unfold mdP; rw [e]; rfl
    · unfold mdE; rw [e]; rfl
    · unfold mdQ; rw [e]; rfl
theorem RowDev.zero (w : World) (lo hi : Nat) (h : lo ≤ hi) : RowDev w lo hi (.agg #[.slice none 0 0, .slice none 0 0, .slice none 0 0, .slice none 0 0]) [] [] [] [] :=
  ⟨_, _, _, _, lo, lo, lo, hi, rfl, RowPm.zero w lo lo, RowBlk.zero w lo hi, Nat.le_refl _, h, Nat.le_refl _, Nat.le_refl _, .inl (Nat.le_refl _)⟩
end Go.Proofs.YtenadnlgjobmdakDoor
