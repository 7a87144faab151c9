/- Right devices: by the program. -/
import Derived.Test.YtenadnlgjobmdabDoorDev
import Derived.Test.YtenadnlgjobmdabDoorPmOKI
import Derived.Test.YtenadnlgjobmdabDoorBlkOKI
namespace Go.Proofs.YtenadnlgjobmdabDoor
open Go.RowKit

set_option maxHeartbeats 2000000 in
theorem implDevicesOK_any (v : Value) (ws : List Int) (ps : List St) (es : List Int) (qs : List Se) (w : World) (h : RdDev w v ws ps es qs) (hw : ws.length ≤ 1048576) (hp : ps.length ≤ 1048576) (he : es.length ≤ 1048576) (hq : qs.length ≤ 1048576) :
    Calls Tryd.prog 23 #[v] w fun e w' => e = .returned (.bool (pmB ws ps && blkB es qs)) ∧ Below w.heap.size w w' := by
  obtain ⟨aW, cW, aP, cP, aS, cS, aQ, cQ, rfl, h1, h2⟩ := h.form
  have H1 := hideIt h1
  have H2 := hideIt h2
  clear h h1 h2
  have hb0 : Below w.heap.size w (w.alloc (.cells #[.slice aW ws.length cW, .slice aP ps.length cP, .slice aS es.length cS, .slice aQ qs.length cQ] 36)) := (Below.refl _ _).alloc (Nat.le_refl _) _
  by_cases c : pmB ws ps = true
  · have C := hideIt c
    rw [c]
    clear c
    go_enter Tryd.func23, Tryd.ntmps23
    go_wp2_with fail
    refine (implPmOK_any _ ws ps _ (H1.out.below hb0) hw hp).mono ?_
    rw [C.out]
    rintro e w1 ⟨rfl, hb1⟩
    obtain ⟨x0, x1, x2, x3, -, -, -, -⟩ := four_cells ((hb1.block w.heap.size (by simp)).trans (at_new rfl))
    have B1 := hideIt (below_trans hb0 hb1 (by simp))
    clear hb0 hb1
    go_wp2_with fail
    refine (implBlkOK_any _ es qs _ (H2.out.below B1.out) he hq).mono ?_
    rintro e w2 ⟨rfl, hb2⟩
    have B2 := hideIt (below_trans B1.out hb2 B1.out.size)
    clear hb2
    go_wp2
    go_ret
    exact ⟨rfl, B2.out⟩
  · have c' : pmB ws ps = false := by simpa using c
    have C := hideIt c'
    rw [c']
    clear c c'
    go_enter Tryd.func23, Tryd.ntmps23
    go_wp2_with fail
    refine (implPmOK_any _ ws ps _ (H1.out.below hb0) hw hp).mono ?_
    rw [C.out]
    rintro e w1 ⟨rfl, hb1⟩
    have B1 := hideIt (below_trans hb0 hb1 (by simp))
    clear hb0 hb1
    go_wp2
    go_ret
    exact ⟨rfl, B1.out⟩

end Go.Proofs.YtenadnlgjobmdabDoor
