/- From what the arguments read as to the words of the walks: the variable that no write is like; operations. -/
import Derived.Test.YtgnfbiohjdepcaaGreatDoorOpenI
import Derived.Test.YtgnfbiohjdepcaaGreatDoorZBL
namespace Go.Proofs.YtgnfbiohjdepcaaGreatDoor
open Go.ChangeShapes Go.WideShapes Go.ChangeAt Go.RowKit Go.Joins
theorem cellsNW : Tryz.prog.cellsOf 138 = 2 := by kernel_rfl
set_option maxRecDepth 100000 in
theorem cells_nw {H : Type} {enc : TypeId × Value → H} {w : World} {base : Nat} {sp : Nat → Bool} {held : Bool} {fuel : Nat} {cs : List Value} {p : List MemPlace}
    (h : DataW.trod enc Tryz.prog w base sp held fuel 138 cs = some (.agg [.lit (.int .i64 (-1)), .lit (.int .i64 0)], p)) : cs = [.int .i64 (-1), .int .i64 0] := by
  obtain ⟨y0, y1, n, hx, hl, t0, t1⟩ := trod_struct2 Tryz.underlying138 h
  obtain ⟨z0, e0, hy0, _⟩ := DataW.trod_int Tryz.underlying3 t0
  obtain ⟨z1, e1, hy1, _⟩ := DataW.trod_int Tryz.underlying3 t1
  rw [cellsNW] at hl
  subst hy0 hy1
  simp only [cells3] at e0 e1
  match cs, hl with
  | [c0, c1], _ =>
    simp at e0 e1 hx
    subst e0 e1
    rw [hx.1.1, hx.1.2]
end Go.Proofs.YtgnfbiohjdepcaaGreatDoor
