/- A device copied: by the model. -/
import Derived.Test.YtenadnlgjobmdabDoorBlkSm
import Derived.Deep.RegionLaw
namespace Go.Proofs.YtenadnlgjobmdabDoor
open Go.RowKit


/-- A device of a call's own, its sectors in a block of numbers. -/
def RowBlk3 (w : World) (lo hi : Nat) (v : Value) (ws : List Int) (ps : List Se) : Prop := ∃ vW vP, v = .agg #[vW, vP] ∧ Row w 3 1 lo hi vW ws.length (ints ws) ∧ Row w 108 2 lo hi vP ps.length (ses ps)

end Go.Proofs.YtenadnlgjobmdabDoor
