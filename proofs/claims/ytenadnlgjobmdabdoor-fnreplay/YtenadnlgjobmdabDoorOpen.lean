/- From what the arguments read as to the words of the walks: a slice of stores, a memory. -/
import Derived.Test.YtenadnlgjobmdabDoorPm
import Derived.Test.YtenadnlgjobmdabDoorOpenA
namespace Go.Proofs.YtenadnlgjobmdabDoor
open Go.ChangeShapes Go.WideShapes Go.ChangeAt Go.RowKit Go.Joins

section

variable {H : Type} {enc : TypeId × Value → H} {W : World} {sp : Nat → Bool} {held : Bool} {fuel : Nat} {v : Value} {y : DataW H × List MemPlace}

end

end Go.Proofs.YtenadnlgjobmdabDoor
