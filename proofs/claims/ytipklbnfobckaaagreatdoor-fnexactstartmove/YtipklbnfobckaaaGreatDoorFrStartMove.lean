/- At all file systems, both ways, impl.StartMove answers as its model spec.StartMove does, the file system is left as it was, and the answer owns its memory; no condition but that the listed variables and tables are as the program lays them (the card ties them). -/
import Derived.Test.YtipklbnfobckaaaGreatDoorFrStartMoveP
import Derived.Test.YtipklbnfobckaaaGreatDoorFrStartMoveG
namespace Go.Proofs.YtipklbnfobckaaaGreatDoor
theorem startMove_exact : Rows.FnExactStartMoveCardSaid :=
 Claim7.holds_tied_plain_at .later [] _ _ _ _ fnExactStartMove.said (fun _ h => by cases h) (by kernel_rfl) (fun _ h => by cases h) fnExactStartMove_row_tie rfl ⟨rfl, rfl⟩ (by kernel_rfl) rfl fnExactStartMove.plain fnExactStartMove.goes
#print axioms startMove_exact
end Go.Proofs.YtipklbnfobckaaaGreatDoor
