/- No goroutine is started: by the text. -/
import Derived.Test.YtipklbnfobckaaaGreatDoorCards
import Derived.Test.YtipklbnfobckaaaGreatDoorTie
import Derived.ProofKit
import Derived.KernelRfl
namespace Go.Proofs.YtipklbnfobckaaaGreatDoor.fnExactStartMove
theorem goes : false = Rows.fnExactStartMoveRow.goesBy Tryz.pinned.checked.prog := by kernel_rfl
end Go.Proofs.YtipklbnfobckaaaGreatDoor.fnExactStartMove
