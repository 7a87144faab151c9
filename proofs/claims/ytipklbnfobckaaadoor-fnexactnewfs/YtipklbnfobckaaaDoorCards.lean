/-
  DERIVED. GIVEN WITH THE SEED: THE CARDS: each row of YtipklbnfobckaaaDoorRows.lean that lists a variable, with what it lists TIED to the program's text (the seventh form; the later family's looks); each row that meets fmt, with fmt's text TOLD by the authors' own Lean function (tested against real Go, not proved from fmt's source: count such statements apart). THE CARD IS WHAT COUNTS. Prove the row's statement (the work); the ties are given (YtipklbnfobckaaaDoorTie.lean); close each card by the builder's one call (the guide's Derived/Test/ToyasCard.lean, 'card_holds'). Laid BY PROGRAM, IN A SANDBOX (cutbox-door.mjs). By AI agents, Wed Nov 11 2026. No macro, syntax, notation, axiom, sorry.
-/
import Derived.Test.YtipklbnfobckaaaDoorRows
import GoSem.ClaimSeven
namespace Go.Proofs.YtipklbnfobckaaaDoor
namespace Rows

/-- THE TIED CARD OF 'laws.FnExactNewFs'. -/
def fnExactNewFsCard : Claim7 := { stood := { row := fnExactNewFsRow, standIns := [], harness := (true, "f878f104e80d75af1dd250488afd3f7e8f2282fb459e1f77a871e1ddcb208b46"), looks := false }, kinds := [], alts := [], laidByText := true, laidKinds := [.data, .data], laidTests := true, laidLooks := .later }
def FnExactNewFsCardSaid : Prop := Claim7.holds Tryd.pinned (.plain (OpenSpec.ofChange fnExactNewFsSpec)) fnExactNewFsCard

/-- THE SECOND FORM's CARD OF 'laws.FnExactNewFs'. -/
def fnExactNewFsUptoCard : Claim7 := { stood := { row := fnExactNewFsUptoRow, standIns := [], harness := (true, "f878f104e80d75af1dd250488afd3f7e8f2282fb459e1f77a871e1ddcb208b46"), looks := false }, kinds := [], alts := [], laidByText := true, laidKinds := [.data, .data], laidTests := true, laidLooks := .later }
def FnExactNewFsUptoCardSaid : Prop := Claim7.holds Tryd.pinned (.plain (OpenSpec.upto fnExactNewFsSpec)) fnExactNewFsUptoCard
end Rows
end Go.Proofs.YtipklbnfobckaaaDoor
