/-
  DERIVED. GIVEN WITH THE SEED: THE CARDS: each row of YtpakbbdlhlkogaaGreatDoorRows.lean that lists a variable, with what it lists TIED to the program's text (the seventh form; the later family's looks); each row that meets fmt, with fmt's text TOLD by the authors' own Lean function (tested against real Go, not proved from fmt's source: count such statements apart). THE CARD IS WHAT COUNTS. Prove the row's statement (the work); the ties are given (YtpakbbdlhlkogaaGreatDoorTie.lean); close each card by the builder's one call (the guide's Derived/Test/ToyasCard.lean, 'card_holds'). Laid BY PROGRAM, IN A SANDBOX (cutbox-door.mjs). By AI agents, Wed Nov 11 2026. No macro, syntax, notation, axiom, sorry.
-/
import Derived.Test.YtpakbbdlhlkogaaGreatDoorRows
import GoSem.ClaimSeven
namespace Go.Proofs.YtpakbbdlhlkogaaGreatDoor
namespace Rows

/-- THE TIED CARD OF 'laws.FnRemove'. -/
def fnRemoveCard : Claim7 := { stood := { row := fnRemoveRow, standIns := [], harness := (true, "1a8da79c32e8b23e18ab24818cd25b3ca7e09d167445d33aded8b5ebd4fd68da"), looks := false }, kinds := [], alts := [], laidByText := true, laidKinds := [.data, .data, .data, .data, .pinned], laidTests := true, laidLooks := .later }
def FnRemoveCardSaid : Prop := Claim7.holds Tryz.pinned (.plain (OpenSpec.ofChange fnRemoveSpec)) fnRemoveCard

/-- THE TIED CARD OF 'laws.FnLink'. -/
def fnLinkCard : Claim7 := { stood := { row := fnLinkRow, standIns := [], harness := (true, "1a8da79c32e8b23e18ab24818cd25b3ca7e09d167445d33aded8b5ebd4fd68da"), looks := false }, kinds := [], alts := [], laidByText := true, laidKinds := [.data, .data, .data, .data, .pinned], laidTests := true, laidLooks := .later }
def FnLinkCardSaid : Prop := Claim7.holds Tryz.pinned (.plain (OpenSpec.ofChange fnLinkSpec)) fnLinkCard

/-- THE TIED CARD OF 'laws.FnMake'. -/
def fnMakeCard : Claim7 := { stood := { row := fnMakeRow, standIns := [], harness := (true, "1a8da79c32e8b23e18ab24818cd25b3ca7e09d167445d33aded8b5ebd4fd68da"), looks := false }, kinds := [], alts := [], laidByText := true, laidKinds := [.data, .data, .data, .data, .pinned], laidTests := true, laidLooks := .later }
def FnMakeCardSaid : Prop := Claim7.holds Tryz.pinned (.plain (OpenSpec.ofChange fnMakeSpec)) fnMakeCard

/-- THE SECOND FORM's CARD OF 'laws.FnRemove'. -/
def fnRemoveUptoCard : Claim7 := { stood := { row := fnRemoveUptoRow, standIns := [], harness := (true, "1a8da79c32e8b23e18ab24818cd25b3ca7e09d167445d33aded8b5ebd4fd68da"), looks := false }, kinds := [], alts := [], laidByText := true, laidKinds := [.data, .data, .data, .data, .pinned], laidTests := true, laidLooks := .later }
def FnRemoveUptoCardSaid : Prop := Claim7.holds Tryz.pinned (.plain (OpenSpec.upto fnRemoveSpec)) fnRemoveUptoCard

/-- THE SECOND FORM's CARD OF 'laws.FnLink'. -/
def fnLinkUptoCard : Claim7 := { stood := { row := fnLinkUptoRow, standIns := [], harness := (true, "1a8da79c32e8b23e18ab24818cd25b3ca7e09d167445d33aded8b5ebd4fd68da"), looks := false }, kinds := [], alts := [], laidByText := true, laidKinds := [.data, .data, .data, .data, .pinned], laidTests := true, laidLooks := .later }
def FnLinkUptoCardSaid : Prop := Claim7.holds Tryz.pinned (.plain (OpenSpec.upto fnLinkSpec)) fnLinkUptoCard

/-- THE SECOND FORM's CARD OF 'laws.FnMake'. -/
def fnMakeUptoCard : Claim7 := { stood := { row := fnMakeUptoRow, standIns := [], harness := (true, "1a8da79c32e8b23e18ab24818cd25b3ca7e09d167445d33aded8b5ebd4fd68da"), looks := false }, kinds := [], alts := [], laidByText := true, laidKinds := [.data, .data, .data, .data, .pinned], laidTests := true, laidLooks := .later }
def FnMakeUptoCardSaid : Prop := Claim7.holds Tryz.pinned (.plain (OpenSpec.upto fnMakeSpec)) fnMakeUptoCard
end Rows
end Go.Proofs.YtpakbbdlhlkogaaGreatDoor
