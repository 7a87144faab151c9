/-
  DERIVED. GIVEN WITH THE SEED: THE CARDS: each row of YtpgdpachomdfhaaGreatDoorRows.lean that lists a variable, with what it lists TIED to the program's text (the seventh form; the later family's looks); each row that meets fmt, with fmt's text TOLD by the authors' own Lean function (tested against real Go, not proved from fmt's source: count such statements apart). THE CARD IS WHAT COUNTS. Prove the row's statement (the work); the ties are given (YtpgdpachomdfhaaGreatDoorTie.lean); close each card by the builder's one call (the guide's Derived/Test/ToyasCard.lean, 'card_holds'). Laid BY PROGRAM, IN A SANDBOX (cutbox-door.mjs). By AI agents, Wed Nov 11 2026. No macro, syntax, notation, axiom, sorry.
-/
import Derived.Test.YtpgdpachomdfhaaGreatDoorRows
import GoSem.ClaimSeven
namespace Go.Proofs.YtpgdpachomdfhaaGreatDoor
namespace Rows

/-- THE TIED CARD OF 'laws.FnExactPlanMake'. -/
def fnExactPlanMakeCard : Claim7 := { stood := { row := fnExactPlanMakeRow, standIns := [], harness := (true, "23eeedb65105ec1c3d6b8392d8966b4fd99d648169cb54ca13490d3c6b3b7c7a"), looks := false }, kinds := [], alts := [], laidByText := true, laidKinds := [.data, .data, .data, .data, .pinned], laidTests := true, laidLooks := .later }
def FnExactPlanMakeCardSaid : Prop := Claim7.holds Tryz.pinned (.plain (OpenSpec.ofChange fnExactPlanMakeSpec)) fnExactPlanMakeCard

/-- THE TIED CARD OF 'laws.FnExactPlanRemove'. -/
def fnExactPlanRemoveCard : Claim7 := { stood := { row := fnExactPlanRemoveRow, standIns := [], harness := (true, "23eeedb65105ec1c3d6b8392d8966b4fd99d648169cb54ca13490d3c6b3b7c7a"), looks := false }, kinds := [], alts := [], laidByText := true, laidKinds := [.data, .data, .data, .data, .pinned], laidTests := true, laidLooks := .later }
def FnExactPlanRemoveCardSaid : Prop := Claim7.holds Tryz.pinned (.plain (OpenSpec.ofChange fnExactPlanRemoveSpec)) fnExactPlanRemoveCard

/-- THE TIED CARD OF 'laws.FnExactPlanLink'. -/
def fnExactPlanLinkCard : Claim7 := { stood := { row := fnExactPlanLinkRow, standIns := [], harness := (true, "23eeedb65105ec1c3d6b8392d8966b4fd99d648169cb54ca13490d3c6b3b7c7a"), looks := false }, kinds := [], alts := [], laidByText := true, laidKinds := [.data, .data, .data, .data, .pinned], laidTests := true, laidLooks := .later }
def FnExactPlanLinkCardSaid : Prop := Claim7.holds Tryz.pinned (.plain (OpenSpec.ofChange fnExactPlanLinkSpec)) fnExactPlanLinkCard

/-- THE TIED CARD OF 'laws.FnExactPlanRename'. -/
def fnExactPlanRenameCard : Claim7 := { stood := { row := fnExactPlanRenameRow, standIns := [], harness := (true, "23eeedb65105ec1c3d6b8392d8966b4fd99d648169cb54ca13490d3c6b3b7c7a"), looks := false }, kinds := [], alts := [], laidByText := true, laidKinds := [.data, .data, .data, .data, .pinned], laidTests := true, laidLooks := .later }
def FnExactPlanRenameCardSaid : Prop := Claim7.holds Tryz.pinned (.plain (OpenSpec.ofChange fnExactPlanRenameSpec)) fnExactPlanRenameCard

/-- THE SECOND FORM's CARD OF 'laws.FnExactPlanMake'. -/
def fnExactPlanMakeUptoCard : Claim7 := { stood := { row := fnExactPlanMakeUptoRow, standIns := [], harness := (true, "23eeedb65105ec1c3d6b8392d8966b4fd99d648169cb54ca13490d3c6b3b7c7a"), looks := false }, kinds := [], alts := [], laidByText := true, laidKinds := [.data, .data, .data, .data, .pinned], laidTests := true, laidLooks := .later }
def FnExactPlanMakeUptoCardSaid : Prop := Claim7.holds Tryz.pinned (.plain (OpenSpec.upto fnExactPlanMakeSpec)) fnExactPlanMakeUptoCard

/-- THE SECOND FORM's CARD OF 'laws.FnExactPlanRemove'. -/
def fnExactPlanRemoveUptoCard : Claim7 := { stood := { row := fnExactPlanRemoveUptoRow, standIns := [], harness := (true, "23eeedb65105ec1c3d6b8392d8966b4fd99d648169cb54ca13490d3c6b3b7c7a"), looks := false }, kinds := [], alts := [], laidByText := true, laidKinds := [.data, .data, .data, .data, .pinned], laidTests := true, laidLooks := .later }
def FnExactPlanRemoveUptoCardSaid : Prop := Claim7.holds Tryz.pinned (.plain (OpenSpec.upto fnExactPlanRemoveSpec)) fnExactPlanRemoveUptoCard

/-- THE SECOND FORM's CARD OF 'laws.FnExactPlanLink'. -/
def fnExactPlanLinkUptoCard : Claim7 := { stood := { row := fnExactPlanLinkUptoRow, standIns := [], harness := (true, "23eeedb65105ec1c3d6b8392d8966b4fd99d648169cb54ca13490d3c6b3b7c7a"), looks := false }, kinds := [], alts := [], laidByText := true, laidKinds := [.data, .data, .data, .data, .pinned], laidTests := true, laidLooks := .later }
def FnExactPlanLinkUptoCardSaid : Prop := Claim7.holds Tryz.pinned (.plain (OpenSpec.upto fnExactPlanLinkSpec)) fnExactPlanLinkUptoCard

/-- THE SECOND FORM's CARD OF 'laws.FnExactPlanRename'. -/
def fnExactPlanRenameUptoCard : Claim7 := { stood := { row := fnExactPlanRenameUptoRow, standIns := [], harness := (true, "23eeedb65105ec1c3d6b8392d8966b4fd99d648169cb54ca13490d3c6b3b7c7a"), looks := false }, kinds := [], alts := [], laidByText := true, laidKinds := [.data, .data, .data, .data, .pinned], laidTests := true, laidLooks := .later }
def FnExactPlanRenameUptoCardSaid : Prop := Claim7.holds Tryz.pinned (.plain (OpenSpec.upto fnExactPlanRenameSpec)) fnExactPlanRenameUptoCard
end Rows
end Go.Proofs.YtpgdpachomdfhaaGreatDoor
