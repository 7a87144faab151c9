/-
  DERIVED. GIVEN WITH THE SEED: THE CARDS: each row of YtfcjhhiekjbbiaaGreatDoorRows.lean that lists a variable, with what it lists TIED to the program's text (the seventh form; the later family's looks); each row that meets fmt, with fmt's text TOLD by the authors' own Lean function (tested against real Go, not proved from fmt's source: count such statements apart). THE CARD IS WHAT COUNTS. Prove the row's statement (the work); the ties are given (YtfcjhhiekjbbiaaGreatDoorTie.lean); close each card by the builder's one call (the guide's Derived/Test/ToyasCard.lean, 'card_holds'). Laid BY PROGRAM, IN A SANDBOX (cutbox-door.mjs). By AI agents, Wed Nov 11 2026. No macro, syntax, notation, axiom, sorry.
-/
import Derived.Test.YtfcjhhiekjbbiaaGreatDoorRows
import GoSem.ClaimSeven
namespace Go.Proofs.YtfcjhhiekjbbiaaGreatDoor
namespace Rows

/-- THE TIED CARD OF 'laws.FnExactPlanDemote'. -/
def fnExactPlanDemoteCard : Claim7 := { stood := { row := fnExactPlanDemoteRow, standIns := [], harness := (true, "d30e9c8302e66047348155fbfb4c3f70defb6954e4d513941ca83a99b6826b9d"), looks := false }, kinds := [], alts := [], laidByText := true, laidKinds := [.data, .data, .data, .data], laidTests := true, laidLooks := .later }
def FnExactPlanDemoteCardSaid : Prop := Claim7.holds Tryz.pinned (.plain (OpenSpec.ofChange fnExactPlanDemoteSpec)) fnExactPlanDemoteCard

/-- THE TIED CARD OF 'laws.FnExactPlanPromote'. -/
def fnExactPlanPromoteCard : Claim7 := { stood := { row := fnExactPlanPromoteRow, standIns := [], harness := (true, "d30e9c8302e66047348155fbfb4c3f70defb6954e4d513941ca83a99b6826b9d"), looks := false }, kinds := [], alts := [], laidByText := true, laidKinds := [.data, .data, .data, .data], laidTests := true, laidLooks := .later }
def FnExactPlanPromoteCardSaid : Prop := Claim7.holds Tryz.pinned (.plain (OpenSpec.ofChange fnExactPlanPromoteSpec)) fnExactPlanPromoteCard

/-- THE SECOND FORM's CARD OF 'laws.FnExactPlanDemote'. -/
def fnExactPlanDemoteUptoCard : Claim7 := { stood := { row := fnExactPlanDemoteUptoRow, standIns := [], harness := (true, "d30e9c8302e66047348155fbfb4c3f70defb6954e4d513941ca83a99b6826b9d"), looks := false }, kinds := [], alts := [], laidByText := true, laidKinds := [.data, .data, .data, .data], laidTests := true, laidLooks := .later }
def FnExactPlanDemoteUptoCardSaid : Prop := Claim7.holds Tryz.pinned (.plain (OpenSpec.upto fnExactPlanDemoteSpec)) fnExactPlanDemoteUptoCard

/-- THE SECOND FORM's CARD OF 'laws.FnExactPlanPromote'. -/
def fnExactPlanPromoteUptoCard : Claim7 := { stood := { row := fnExactPlanPromoteUptoRow, standIns := [], harness := (true, "d30e9c8302e66047348155fbfb4c3f70defb6954e4d513941ca83a99b6826b9d"), looks := false }, kinds := [], alts := [], laidByText := true, laidKinds := [.data, .data, .data, .data], laidTests := true, laidLooks := .later }
def FnExactPlanPromoteUptoCardSaid : Prop := Claim7.holds Tryz.pinned (.plain (OpenSpec.upto fnExactPlanPromoteSpec)) fnExactPlanPromoteUptoCard
end Rows
end Go.Proofs.YtfcjhhiekjbbiaaGreatDoor
