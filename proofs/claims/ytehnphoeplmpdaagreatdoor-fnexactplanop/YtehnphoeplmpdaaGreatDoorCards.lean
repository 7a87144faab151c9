/-
  DERIVED. GIVEN WITH THE SEED: THE CARDS: each row of YtehnphoeplmpdaaGreatDoorRows.lean that lists a variable, with what it lists TIED to the program's text (the seventh form; the later family's looks); each row that meets fmt, with fmt's text TOLD by the authors' own Lean function (tested against real Go, not proved from fmt's source: count such statements apart). THE CARD IS WHAT COUNTS. Prove the row's statement (the work); the ties are given (YtehnphoeplmpdaaGreatDoorTie.lean); close each card by the builder's one call (the guide's Derived/Test/ToyasCard.lean, 'card_holds'). Laid BY PROGRAM, IN A SANDBOX (cutbox-door.mjs). By AI agents, Wed Nov 11 2026. No macro, syntax, notation, axiom, sorry.
-/
import Derived.Test.YtehnphoeplmpdaaGreatDoorRows
import GoSem.ClaimSeven
namespace Go.Proofs.YtehnphoeplmpdaaGreatDoor
namespace Rows

/-- THE TIED CARD OF 'laws.FnExactPlanOp'. -/
def fnExactPlanOpCard : Claim7 := { stood := { row := fnExactPlanOpRow, standIns := [], harness := (true, "2a67b57ef07fd12578a798a8cf7675e6548a9f46974d74d8880514e4995559b0"), looks := false }, kinds := [], alts := [], laidByText := true, laidKinds := [.data, .data, .data, .data, .data, .pinned], laidTests := true, laidLooks := .later }
def FnExactPlanOpCardSaid : Prop := Claim7.holds Tryz.pinned (.plain (OpenSpec.ofChange fnExactPlanOpSpec)) fnExactPlanOpCard

/-- THE TIED CARD OF 'laws.FnExactStartOp'. -/
def fnExactStartOpCard : Claim7 := { stood := { row := fnExactStartOpRow, standIns := [], harness := (true, "2a67b57ef07fd12578a798a8cf7675e6548a9f46974d74d8880514e4995559b0"), looks := false }, kinds := [], alts := [], laidByText := true, laidKinds := [.data, .data, .data, .data, .data, .data, .pinned], laidTests := true, laidLooks := .later }
def FnExactStartOpCardSaid : Prop := Claim7.holds Tryz.pinned (.plain (OpenSpec.ofChange fnExactStartOpSpec)) fnExactStartOpCard

/-- THE TIED CARD OF 'laws.FnExactDoOp'. -/
def fnExactDoOpCard : Claim7 := { stood := { row := fnExactDoOpRow, standIns := [], harness := (true, "2a67b57ef07fd12578a798a8cf7675e6548a9f46974d74d8880514e4995559b0"), looks := false }, kinds := [], alts := [], laidByText := true, laidKinds := [.data, .data, .data, .data, .data, .data, .pinned], laidTests := true, laidLooks := .later }
def FnExactDoOpCardSaid : Prop := Claim7.holds Tryz.pinned (.plain (OpenSpec.ofChange fnExactDoOpSpec)) fnExactDoOpCard

/-- THE SECOND FORM's CARD OF 'laws.FnExactPlanOp'. -/
def fnExactPlanOpUptoCard : Claim7 := { stood := { row := fnExactPlanOpUptoRow, standIns := [], harness := (true, "2a67b57ef07fd12578a798a8cf7675e6548a9f46974d74d8880514e4995559b0"), looks := false }, kinds := [], alts := [], laidByText := true, laidKinds := [.data, .data, .data, .data, .data, .pinned], laidTests := true, laidLooks := .later }
def FnExactPlanOpUptoCardSaid : Prop := Claim7.holds Tryz.pinned (.plain (OpenSpec.upto fnExactPlanOpSpec)) fnExactPlanOpUptoCard

/-- THE SECOND FORM's CARD OF 'laws.FnExactStartOp'. -/
def fnExactStartOpUptoCard : Claim7 := { stood := { row := fnExactStartOpUptoRow, standIns := [], harness := (true, "2a67b57ef07fd12578a798a8cf7675e6548a9f46974d74d8880514e4995559b0"), looks := false }, kinds := [], alts := [], laidByText := true, laidKinds := [.data, .data, .data, .data, .data, .data, .pinned], laidTests := true, laidLooks := .later }
def FnExactStartOpUptoCardSaid : Prop := Claim7.holds Tryz.pinned (.plain (OpenSpec.upto fnExactStartOpSpec)) fnExactStartOpUptoCard

/-- THE SECOND FORM's CARD OF 'laws.FnExactDoOp'. -/
def fnExactDoOpUptoCard : Claim7 := { stood := { row := fnExactDoOpUptoRow, standIns := [], harness := (true, "2a67b57ef07fd12578a798a8cf7675e6548a9f46974d74d8880514e4995559b0"), looks := false }, kinds := [], alts := [], laidByText := true, laidKinds := [.data, .data, .data, .data, .data, .data, .pinned], laidTests := true, laidLooks := .later }
def FnExactDoOpUptoCardSaid : Prop := Claim7.holds Tryz.pinned (.plain (OpenSpec.upto fnExactDoOpSpec)) fnExactDoOpUptoCard
end Rows
end Go.Proofs.YtehnphoeplmpdaaGreatDoor
