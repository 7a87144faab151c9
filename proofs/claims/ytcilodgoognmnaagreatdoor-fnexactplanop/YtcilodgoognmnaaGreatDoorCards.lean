/-
  DERIVED. GIVEN WITH THE SEED: THE CARDS: each row of YtcilodgoognmnaaGreatDoorRows.lean that lists a variable, with what it lists TIED to the program's text (the seventh form; the later family's looks); each row that meets fmt, with fmt's text TOLD by the authors' own Lean function (tested against real Go, not proved from fmt's source: count such statements apart). THE CARD IS WHAT COUNTS. Prove the row's statement (the work); the ties are given (YtcilodgoognmnaaGreatDoorTie.lean); close each card by the builder's one call (the guide's Derived/Test/ToyasCard.lean, 'card_holds'). Laid BY PROGRAM, IN A SANDBOX (cutbox-door.mjs). By AI agents, Wed Nov 11 2026. No macro, syntax, notation, axiom, sorry.
-/
import Derived.Test.YtcilodgoognmnaaGreatDoorRows
import GoSem.ClaimSeven
namespace Go.Proofs.YtcilodgoognmnaaGreatDoor
namespace Rows

/-- THE TIED CARD OF 'laws.FnExactReadPage'. -/
def fnExactReadPageCard : Claim7 := { stood := { row := fnExactReadPageRow, standIns := [], harness := (true, "ac65f08a27800922f876c53ad0832ce2e3528832fdfb740b67e80575dbb3e91a"), looks := false }, kinds := [], alts := [], laidByText := true, laidKinds := [.data, .data, .data, .data, .data, .pinned], laidTests := true, laidLooks := .later }
def FnExactReadPageCardSaid : Prop := Claim7.holds Tryz.pinned (.plain (OpenSpec.ofChange fnExactReadPageSpec)) fnExactReadPageCard

/-- THE TIED CARD OF 'laws.FnExactPlanWrite'. -/
def fnExactPlanWriteCard : Claim7 := { stood := { row := fnExactPlanWriteRow, standIns := [], harness := (true, "ac65f08a27800922f876c53ad0832ce2e3528832fdfb740b67e80575dbb3e91a"), looks := false }, kinds := [], alts := [], laidByText := true, laidKinds := [.data, .data, .data, .data, .pinned], laidTests := true, laidLooks := .later }
def FnExactPlanWriteCardSaid : Prop := Claim7.holds Tryz.pinned (.plain (OpenSpec.ofChange fnExactPlanWriteSpec)) fnExactPlanWriteCard

/-- THE TIED CARD OF 'laws.FnExactPlanCut'. -/
def fnExactPlanCutCard : Claim7 := { stood := { row := fnExactPlanCutRow, standIns := [], harness := (true, "ac65f08a27800922f876c53ad0832ce2e3528832fdfb740b67e80575dbb3e91a"), looks := false }, kinds := [], alts := [], laidByText := true, laidKinds := [.data, .data, .data, .data, .pinned], laidTests := true, laidLooks := .later }
def FnExactPlanCutCardSaid : Prop := Claim7.holds Tryz.pinned (.plain (OpenSpec.ofChange fnExactPlanCutSpec)) fnExactPlanCutCard

/-- THE TIED CARD OF 'laws.FnExactPlanOp'. -/
def fnExactPlanOpCard : Claim7 := { stood := { row := fnExactPlanOpRow, standIns := [], harness := (true, "ac65f08a27800922f876c53ad0832ce2e3528832fdfb740b67e80575dbb3e91a"), looks := false }, kinds := [], alts := [], laidByText := true, laidKinds := [.data, .data, .data, .data, .data, .pinned], laidTests := true, laidLooks := .later }
def FnExactPlanOpCardSaid : Prop := Claim7.holds Tryz.pinned (.plain (OpenSpec.ofChange fnExactPlanOpSpec)) fnExactPlanOpCard

/-- THE TIED CARD OF 'laws.FnExactPagesOf'. -/
def fnExactPagesOfCard : Claim7 := { stood := { row := fnExactPagesOfRow, standIns := [], harness := (true, "ac65f08a27800922f876c53ad0832ce2e3528832fdfb740b67e80575dbb3e91a"), looks := false }, kinds := [], alts := [], laidByText := true, laidKinds := [.data, .data, .data, .data, .data, .pinned], laidTests := true, laidLooks := .later }
def FnExactPagesOfCardSaid : Prop := Claim7.holds Tryz.pinned (.plain (OpenSpec.ofChange fnExactPagesOfSpec)) fnExactPagesOfCard

/-- THE SECOND FORM's CARD OF 'laws.FnExactReadPage'. -/
def fnExactReadPageUptoCard : Claim7 := { stood := { row := fnExactReadPageUptoRow, standIns := [], harness := (true, "ac65f08a27800922f876c53ad0832ce2e3528832fdfb740b67e80575dbb3e91a"), looks := false }, kinds := [], alts := [], laidByText := true, laidKinds := [.data, .data, .data, .data, .data, .pinned], laidTests := true, laidLooks := .later }
def FnExactReadPageUptoCardSaid : Prop := Claim7.holds Tryz.pinned (.plain (OpenSpec.upto fnExactReadPageSpec)) fnExactReadPageUptoCard

/-- THE SECOND FORM's CARD OF 'laws.FnExactPlanWrite'. -/
def fnExactPlanWriteUptoCard : Claim7 := { stood := { row := fnExactPlanWriteUptoRow, standIns := [], harness := (true, "ac65f08a27800922f876c53ad0832ce2e3528832fdfb740b67e80575dbb3e91a"), looks := false }, kinds := [], alts := [], laidByText := true, laidKinds := [.data, .data, .data, .data, .pinned], laidTests := true, laidLooks := .later }
def FnExactPlanWriteUptoCardSaid : Prop := Claim7.holds Tryz.pinned (.plain (OpenSpec.upto fnExactPlanWriteSpec)) fnExactPlanWriteUptoCard

/-- THE SECOND FORM's CARD OF 'laws.FnExactPlanCut'. -/
def fnExactPlanCutUptoCard : Claim7 := { stood := { row := fnExactPlanCutUptoRow, standIns := [], harness := (true, "ac65f08a27800922f876c53ad0832ce2e3528832fdfb740b67e80575dbb3e91a"), looks := false }, kinds := [], alts := [], laidByText := true, laidKinds := [.data, .data, .data, .data, .pinned], laidTests := true, laidLooks := .later }
def FnExactPlanCutUptoCardSaid : Prop := Claim7.holds Tryz.pinned (.plain (OpenSpec.upto fnExactPlanCutSpec)) fnExactPlanCutUptoCard

/-- THE SECOND FORM's CARD OF 'laws.FnExactPlanOp'. -/
def fnExactPlanOpUptoCard : Claim7 := { stood := { row := fnExactPlanOpUptoRow, standIns := [], harness := (true, "ac65f08a27800922f876c53ad0832ce2e3528832fdfb740b67e80575dbb3e91a"), looks := false }, kinds := [], alts := [], laidByText := true, laidKinds := [.data, .data, .data, .data, .data, .pinned], laidTests := true, laidLooks := .later }
def FnExactPlanOpUptoCardSaid : Prop := Claim7.holds Tryz.pinned (.plain (OpenSpec.upto fnExactPlanOpSpec)) fnExactPlanOpUptoCard

/-- THE SECOND FORM's CARD OF 'laws.FnExactPagesOf'. -/
def fnExactPagesOfUptoCard : Claim7 := { stood := { row := fnExactPagesOfUptoRow, standIns := [], harness := (true, "ac65f08a27800922f876c53ad0832ce2e3528832fdfb740b67e80575dbb3e91a"), looks := false }, kinds := [], alts := [], laidByText := true, laidKinds := [.data, .data, .data, .data, .data, .pinned], laidTests := true, laidLooks := .later }
def FnExactPagesOfUptoCardSaid : Prop := Claim7.holds Tryz.pinned (.plain (OpenSpec.upto fnExactPagesOfSpec)) fnExactPagesOfUptoCard
end Rows
end Go.Proofs.YtcilodgoognmnaaGreatDoor
