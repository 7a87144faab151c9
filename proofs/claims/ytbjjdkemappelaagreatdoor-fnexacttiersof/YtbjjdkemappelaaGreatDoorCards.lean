/-
  DERIVED. GIVEN WITH THE SEED: THE CARDS: each row of YtbjjdkemappelaaGreatDoorRows.lean that lists a variable, with what it lists TIED to the program's text (the seventh form; the later family's looks); each row that meets fmt, with fmt's text TOLD by the authors' own Lean function (tested against real Go, not proved from fmt's source: count such statements apart). THE CARD IS WHAT COUNTS. Prove the row's statement (the work); the ties are given (YtbjjdkemappelaaGreatDoorTie.lean); close each card by the builder's one call (the guide's Derived/Test/ToyasCard.lean, 'card_holds'). Laid BY PROGRAM, IN A SANDBOX (cutbox-door.mjs). By AI agents, Wed Nov 11 2026. No macro, syntax, notation, axiom, sorry.
-/
import Derived.Test.YtbjjdkemappelaaGreatDoorRows
import GoSem.ClaimSeven
namespace Go.Proofs.YtbjjdkemappelaaGreatDoor
namespace Rows

/-- THE TIED CARD OF 'laws.FnExactAccounted'. -/
def fnExactAccountedCard : Claim7 := { stood := { row := fnExactAccountedRow, standIns := [], harness := (true, "70a94fc4272d6f375204b45b143036ef62bb5348658326f14197c254d37199d3"), looks := false }, kinds := [], alts := [], laidByText := true, laidKinds := [.data, .data, .data], laidTests := true, laidLooks := .later }
def FnExactAccountedCardSaid : Prop := Claim7.holds Tryz.pinned (.plain (OpenSpec.ofChange fnExactAccountedSpec)) fnExactAccountedCard

/-- THE TIED CARD OF 'laws.FnExactTiersOf'. -/
def fnExactTiersOfCard : Claim7 := { stood := { row := fnExactTiersOfRow, standIns := [], harness := (true, "70a94fc4272d6f375204b45b143036ef62bb5348658326f14197c254d37199d3"), looks := false }, kinds := [], alts := [], laidByText := true, laidKinds := [.data, .data, .data], laidTests := true, laidLooks := .later }
def FnExactTiersOfCardSaid : Prop := Claim7.holds Tryz.pinned (.plain (OpenSpec.ofChange fnExactTiersOfSpec)) fnExactTiersOfCard

/-- THE TIED CARD OF 'laws.FnExactLoose'. -/
def fnExactLooseCard : Claim7 := { stood := { row := fnExactLooseRow, standIns := [], harness := (true, "70a94fc4272d6f375204b45b143036ef62bb5348658326f14197c254d37199d3"), looks := false }, kinds := [], alts := [], laidByText := true, laidKinds := [.data, .data, .data, .data], laidTests := true, laidLooks := .later }
def FnExactLooseCardSaid : Prop := Claim7.holds Tryz.pinned (.plain (OpenSpec.ofChange fnExactLooseSpec)) fnExactLooseCard

/-- THE TIED CARD OF 'laws.FnExactFairWrite'. -/
def fnExactFairWriteCard : Claim7 := { stood := { row := fnExactFairWriteRow, standIns := [], harness := (true, "70a94fc4272d6f375204b45b143036ef62bb5348658326f14197c254d37199d3"), looks := false }, kinds := [], alts := [], laidByText := true, laidKinds := [.data, .data, .data], laidTests := true, laidLooks := .later }
def FnExactFairWriteCardSaid : Prop := Claim7.holds Tryz.pinned (.plain (OpenSpec.ofChange fnExactFairWriteSpec)) fnExactFairWriteCard

/-- THE TIED CARD OF 'laws.FnExactSureOf'. -/
def fnExactSureOfCard : Claim7 := { stood := { row := fnExactSureOfRow, standIns := [], harness := (true, "70a94fc4272d6f375204b45b143036ef62bb5348658326f14197c254d37199d3"), looks := false }, kinds := [], alts := [], laidByText := true, laidKinds := [.data, .data, .data, .data], laidTests := true, laidLooks := .later }
def FnExactSureOfCardSaid : Prop := Claim7.holds Tryz.pinned (.plain (OpenSpec.ofChange fnExactSureOfSpec)) fnExactSureOfCard

/-- THE SECOND FORM's CARD OF 'laws.FnExactAccounted'. -/
def fnExactAccountedUptoCard : Claim7 := { stood := { row := fnExactAccountedUptoRow, standIns := [], harness := (true, "70a94fc4272d6f375204b45b143036ef62bb5348658326f14197c254d37199d3"), looks := false }, kinds := [], alts := [], laidByText := true, laidKinds := [.data, .data, .data], laidTests := true, laidLooks := .later }
def FnExactAccountedUptoCardSaid : Prop := Claim7.holds Tryz.pinned (.plain (OpenSpec.upto fnExactAccountedSpec)) fnExactAccountedUptoCard

/-- THE SECOND FORM's CARD OF 'laws.FnExactTiersOf'. -/
def fnExactTiersOfUptoCard : Claim7 := { stood := { row := fnExactTiersOfUptoRow, standIns := [], harness := (true, "70a94fc4272d6f375204b45b143036ef62bb5348658326f14197c254d37199d3"), looks := false }, kinds := [], alts := [], laidByText := true, laidKinds := [.data, .data, .data], laidTests := true, laidLooks := .later }
def FnExactTiersOfUptoCardSaid : Prop := Claim7.holds Tryz.pinned (.plain (OpenSpec.upto fnExactTiersOfSpec)) fnExactTiersOfUptoCard

/-- THE SECOND FORM's CARD OF 'laws.FnExactLoose'. -/
def fnExactLooseUptoCard : Claim7 := { stood := { row := fnExactLooseUptoRow, standIns := [], harness := (true, "70a94fc4272d6f375204b45b143036ef62bb5348658326f14197c254d37199d3"), looks := false }, kinds := [], alts := [], laidByText := true, laidKinds := [.data, .data, .data, .data], laidTests := true, laidLooks := .later }
def FnExactLooseUptoCardSaid : Prop := Claim7.holds Tryz.pinned (.plain (OpenSpec.upto fnExactLooseSpec)) fnExactLooseUptoCard

/-- THE SECOND FORM's CARD OF 'laws.FnExactFairWrite'. -/
def fnExactFairWriteUptoCard : Claim7 := { stood := { row := fnExactFairWriteUptoRow, standIns := [], harness := (true, "70a94fc4272d6f375204b45b143036ef62bb5348658326f14197c254d37199d3"), looks := false }, kinds := [], alts := [], laidByText := true, laidKinds := [.data, .data, .data], laidTests := true, laidLooks := .later }
def FnExactFairWriteUptoCardSaid : Prop := Claim7.holds Tryz.pinned (.plain (OpenSpec.upto fnExactFairWriteSpec)) fnExactFairWriteUptoCard

/-- THE SECOND FORM's CARD OF 'laws.FnExactSureOf'. -/
def fnExactSureOfUptoCard : Claim7 := { stood := { row := fnExactSureOfUptoRow, standIns := [], harness := (true, "70a94fc4272d6f375204b45b143036ef62bb5348658326f14197c254d37199d3"), looks := false }, kinds := [], alts := [], laidByText := true, laidKinds := [.data, .data, .data, .data], laidTests := true, laidLooks := .later }
def FnExactSureOfUptoCardSaid : Prop := Claim7.holds Tryz.pinned (.plain (OpenSpec.upto fnExactSureOfSpec)) fnExactSureOfUptoCard
end Rows
end Go.Proofs.YtbjjdkemappelaaGreatDoor
