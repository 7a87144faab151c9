/-
  DERIVED. GIVEN WITH THE SEED: THE CARDS: each row of YtipklbnfobckaaaGreatDoorRows.lean that lists a variable, with what it lists TIED to the program's text (the seventh form; the later family's looks); each row that meets fmt, with fmt's text TOLD by the authors' own Lean function (tested against real Go, not proved from fmt's source: count such statements apart). THE CARD IS WHAT COUNTS. Prove the row's statement (the work); the ties are given (YtipklbnfobckaaaGreatDoorTie.lean); close each card by the builder's one call (the guide's Derived/Test/ToyasCard.lean, 'card_holds'). Laid BY PROGRAM, IN A SANDBOX (cutbox-door.mjs). By AI agents, Wed Nov 11 2026. No macro, syntax, notation, axiom, sorry.
-/
import Derived.Test.YtipklbnfobckaaaGreatDoorRows
import GoSem.ClaimSeven
namespace Go.Proofs.YtipklbnfobckaaaGreatDoor
namespace Rows

/-- THE TIED CARD OF 'laws.FnExactFsOK'. -/
def fnExactFsOKCard : Claim7 := { stood := { row := fnExactFsOKRow, standIns := [], harness := (true, "a74a71086dc0677463ff6456991e6bd6242b5aa89ecc989e1db0b6f870d0fab7"), looks := false }, kinds := [], alts := [], laidByText := true, laidKinds := [.data, .data, .data, .data], laidTests := true, laidLooks := .later }
def FnExactFsOKCardSaid : Prop := Claim7.holds Tryz.pinned (.plain (OpenSpec.ofChange fnExactFsOKSpec)) fnExactFsOKCard

/-- THE TIED CARD OF 'laws.FnExactStartOp'. -/
def fnExactStartOpCard : Claim7 := { stood := { row := fnExactStartOpRow, standIns := [], harness := (true, "a74a71086dc0677463ff6456991e6bd6242b5aa89ecc989e1db0b6f870d0fab7"), looks := false }, kinds := [], alts := [], laidByText := true, laidKinds := [.data, .data, .data, .data, .data, .data, .pinned], laidTests := true, laidLooks := .later }
def FnExactStartOpCardSaid : Prop := Claim7.holds Tryz.pinned (.plain (OpenSpec.ofChange fnExactStartOpSpec)) fnExactStartOpCard

/-- THE TIED CARD OF 'laws.FnExactStartMove'. -/
def fnExactStartMoveCard : Claim7 := { stood := { row := fnExactStartMoveRow, standIns := [], harness := (true, "a74a71086dc0677463ff6456991e6bd6242b5aa89ecc989e1db0b6f870d0fab7"), looks := false }, kinds := [], alts := [], laidByText := true, laidKinds := [.data, .data, .data, .data, .data], laidTests := true, laidLooks := .later }
def FnExactStartMoveCardSaid : Prop := Claim7.holds Tryz.pinned (.plain (OpenSpec.ofChange fnExactStartMoveSpec)) fnExactStartMoveCard

/-- THE TIED CARD OF 'laws.FnExactStepFs'. -/
def fnExactStepFsCard : Claim7 := { stood := { row := fnExactStepFsRow, standIns := [], harness := (true, "a74a71086dc0677463ff6456991e6bd6242b5aa89ecc989e1db0b6f870d0fab7"), looks := false }, kinds := [], alts := [], laidByText := true, laidKinds := [.data, .data, .data, .data], laidTests := true, laidLooks := .later }
def FnExactStepFsCardSaid : Prop := Claim7.holds Tryz.pinned (.plain (OpenSpec.ofChange fnExactStepFsSpec)) fnExactStepFsCard

/-- THE TIED CARD OF 'laws.FnExactFinishFs'. -/
def fnExactFinishFsCard : Claim7 := { stood := { row := fnExactFinishFsRow, standIns := [], harness := (true, "a74a71086dc0677463ff6456991e6bd6242b5aa89ecc989e1db0b6f870d0fab7"), looks := false }, kinds := [], alts := [], laidByText := true, laidKinds := [.data, .data, .data, .data], laidTests := true, laidLooks := .later }
def FnExactFinishFsCardSaid : Prop := Claim7.holds Tryz.pinned (.plain (OpenSpec.ofChange fnExactFinishFsSpec)) fnExactFinishFsCard

/-- THE TIED CARD OF 'laws.FnExactTakeAnswer'. -/
def fnExactTakeAnswerCard : Claim7 := { stood := { row := fnExactTakeAnswerRow, standIns := [], harness := (true, "a74a71086dc0677463ff6456991e6bd6242b5aa89ecc989e1db0b6f870d0fab7"), looks := false }, kinds := [], alts := [], laidByText := true, laidKinds := [.data, .data, .data, .data], laidTests := true, laidLooks := .later }
def FnExactTakeAnswerCardSaid : Prop := Claim7.holds Tryz.pinned (.plain (OpenSpec.ofChange fnExactTakeAnswerSpec)) fnExactTakeAnswerCard

/-- THE TIED CARD OF 'laws.FnExactDoOp'. -/
def fnExactDoOpCard : Claim7 := { stood := { row := fnExactDoOpRow, standIns := [], harness := (true, "a74a71086dc0677463ff6456991e6bd6242b5aa89ecc989e1db0b6f870d0fab7"), looks := false }, kinds := [], alts := [], laidByText := true, laidKinds := [.data, .data, .data, .data, .data, .data, .pinned], laidTests := true, laidLooks := .later }
def FnExactDoOpCardSaid : Prop := Claim7.holds Tryz.pinned (.plain (OpenSpec.ofChange fnExactDoOpSpec)) fnExactDoOpCard

/-- THE TIED CARD OF 'laws.FnExactDecayFs'. -/
def fnExactDecayFsCard : Claim7 := { stood := { row := fnExactDecayFsRow, standIns := [], harness := (true, "a74a71086dc0677463ff6456991e6bd6242b5aa89ecc989e1db0b6f870d0fab7"), looks := false }, kinds := [], alts := [], laidByText := true, laidKinds := [.data, .data, .data, .data], laidTests := true, laidLooks := .later }
def FnExactDecayFsCardSaid : Prop := Claim7.holds Tryz.pinned (.plain (OpenSpec.ofChange fnExactDecayFsSpec)) fnExactDecayFsCard

/-- THE SECOND FORM's CARD OF 'laws.FnExactFsOK'. -/
def fnExactFsOKUptoCard : Claim7 := { stood := { row := fnExactFsOKUptoRow, standIns := [], harness := (true, "a74a71086dc0677463ff6456991e6bd6242b5aa89ecc989e1db0b6f870d0fab7"), looks := false }, kinds := [], alts := [], laidByText := true, laidKinds := [.data, .data, .data, .data], laidTests := true, laidLooks := .later }
def FnExactFsOKUptoCardSaid : Prop := Claim7.holds Tryz.pinned (.plain (OpenSpec.upto fnExactFsOKSpec)) fnExactFsOKUptoCard

/-- THE SECOND FORM's CARD OF 'laws.FnExactStartOp'. -/
def fnExactStartOpUptoCard : Claim7 := { stood := { row := fnExactStartOpUptoRow, standIns := [], harness := (true, "a74a71086dc0677463ff6456991e6bd6242b5aa89ecc989e1db0b6f870d0fab7"), looks := false }, kinds := [], alts := [], laidByText := true, laidKinds := [.data, .data, .data, .data, .data, .data, .pinned], laidTests := true, laidLooks := .later }
def FnExactStartOpUptoCardSaid : Prop := Claim7.holds Tryz.pinned (.plain (OpenSpec.upto fnExactStartOpSpec)) fnExactStartOpUptoCard

/-- THE SECOND FORM's CARD OF 'laws.FnExactStartMove'. -/
def fnExactStartMoveUptoCard : Claim7 := { stood := { row := fnExactStartMoveUptoRow, standIns := [], harness := (true, "a74a71086dc0677463ff6456991e6bd6242b5aa89ecc989e1db0b6f870d0fab7"), looks := false }, kinds := [], alts := [], laidByText := true, laidKinds := [.data, .data, .data, .data, .data], laidTests := true, laidLooks := .later }
def FnExactStartMoveUptoCardSaid : Prop := Claim7.holds Tryz.pinned (.plain (OpenSpec.upto fnExactStartMoveSpec)) fnExactStartMoveUptoCard

/-- THE SECOND FORM's CARD OF 'laws.FnExactStepFs'. -/
def fnExactStepFsUptoCard : Claim7 := { stood := { row := fnExactStepFsUptoRow, standIns := [], harness := (true, "a74a71086dc0677463ff6456991e6bd6242b5aa89ecc989e1db0b6f870d0fab7"), looks := false }, kinds := [], alts := [], laidByText := true, laidKinds := [.data, .data, .data, .data], laidTests := true, laidLooks := .later }
def FnExactStepFsUptoCardSaid : Prop := Claim7.holds Tryz.pinned (.plain (OpenSpec.upto fnExactStepFsSpec)) fnExactStepFsUptoCard

/-- THE SECOND FORM's CARD OF 'laws.FnExactFinishFs'. -/
def fnExactFinishFsUptoCard : Claim7 := { stood := { row := fnExactFinishFsUptoRow, standIns := [], harness := (true, "a74a71086dc0677463ff6456991e6bd6242b5aa89ecc989e1db0b6f870d0fab7"), looks := false }, kinds := [], alts := [], laidByText := true, laidKinds := [.data, .data, .data, .data], laidTests := true, laidLooks := .later }
def FnExactFinishFsUptoCardSaid : Prop := Claim7.holds Tryz.pinned (.plain (OpenSpec.upto fnExactFinishFsSpec)) fnExactFinishFsUptoCard

/-- THE SECOND FORM's CARD OF 'laws.FnExactTakeAnswer'. -/
def fnExactTakeAnswerUptoCard : Claim7 := { stood := { row := fnExactTakeAnswerUptoRow, standIns := [], harness := (true, "a74a71086dc0677463ff6456991e6bd6242b5aa89ecc989e1db0b6f870d0fab7"), looks := false }, kinds := [], alts := [], laidByText := true, laidKinds := [.data, .data, .data, .data], laidTests := true, laidLooks := .later }
def FnExactTakeAnswerUptoCardSaid : Prop := Claim7.holds Tryz.pinned (.plain (OpenSpec.upto fnExactTakeAnswerSpec)) fnExactTakeAnswerUptoCard

/-- THE SECOND FORM's CARD OF 'laws.FnExactDoOp'. -/
def fnExactDoOpUptoCard : Claim7 := { stood := { row := fnExactDoOpUptoRow, standIns := [], harness := (true, "a74a71086dc0677463ff6456991e6bd6242b5aa89ecc989e1db0b6f870d0fab7"), looks := false }, kinds := [], alts := [], laidByText := true, laidKinds := [.data, .data, .data, .data, .data, .data, .pinned], laidTests := true, laidLooks := .later }
def FnExactDoOpUptoCardSaid : Prop := Claim7.holds Tryz.pinned (.plain (OpenSpec.upto fnExactDoOpSpec)) fnExactDoOpUptoCard

/-- THE SECOND FORM's CARD OF 'laws.FnExactDecayFs'. -/
def fnExactDecayFsUptoCard : Claim7 := { stood := { row := fnExactDecayFsUptoRow, standIns := [], harness := (true, "a74a71086dc0677463ff6456991e6bd6242b5aa89ecc989e1db0b6f870d0fab7"), looks := false }, kinds := [], alts := [], laidByText := true, laidKinds := [.data, .data, .data, .data], laidTests := true, laidLooks := .later }
def FnExactDecayFsUptoCardSaid : Prop := Claim7.holds Tryz.pinned (.plain (OpenSpec.upto fnExactDecayFsSpec)) fnExactDecayFsUptoCard
end Rows
end Go.Proofs.YtipklbnfobckaaaGreatDoor
