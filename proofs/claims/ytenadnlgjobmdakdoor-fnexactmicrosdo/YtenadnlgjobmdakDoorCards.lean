/-
  DERIVED. GIVEN WITH THE SEED: THE CARDS: each row of YtenadnlgjobmdakDoorRows.lean that lists a variable, with what it lists TIED to the program's text (the seventh form; the later family's looks); each row that meets fmt, with fmt's text TOLD by the authors' own Lean function (tested against real Go, not proved from fmt's source: count such statements apart). THE CARD IS WHAT COUNTS. Prove the row's statement (the work); the ties are given (YtenadnlgjobmdakDoorTie.lean); close each card by the builder's one call (the guide's Derived/Test/ToyasCard.lean, 'card_holds'). Laid BY PROGRAM, IN A SANDBOX (cutbox-door.mjs). By AI agents, Wed Nov 11 2026. No macro, syntax, notation, axiom, sorry.
-/
import Derived.Test.YtenadnlgjobmdakDoorRows
import GoSem.ClaimSeven
namespace Go.Proofs.YtenadnlgjobmdakDoor
namespace Rows

/-- THE TIED CARD OF 'laws.FnExactMicroDo'. -/
def fnExactMicroDoCard : Claim7 := { stood := { row := fnExactMicroDoRow, standIns := [], harness := (true, "66dedd949b8a6323c39d54c2967e8a42f4a61f2e1dca8721a573d9dcd2b717c7"), looks := false }, kinds := [], alts := [], laidByText := true, laidKinds := [.data], laidTests := true, laidLooks := .later }
def FnExactMicroDoCardSaid : Prop := Claim7.holds Tryd.pinned (.plain (OpenSpec.ofChange fnExactMicroDoSpec)) fnExactMicroDoCard

/-- THE TIED CARD OF 'laws.FnExactMicrosDo'. -/
def fnExactMicrosDoCard : Claim7 := { stood := { row := fnExactMicrosDoRow, standIns := [], harness := (true, "66dedd949b8a6323c39d54c2967e8a42f4a61f2e1dca8721a573d9dcd2b717c7"), looks := false }, kinds := [], alts := [], laidByText := true, laidKinds := [.data], laidTests := true, laidLooks := .later }
def FnExactMicrosDoCardSaid : Prop := Claim7.holds Tryd.pinned (.plain (OpenSpec.ofChange fnExactMicrosDoSpec)) fnExactMicrosDoCard

/-- THE SECOND FORM's CARD OF 'laws.FnExactMicroDo'. -/
def fnExactMicroDoUptoCard : Claim7 := { stood := { row := fnExactMicroDoUptoRow, standIns := [], harness := (true, "66dedd949b8a6323c39d54c2967e8a42f4a61f2e1dca8721a573d9dcd2b717c7"), looks := false }, kinds := [], alts := [], laidByText := true, laidKinds := [.data], laidTests := true, laidLooks := .later }
def FnExactMicroDoUptoCardSaid : Prop := Claim7.holds Tryd.pinned (.plain (OpenSpec.upto fnExactMicroDoSpec)) fnExactMicroDoUptoCard

/-- THE SECOND FORM's CARD OF 'laws.FnExactMicrosDo'. -/
def fnExactMicrosDoUptoCard : Claim7 := { stood := { row := fnExactMicrosDoUptoRow, standIns := [], harness := (true, "66dedd949b8a6323c39d54c2967e8a42f4a61f2e1dca8721a573d9dcd2b717c7"), looks := false }, kinds := [], alts := [], laidByText := true, laidKinds := [.data], laidTests := true, laidLooks := .later }
def FnExactMicrosDoUptoCardSaid : Prop := Claim7.holds Tryd.pinned (.plain (OpenSpec.upto fnExactMicrosDoSpec)) fnExactMicrosDoUptoCard
end Rows
end Go.Proofs.YtenadnlgjobmdakDoor
