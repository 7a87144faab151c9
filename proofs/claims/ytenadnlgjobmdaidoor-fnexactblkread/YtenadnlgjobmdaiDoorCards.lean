/-
  DERIVED. GIVEN WITH THE SEED: THE CARDS: each row of YtenadnlgjobmdaiDoorRows.lean that lists a variable, with what it lists TIED to the program's text (the seventh form; the later family's looks); each row that meets fmt, with fmt's text TOLD by the authors' own Lean function (tested against real Go, not proved from fmt's source: count such statements apart). THE CARD IS WHAT COUNTS. Prove the row's statement (the work); the ties are given (YtenadnlgjobmdaiDoorTie.lean); close each card by the builder's one call (the guide's Derived/Test/ToyasCard.lean, 'card_holds'). Laid BY PROGRAM, IN A SANDBOX (cutbox-door.mjs). By AI agents, Wed Nov 11 2026. No macro, syntax, notation, axiom, sorry.
-/
import Derived.Test.YtenadnlgjobmdaiDoorRows
import GoSem.ClaimSeven
namespace Go.Proofs.YtenadnlgjobmdaiDoor
namespace Rows

/-- THE TIED CARD OF 'laws.FnExactBlkRead'. -/
def fnExactBlkReadCard : Claim7 := { stood := { row := fnExactBlkReadRow, standIns := [], harness := (true, "2ec3af2e03165e2a819086878094b14e6dbf5a27aa8bd69cb170eeab9e451c81"), looks := false }, kinds := [], alts := [], laidByText := true, laidKinds := [.data], laidTests := true, laidLooks := .later }
def FnExactBlkReadCardSaid : Prop := Claim7.holds Tryd.pinned (.plain (OpenSpec.ofChange fnExactBlkReadSpec)) fnExactBlkReadCard

/-- THE SECOND FORM's CARD OF 'laws.FnExactBlkRead'. -/
def fnExactBlkReadUptoCard : Claim7 := { stood := { row := fnExactBlkReadUptoRow, standIns := [], harness := (true, "2ec3af2e03165e2a819086878094b14e6dbf5a27aa8bd69cb170eeab9e451c81"), looks := false }, kinds := [], alts := [], laidByText := true, laidKinds := [.data], laidTests := true, laidLooks := .later }
def FnExactBlkReadUptoCardSaid : Prop := Claim7.holds Tryd.pinned (.plain (OpenSpec.upto fnExactBlkReadSpec)) fnExactBlkReadUptoCard
end Rows
end Go.Proofs.YtenadnlgjobmdaiDoor
