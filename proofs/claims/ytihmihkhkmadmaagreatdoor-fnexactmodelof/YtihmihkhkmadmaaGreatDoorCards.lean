/-
  DERIVED. GIVEN WITH THE SEED: THE CARDS: each row of YtihmihkhkmadmaaGreatDoorRows.lean that lists a variable, with what it lists TIED to the program's text (the seventh form; the later family's looks); each row that meets fmt, with fmt's text TOLD by the authors' own Lean function (tested against real Go, not proved from fmt's source: count such statements apart). THE CARD IS WHAT COUNTS. Prove the row's statement (the work); the ties are given (YtihmihkhkmadmaaGreatDoorTie.lean); close each card by the builder's one call (the guide's Derived/Test/ToyasCard.lean, 'card_holds'). Laid BY PROGRAM, IN A SANDBOX (cutbox-door.mjs). By AI agents, Wed Nov 11 2026. No macro, syntax, notation, axiom, sorry.
-/
import Derived.Test.YtihmihkhkmadmaaGreatDoorRows
import GoSem.ClaimSeven
namespace Go.Proofs.YtihmihkhkmadmaaGreatDoor
namespace Rows

/-- THE TIED CARD OF 'laws.FnExactModelOf'. -/
def fnExactModelOfCard : Claim7 := { stood := { row := fnExactModelOfRow, standIns := [], harness := (true, "274088bf3d9a768492a1f3a65787c1ec631616ce2a1ac806a78e8a5b0fbd9faa"), looks := false }, kinds := [], alts := [], laidByText := true, laidKinds := [.data, .data, .data, .data], laidTests := true, laidLooks := .later }
def FnExactModelOfCardSaid : Prop := Claim7.holds Tryz.pinned (.plain (OpenSpec.ofChange fnExactModelOfSpec)) fnExactModelOfCard

/-- THE SECOND FORM's CARD OF 'laws.FnExactModelOf'. -/
def fnExactModelOfUptoCard : Claim7 := { stood := { row := fnExactModelOfUptoRow, standIns := [], harness := (true, "274088bf3d9a768492a1f3a65787c1ec631616ce2a1ac806a78e8a5b0fbd9faa"), looks := false }, kinds := [], alts := [], laidByText := true, laidKinds := [.data, .data, .data, .data], laidTests := true, laidLooks := .later }
def FnExactModelOfUptoCardSaid : Prop := Claim7.holds Tryz.pinned (.plain (OpenSpec.upto fnExactModelOfSpec)) fnExactModelOfUptoCard
end Rows
end Go.Proofs.YtihmihkhkmadmaaGreatDoor
