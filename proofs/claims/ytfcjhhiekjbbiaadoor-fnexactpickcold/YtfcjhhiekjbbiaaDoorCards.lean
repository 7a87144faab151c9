/-
  DERIVED. GIVEN WITH THE SEED: THE CARDS: each row of YtfcjhhiekjbbiaaDoorRows.lean that lists a variable, with what it lists TIED to the program's text (the seventh form; the later family's looks); each row that meets fmt, with fmt's text TOLD by the authors' own Lean function (tested against real Go, not proved from fmt's source: count such statements apart). THE CARD IS WHAT COUNTS. Prove the row's statement (the work); the ties are given (YtfcjhhiekjbbiaaDoorTie.lean); close each card by the builder's one call (the guide's Derived/Test/ToyasCard.lean, 'card_holds'). Laid BY PROGRAM, IN A SANDBOX (cutbox-door.mjs). By AI agents, Wed Nov 11 2026. No macro, syntax, notation, axiom, sorry.
-/
import Derived.Test.YtfcjhhiekjbbiaaDoorRows
import GoSem.ClaimSeven
namespace Go.Proofs.YtfcjhhiekjbbiaaDoor
namespace Rows

/-- THE TIED CARD OF 'laws.FnExactPickCold'. -/
def fnExactPickColdCard : Claim7 := { stood := { row := fnExactPickColdRow, standIns := [], harness := (true, "a496da7d698e44bf9281d6175dc3bed3f79794573c7f20ca6791fdf73638ba68"), looks := false }, kinds := [], alts := [], laidByText := true, laidKinds := [.data, .data, .data], laidTests := true, laidLooks := .later }
def FnExactPickColdCardSaid : Prop := Claim7.holds Tryd.pinned (.plain (OpenSpec.ofChange fnExactPickColdSpec)) fnExactPickColdCard

/-- THE TIED CARD OF 'laws.FnExactPickHot'. -/
def fnExactPickHotCard : Claim7 := { stood := { row := fnExactPickHotRow, standIns := [], harness := (true, "a496da7d698e44bf9281d6175dc3bed3f79794573c7f20ca6791fdf73638ba68"), looks := false }, kinds := [], alts := [], laidByText := true, laidKinds := [.data, .data, .data], laidTests := true, laidLooks := .later }
def FnExactPickHotCardSaid : Prop := Claim7.holds Tryd.pinned (.plain (OpenSpec.ofChange fnExactPickHotSpec)) fnExactPickHotCard

/-- THE SECOND FORM's CARD OF 'laws.FnExactPickCold'. -/
def fnExactPickColdUptoCard : Claim7 := { stood := { row := fnExactPickColdUptoRow, standIns := [], harness := (true, "a496da7d698e44bf9281d6175dc3bed3f79794573c7f20ca6791fdf73638ba68"), looks := false }, kinds := [], alts := [], laidByText := true, laidKinds := [.data, .data, .data], laidTests := true, laidLooks := .later }
def FnExactPickColdUptoCardSaid : Prop := Claim7.holds Tryd.pinned (.plain (OpenSpec.upto fnExactPickColdSpec)) fnExactPickColdUptoCard

/-- THE SECOND FORM's CARD OF 'laws.FnExactPickHot'. -/
def fnExactPickHotUptoCard : Claim7 := { stood := { row := fnExactPickHotUptoRow, standIns := [], harness := (true, "a496da7d698e44bf9281d6175dc3bed3f79794573c7f20ca6791fdf73638ba68"), looks := false }, kinds := [], alts := [], laidByText := true, laidKinds := [.data, .data, .data], laidTests := true, laidLooks := .later }
def FnExactPickHotUptoCardSaid : Prop := Claim7.holds Tryd.pinned (.plain (OpenSpec.upto fnExactPickHotSpec)) fnExactPickHotUptoCard
end Rows
end Go.Proofs.YtfcjhhiekjbbiaaDoor
