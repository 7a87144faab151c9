/-
  DERIVED. GIVEN WITH THE SEED: THE CARDS: each row of YtihmihkhkmadmaaDoorRows.lean that lists a variable, with what it lists TIED to the program's text (the seventh form; the later family's looks); each row that meets fmt, with fmt's text TOLD by the authors' own Lean function (tested against real Go, not proved from fmt's source: count such statements apart). THE CARD IS WHAT COUNTS. Prove the row's statement (the work); the ties are given (YtihmihkhkmadmaaDoorTie.lean); close each card by the builder's one call (the guide's Derived/Test/ToyasCard.lean, 'card_holds'). Laid BY PROGRAM, IN A SANDBOX (cutbox-door.mjs). By AI agents, Wed Nov 11 2026. No macro, syntax, notation, axiom, sorry.
-/
import Derived.Test.YtihmihkhkmadmaaDoorRows
import GoSem.ClaimSeven
namespace Go.Proofs.YtihmihkhkmadmaaDoor
namespace Rows

/-- THE TIED CARD OF 'laws.FnExactNewModel'. -/
def fnExactNewModelCard : Claim7 := { stood := { row := fnExactNewModelRow, standIns := [], harness := (true, "eed369148fe73deebb9f121239d50e4d9be3201d61e87559fd8cf7e3657777a7"), looks := false }, kinds := [], alts := [], laidByText := true, laidKinds := [.data, .data, .data, .data], laidTests := true, laidLooks := .later }
def FnExactNewModelCardSaid : Prop := Claim7.holds Tryd.pinned (.plain (OpenSpec.ofChange fnExactNewModelSpec)) fnExactNewModelCard

/-- THE TIED CARD OF 'laws.FnExactModelOK'. -/
def fnExactModelOKCard : Claim7 := { stood := { row := fnExactModelOKRow, standIns := [], harness := (true, "eed369148fe73deebb9f121239d50e4d9be3201d61e87559fd8cf7e3657777a7"), looks := false }, kinds := [], alts := [], laidByText := true, laidKinds := [.data, .data, .data], laidTests := true, laidLooks := .later }
def FnExactModelOKCardSaid : Prop := Claim7.holds Tryd.pinned (.plain (OpenSpec.ofChange fnExactModelOKSpec)) fnExactModelOKCard

/-- THE SECOND FORM's CARD OF 'laws.FnExactNewModel'. -/
def fnExactNewModelUptoCard : Claim7 := { stood := { row := fnExactNewModelUptoRow, standIns := [], harness := (true, "eed369148fe73deebb9f121239d50e4d9be3201d61e87559fd8cf7e3657777a7"), looks := false }, kinds := [], alts := [], laidByText := true, laidKinds := [.data, .data, .data, .data], laidTests := true, laidLooks := .later }
def FnExactNewModelUptoCardSaid : Prop := Claim7.holds Tryd.pinned (.plain (OpenSpec.upto fnExactNewModelSpec)) fnExactNewModelUptoCard

/-- THE SECOND FORM's CARD OF 'laws.FnExactModelOK'. -/
def fnExactModelOKUptoCard : Claim7 := { stood := { row := fnExactModelOKUptoRow, standIns := [], harness := (true, "eed369148fe73deebb9f121239d50e4d9be3201d61e87559fd8cf7e3657777a7"), looks := false }, kinds := [], alts := [], laidByText := true, laidKinds := [.data, .data, .data], laidTests := true, laidLooks := .later }
def FnExactModelOKUptoCardSaid : Prop := Claim7.holds Tryd.pinned (.plain (OpenSpec.upto fnExactModelOKSpec)) fnExactModelOKUptoCard
end Rows
end Go.Proofs.YtihmihkhkmadmaaDoor
