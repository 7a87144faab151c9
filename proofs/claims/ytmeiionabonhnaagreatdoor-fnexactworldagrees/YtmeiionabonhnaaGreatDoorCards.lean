/-
  DERIVED. GIVEN WITH THE SEED: THE CARDS: each row of YtmeiionabonhnaaGreatDoorRows.lean that lists a variable, with what it lists TIED to the program's text (the seventh form; the later family's looks); each row that meets fmt, with fmt's text TOLD by the authors' own Lean function (tested against real Go, not proved from fmt's source: count such statements apart). THE CARD IS WHAT COUNTS. Prove the row's statement (the work); the ties are given (YtmeiionabonhnaaGreatDoorTie.lean); close each card by the builder's one call (the guide's Derived/Test/ToyasCard.lean, 'card_holds'). Laid BY PROGRAM, IN A SANDBOX (cutbox-door.mjs). By AI agents, Wed Nov 11 2026. No macro, syntax, notation, axiom, sorry.
-/
import Derived.Test.YtmeiionabonhnaaGreatDoorRows
import GoSem.ClaimSeven
namespace Go.Proofs.YtmeiionabonhnaaGreatDoor
namespace Rows

/-- THE TIED CARD OF 'laws.FnExactModelText'. -/
def fnExactModelTextCard : Claim7 := { stood := { row := fnExactModelTextRow, standIns := [], harness := (true, "0d6b0017feb53dd2e86f24a973f0a0e90056358574e7c3af2822da6753d79767"), looks := false }, kinds := [], alts := [], laidByText := true, laidKinds := [.data, .data, .data, .data, .data, .data], laidTests := true, laidLooks := .later }
def FnExactModelTextCardSaid : Prop := Claim7.holds Tryz.pinned (.plain (OpenSpec.ofChange fnExactModelTextSpec)) fnExactModelTextCard

/-- THE TIED CARD OF 'laws.FnExactSameModel'. -/
def fnExactSameModelCard : Claim7 := { stood := { row := fnExactSameModelRow, standIns := [], harness := (true, "0d6b0017feb53dd2e86f24a973f0a0e90056358574e7c3af2822da6753d79767"), looks := false }, kinds := [], alts := [], laidByText := true, laidKinds := [.data, .data, .data, .data, .data, .data], laidTests := true, laidLooks := .later }
def FnExactSameModelCardSaid : Prop := Claim7.holds Tryz.pinned (.plain (OpenSpec.ofChange fnExactSameModelSpec)) fnExactSameModelCard

/-- THE TIED CARD OF 'laws.FnExactWorldAgrees'. -/
def fnExactWorldAgreesCard : Claim7 := { stood := { row := fnExactWorldAgreesRow, standIns := [], harness := (true, "0d6b0017feb53dd2e86f24a973f0a0e90056358574e7c3af2822da6753d79767"), looks := false }, kinds := [], alts := [], laidByText := true, laidKinds := [.data, .data, .data, .data, .data, .data, .data, .data], laidTests := true, laidLooks := .later }
def FnExactWorldAgreesCardSaid : Prop := Claim7.holds Tryz.pinned (.plain (OpenSpec.ofChange fnExactWorldAgreesSpec)) fnExactWorldAgreesCard

/-- THE TIED CARD OF 'laws.FnSame'. -/
def fnSameCard : Claim7 := { stood := { row := fnSameRow, standIns := [], harness := (true, "0d6b0017feb53dd2e86f24a973f0a0e90056358574e7c3af2822da6753d79767"), looks := false }, kinds := [], alts := [], laidByText := true, laidKinds := [.data, .data, .data, .data, .data, .data, .data], laidTests := true, laidLooks := .later }
def FnSameCardSaid : Prop := Claim7.holds Tryz.pinned (.plain (OpenSpec.ofChange fnSameSpec)) fnSameCard

/-- THE SECOND FORM's CARD OF 'laws.FnExactModelText'. -/
def fnExactModelTextUptoCard : Claim7 := { stood := { row := fnExactModelTextUptoRow, standIns := [], harness := (true, "0d6b0017feb53dd2e86f24a973f0a0e90056358574e7c3af2822da6753d79767"), looks := false }, kinds := [], alts := [], laidByText := true, laidKinds := [.data, .data, .data, .data, .data, .data], laidTests := true, laidLooks := .later }
def FnExactModelTextUptoCardSaid : Prop := Claim7.holds Tryz.pinned (.plain (OpenSpec.upto fnExactModelTextSpec)) fnExactModelTextUptoCard

/-- THE SECOND FORM's CARD OF 'laws.FnExactSameModel'. -/
def fnExactSameModelUptoCard : Claim7 := { stood := { row := fnExactSameModelUptoRow, standIns := [], harness := (true, "0d6b0017feb53dd2e86f24a973f0a0e90056358574e7c3af2822da6753d79767"), looks := false }, kinds := [], alts := [], laidByText := true, laidKinds := [.data, .data, .data, .data, .data, .data], laidTests := true, laidLooks := .later }
def FnExactSameModelUptoCardSaid : Prop := Claim7.holds Tryz.pinned (.plain (OpenSpec.upto fnExactSameModelSpec)) fnExactSameModelUptoCard

/-- THE SECOND FORM's CARD OF 'laws.FnExactWorldAgrees'. -/
def fnExactWorldAgreesUptoCard : Claim7 := { stood := { row := fnExactWorldAgreesUptoRow, standIns := [], harness := (true, "0d6b0017feb53dd2e86f24a973f0a0e90056358574e7c3af2822da6753d79767"), looks := false }, kinds := [], alts := [], laidByText := true, laidKinds := [.data, .data, .data, .data, .data, .data, .data, .data], laidTests := true, laidLooks := .later }
def FnExactWorldAgreesUptoCardSaid : Prop := Claim7.holds Tryz.pinned (.plain (OpenSpec.upto fnExactWorldAgreesSpec)) fnExactWorldAgreesUptoCard

/-- THE SECOND FORM's CARD OF 'laws.FnSame'. -/
def fnSameUptoCard : Claim7 := { stood := { row := fnSameUptoRow, standIns := [], harness := (true, "0d6b0017feb53dd2e86f24a973f0a0e90056358574e7c3af2822da6753d79767"), looks := false }, kinds := [], alts := [], laidByText := true, laidKinds := [.data, .data, .data, .data, .data, .data, .data], laidTests := true, laidLooks := .later }
def FnSameUptoCardSaid : Prop := Claim7.holds Tryz.pinned (.plain (OpenSpec.upto fnSameSpec)) fnSameUptoCard
end Rows
end Go.Proofs.YtmeiionabonhnaaGreatDoor
