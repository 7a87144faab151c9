/-
  DERIVED. GIVEN WITH THE SEED: THE CARDS: each row of YtlgghookekokaaaGreatDoorRows.lean that lists a variable, with what it lists TIED to the program's text (the seventh form; the later family's looks); each row that meets fmt, with fmt's text TOLD by the authors' own Lean function (tested against real Go, not proved from fmt's source: count such statements apart). THE CARD IS WHAT COUNTS. Prove the row's statement (the work); the ties are given (YtlgghookekokaaaGreatDoorTie.lean); close each card by the builder's one call (the guide's Derived/Test/ToyasCard.lean, 'card_holds'). Laid BY PROGRAM, IN A SANDBOX (cutbox-door.mjs). By AI agents, Wed Nov 11 2026. No macro, syntax, notation, axiom, sorry.
-/
import Derived.Test.YtlgghookekokaaaGreatDoorRows
import GoSem.ClaimSeven
namespace Go.Proofs.YtlgghookekokaaaGreatDoor
namespace Rows

/-- THE TIED CARD OF 'laws.FnImage'. -/
def fnImageCard : Claim7 := { stood := { row := fnImageRow, standIns := [], harness := (true, "9a85170f7d8924a1a455bf33be5d6f64ea6686846e7e3b6dbe684f5471fdda13"), looks := false }, kinds := [], alts := [], laidByText := true, laidKinds := [.data, .data, .data], laidTests := true, laidLooks := .later }
def FnImageCardSaid : Prop := Claim7.holds Tryz.pinned (.plain (OpenSpec.ofChange fnImageSpec)) fnImageCard

/-- THE TIED CARD OF 'laws.FnFree'. -/
def fnFreeCard : Claim7 := { stood := { row := fnFreeRow, standIns := [], harness := (true, "9a85170f7d8924a1a455bf33be5d6f64ea6686846e7e3b6dbe684f5471fdda13"), looks := false }, kinds := [], alts := [], laidByText := true, laidKinds := [.data, .data, .data], laidTests := true, laidLooks := .later }
def FnFreeCardSaid : Prop := Claim7.holds Tryz.pinned (.plain (OpenSpec.ofChange fnFreeSpec)) fnFreeCard

/-- THE TIED CARD OF 'laws.FnPaths'. -/
def fnPathsCard : Claim7 := { stood := { row := fnPathsRow, standIns := [], harness := (true, "9a85170f7d8924a1a455bf33be5d6f64ea6686846e7e3b6dbe684f5471fdda13"), looks := false }, kinds := [], alts := [], laidByText := true, laidKinds := [.data, .data, .data, .data, .pinned], laidTests := true, laidLooks := .later }
def FnPathsCardSaid : Prop := Claim7.holds Tryz.pinned (.plain (OpenSpec.ofChange fnPathsSpec)) fnPathsCard

/-- THE TIED CARD OF 'laws.FnLookup'. -/
def fnLookupCard : Claim7 := { stood := { row := fnLookupRow, standIns := [], harness := (true, "9a85170f7d8924a1a455bf33be5d6f64ea6686846e7e3b6dbe684f5471fdda13"), looks := false }, kinds := [], alts := [], laidByText := true, laidKinds := [.data, .data, .data, .data, .pinned], laidTests := true, laidLooks := .later }
def FnLookupCardSaid : Prop := Claim7.holds Tryz.pinned (.plain (OpenSpec.ofChange fnLookupSpec)) fnLookupCard

/-- THE TIED CARD OF 'laws.FnPick'. -/
def fnPickCard : Claim7 := { stood := { row := fnPickRow, standIns := [], harness := (true, "9a85170f7d8924a1a455bf33be5d6f64ea6686846e7e3b6dbe684f5471fdda13"), looks := false }, kinds := [], alts := [], laidByText := true, laidKinds := [.data, .data, .data], laidTests := true, laidLooks := .later }
def FnPickCardSaid : Prop := Claim7.holds Tryz.pinned (.plain (OpenSpec.ofChange fnPickSpec)) fnPickCard

/-- THE SECOND FORM's CARD OF 'laws.FnImage'. -/
def fnImageUptoCard : Claim7 := { stood := { row := fnImageUptoRow, standIns := [], harness := (true, "9a85170f7d8924a1a455bf33be5d6f64ea6686846e7e3b6dbe684f5471fdda13"), looks := false }, kinds := [], alts := [], laidByText := true, laidKinds := [.data, .data, .data], laidTests := true, laidLooks := .later }
def FnImageUptoCardSaid : Prop := Claim7.holds Tryz.pinned (.plain (OpenSpec.upto fnImageSpec)) fnImageUptoCard

/-- THE SECOND FORM's CARD OF 'laws.FnFree'. -/
def fnFreeUptoCard : Claim7 := { stood := { row := fnFreeUptoRow, standIns := [], harness := (true, "9a85170f7d8924a1a455bf33be5d6f64ea6686846e7e3b6dbe684f5471fdda13"), looks := false }, kinds := [], alts := [], laidByText := true, laidKinds := [.data, .data, .data], laidTests := true, laidLooks := .later }
def FnFreeUptoCardSaid : Prop := Claim7.holds Tryz.pinned (.plain (OpenSpec.upto fnFreeSpec)) fnFreeUptoCard

/-- THE SECOND FORM's CARD OF 'laws.FnPaths'. -/
def fnPathsUptoCard : Claim7 := { stood := { row := fnPathsUptoRow, standIns := [], harness := (true, "9a85170f7d8924a1a455bf33be5d6f64ea6686846e7e3b6dbe684f5471fdda13"), looks := false }, kinds := [], alts := [], laidByText := true, laidKinds := [.data, .data, .data, .data, .pinned], laidTests := true, laidLooks := .later }
def FnPathsUptoCardSaid : Prop := Claim7.holds Tryz.pinned (.plain (OpenSpec.upto fnPathsSpec)) fnPathsUptoCard

/-- THE SECOND FORM's CARD OF 'laws.FnLookup'. -/
def fnLookupUptoCard : Claim7 := { stood := { row := fnLookupUptoRow, standIns := [], harness := (true, "9a85170f7d8924a1a455bf33be5d6f64ea6686846e7e3b6dbe684f5471fdda13"), looks := false }, kinds := [], alts := [], laidByText := true, laidKinds := [.data, .data, .data, .data, .pinned], laidTests := true, laidLooks := .later }
def FnLookupUptoCardSaid : Prop := Claim7.holds Tryz.pinned (.plain (OpenSpec.upto fnLookupSpec)) fnLookupUptoCard

/-- THE SECOND FORM's CARD OF 'laws.FnPick'. -/
def fnPickUptoCard : Claim7 := { stood := { row := fnPickUptoRow, standIns := [], harness := (true, "9a85170f7d8924a1a455bf33be5d6f64ea6686846e7e3b6dbe684f5471fdda13"), looks := false }, kinds := [], alts := [], laidByText := true, laidKinds := [.data, .data, .data], laidTests := true, laidLooks := .later }
def FnPickUptoCardSaid : Prop := Claim7.holds Tryz.pinned (.plain (OpenSpec.upto fnPickSpec)) fnPickUptoCard
end Rows
end Go.Proofs.YtlgghookekokaaaGreatDoor
