/-
  DERIVED. GIVEN WITH THE SEED: THE CARDS: each row of YtenadnlgjobmdajDoorRows.lean that lists a variable, with what it lists TIED to the program's text (the seventh form; the later family's looks); each row that meets fmt, with fmt's text TOLD by the authors' own Lean function (tested against real Go, not proved from fmt's source: count such statements apart). THE CARD IS WHAT COUNTS. Prove the row's statement (the work); the ties are given (YtenadnlgjobmdajDoorTie.lean); close each card by the builder's one call (the guide's Derived/Test/ToyasCard.lean, 'card_holds'). Laid BY PROGRAM, IN A SANDBOX (cutbox-door.mjs). By AI agents, Wed Nov 11 2026. No macro, syntax, notation, axiom, sorry.
-/
import Derived.Test.YtenadnlgjobmdajDoorRows
import GoSem.ClaimSeven
namespace Go.Proofs.YtenadnlgjobmdajDoor
namespace Rows

/-- THE TIED CARD OF 'laws.FnExactBlkCrash'. -/
def fnExactBlkCrashCard : Claim7 := { stood := { row := fnExactBlkCrashRow, standIns := [], harness := (true, "f97809a40de26083c6d9aaad3b723791c44128edb8118df85f264bf2fbb5f097"), looks := false }, kinds := [], alts := [], laidByText := true, laidKinds := [.data], laidTests := true, laidLooks := .later }
def FnExactBlkCrashCardSaid : Prop := Claim7.holds Tryd.pinned (.plain (OpenSpec.ofChange fnExactBlkCrashSpec)) fnExactBlkCrashCard

/-- THE TIED CARD OF 'laws.FnExactBlkUnsure'. -/
def fnExactBlkUnsureCard : Claim7 := { stood := { row := fnExactBlkUnsureRow, standIns := [], harness := (true, "f97809a40de26083c6d9aaad3b723791c44128edb8118df85f264bf2fbb5f097"), looks := false }, kinds := [], alts := [], laidByText := true, laidKinds := [.data], laidTests := true, laidLooks := .later }
def FnExactBlkUnsureCardSaid : Prop := Claim7.holds Tryd.pinned (.plain (OpenSpec.ofChange fnExactBlkUnsureSpec)) fnExactBlkUnsureCard

/-- THE TIED CARD OF 'laws.FnExactPackEntry'. -/
def fnExactPackEntryCard : Claim7 := { stood := { row := fnExactPackEntryRow, standIns := [], harness := (true, "f97809a40de26083c6d9aaad3b723791c44128edb8118df85f264bf2fbb5f097"), looks := false }, kinds := [], alts := [], laidByText := true, laidKinds := [.data], laidTests := true, laidLooks := .later }
def FnExactPackEntryCardSaid : Prop := Claim7.holds Tryd.pinned (.plain (OpenSpec.ofChange fnExactPackEntrySpec)) fnExactPackEntryCard

/-- THE TIED CARD OF 'laws.FnExactTierOf'. -/
def fnExactTierOfCard : Claim7 := { stood := { row := fnExactTierOfRow, standIns := [], harness := (true, "f97809a40de26083c6d9aaad3b723791c44128edb8118df85f264bf2fbb5f097"), looks := false }, kinds := [], alts := [], laidByText := true, laidKinds := [.data], laidTests := true, laidLooks := .later }
def FnExactTierOfCardSaid : Prop := Claim7.holds Tryd.pinned (.plain (OpenSpec.ofChange fnExactTierOfSpec)) fnExactTierOfCard

/-- THE SECOND FORM's CARD OF 'laws.FnExactBlkCrash'. -/
def fnExactBlkCrashUptoCard : Claim7 := { stood := { row := fnExactBlkCrashUptoRow, standIns := [], harness := (true, "f97809a40de26083c6d9aaad3b723791c44128edb8118df85f264bf2fbb5f097"), looks := false }, kinds := [], alts := [], laidByText := true, laidKinds := [.data], laidTests := true, laidLooks := .later }
def FnExactBlkCrashUptoCardSaid : Prop := Claim7.holds Tryd.pinned (.plain (OpenSpec.upto fnExactBlkCrashSpec)) fnExactBlkCrashUptoCard

/-- THE SECOND FORM's CARD OF 'laws.FnExactBlkUnsure'. -/
def fnExactBlkUnsureUptoCard : Claim7 := { stood := { row := fnExactBlkUnsureUptoRow, standIns := [], harness := (true, "f97809a40de26083c6d9aaad3b723791c44128edb8118df85f264bf2fbb5f097"), looks := false }, kinds := [], alts := [], laidByText := true, laidKinds := [.data], laidTests := true, laidLooks := .later }
def FnExactBlkUnsureUptoCardSaid : Prop := Claim7.holds Tryd.pinned (.plain (OpenSpec.upto fnExactBlkUnsureSpec)) fnExactBlkUnsureUptoCard

/-- THE SECOND FORM's CARD OF 'laws.FnExactPackEntry'. -/
def fnExactPackEntryUptoCard : Claim7 := { stood := { row := fnExactPackEntryUptoRow, standIns := [], harness := (true, "f97809a40de26083c6d9aaad3b723791c44128edb8118df85f264bf2fbb5f097"), looks := false }, kinds := [], alts := [], laidByText := true, laidKinds := [.data], laidTests := true, laidLooks := .later }
def FnExactPackEntryUptoCardSaid : Prop := Claim7.holds Tryd.pinned (.plain (OpenSpec.upto fnExactPackEntrySpec)) fnExactPackEntryUptoCard

/-- THE SECOND FORM's CARD OF 'laws.FnExactTierOf'. -/
def fnExactTierOfUptoCard : Claim7 := { stood := { row := fnExactTierOfUptoRow, standIns := [], harness := (true, "f97809a40de26083c6d9aaad3b723791c44128edb8118df85f264bf2fbb5f097"), looks := false }, kinds := [], alts := [], laidByText := true, laidKinds := [.data], laidTests := true, laidLooks := .later }
def FnExactTierOfUptoCardSaid : Prop := Claim7.holds Tryd.pinned (.plain (OpenSpec.upto fnExactTierOfSpec)) fnExactTierOfUptoCard
end Rows
end Go.Proofs.YtenadnlgjobmdajDoor
