/-
  DERIVED. GIVEN WITH THE SEED: THE CARDS: each row of YtkdkcnjhjlakoajDoorRows.lean that lists a variable, with what it lists TIED to the program's text (the seventh form; the later family's looks); each row that meets fmt, with fmt's text TOLD by the authors' own Lean function (tested against real Go, not proved from fmt's source: count such statements apart). THE CARD IS WHAT COUNTS. Prove the row's statement (the work); the ties are given (YtkdkcnjhjlakoajDoorTie.lean); close each card by the builder's one call (the guide's Derived/Test/ToyasCard.lean, 'card_holds'). Laid BY PROGRAM, IN A SANDBOX (cutbox-door.mjs). By AI agents, Wed Nov 11 2026. No macro, syntax, notation, axiom, sorry.
-/
import Derived.Test.YtkdkcnjhjlakoajDoorRows
import GoSem.ClaimSeven
namespace Go.Proofs.YtkdkcnjhjlakoajDoor
namespace Rows

/-- THE TIED CARD OF 'laws.FnExactBlkCrash'. -/
def fnExactBlkCrashCard : Claim7 := { stood := { row := fnExactBlkCrashRow, standIns := [], harness := (true, "02c2b8d1a0ca20b3e5367ae7f3876ad759958d6df31274723316d72a8fda689d"), looks := false }, kinds := [], alts := [], laidByText := true, laidKinds := [.data], laidTests := true, laidLooks := .later }
def FnExactBlkCrashCardSaid : Prop := Claim7.holds Tryd.pinned (.plain (OpenSpec.ofChange fnExactBlkCrashSpec)) fnExactBlkCrashCard

/-- THE TIED CARD OF 'laws.FnExactBlkUnsure'. -/
def fnExactBlkUnsureCard : Claim7 := { stood := { row := fnExactBlkUnsureRow, standIns := [], harness := (true, "02c2b8d1a0ca20b3e5367ae7f3876ad759958d6df31274723316d72a8fda689d"), looks := false }, kinds := [], alts := [], laidByText := true, laidKinds := [.data], laidTests := true, laidLooks := .later }
def FnExactBlkUnsureCardSaid : Prop := Claim7.holds Tryd.pinned (.plain (OpenSpec.ofChange fnExactBlkUnsureSpec)) fnExactBlkUnsureCard

/-- THE SECOND FORM's CARD OF 'laws.FnExactBlkCrash'. -/
def fnExactBlkCrashUptoCard : Claim7 := { stood := { row := fnExactBlkCrashUptoRow, standIns := [], harness := (true, "02c2b8d1a0ca20b3e5367ae7f3876ad759958d6df31274723316d72a8fda689d"), looks := false }, kinds := [], alts := [], laidByText := true, laidKinds := [.data], laidTests := true, laidLooks := .later }
def FnExactBlkCrashUptoCardSaid : Prop := Claim7.holds Tryd.pinned (.plain (OpenSpec.upto fnExactBlkCrashSpec)) fnExactBlkCrashUptoCard

/-- THE SECOND FORM's CARD OF 'laws.FnExactBlkUnsure'. -/
def fnExactBlkUnsureUptoCard : Claim7 := { stood := { row := fnExactBlkUnsureUptoRow, standIns := [], harness := (true, "02c2b8d1a0ca20b3e5367ae7f3876ad759958d6df31274723316d72a8fda689d"), looks := false }, kinds := [], alts := [], laidByText := true, laidKinds := [.data], laidTests := true, laidLooks := .later }
def FnExactBlkUnsureUptoCardSaid : Prop := Claim7.holds Tryd.pinned (.plain (OpenSpec.upto fnExactBlkUnsureSpec)) fnExactBlkUnsureUptoCard
end Rows
end Go.Proofs.YtkdkcnjhjlakoajDoor
