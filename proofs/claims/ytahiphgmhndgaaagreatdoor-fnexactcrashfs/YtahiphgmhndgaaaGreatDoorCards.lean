/-
  DERIVED. GIVEN WITH THE SEED: THE CARDS: each row of YtahiphgmhndgaaaGreatDoorRows.lean that lists a variable, with what it lists TIED to the program's text (the seventh form; the later family's looks); each row that meets fmt, with fmt's text TOLD by the authors' own Lean function (tested against real Go, not proved from fmt's source: count such statements apart). THE CARD IS WHAT COUNTS. Prove the row's statement (the work); the ties are given (YtahiphgmhndgaaaGreatDoorTie.lean); close each card by the builder's one call (the guide's Derived/Test/ToyasCard.lean, 'card_holds'). Laid BY PROGRAM, IN A SANDBOX (cutbox-door.mjs). By AI agents, Wed Nov 11 2026. No macro, syntax, notation, axiom, sorry.
-/
import Derived.Test.YtahiphgmhndgaaaGreatDoorRows
import GoSem.ClaimSeven
namespace Go.Proofs.YtahiphgmhndgaaaGreatDoor
namespace Rows

/-- THE TIED CARD OF 'laws.FnExactCrashFs'. -/
def fnExactCrashFsCard : Claim7 := { stood := { row := fnExactCrashFsRow, standIns := [], harness := (true, "cd4da32439f073ca10e96445a0bf299372c43766e9c3cfbf974cb574d670f121"), looks := false }, kinds := [], alts := [], laidByText := true, laidKinds := [.data, .data, .data, .data, .data], laidTests := true, laidLooks := .later }
def FnExactCrashFsCardSaid : Prop := Claim7.holds Tryz.pinned (.plain (OpenSpec.ofChange fnExactCrashFsSpec)) fnExactCrashFsCard

/-- THE TIED CARD OF 'laws.FnExactCrashTwice'. -/
def fnExactCrashTwiceCard : Claim7 := { stood := { row := fnExactCrashTwiceRow, standIns := [], harness := (true, "cd4da32439f073ca10e96445a0bf299372c43766e9c3cfbf974cb574d670f121"), looks := false }, kinds := [], alts := [], laidByText := true, laidKinds := [.data, .data, .data, .data, .data], laidTests := true, laidLooks := .later }
def FnExactCrashTwiceCardSaid : Prop := Claim7.holds Tryz.pinned (.plain (OpenSpec.ofChange fnExactCrashTwiceSpec)) fnExactCrashTwiceCard

/-- THE SECOND FORM's CARD OF 'laws.FnExactCrashFs'. -/
def fnExactCrashFsUptoCard : Claim7 := { stood := { row := fnExactCrashFsUptoRow, standIns := [], harness := (true, "cd4da32439f073ca10e96445a0bf299372c43766e9c3cfbf974cb574d670f121"), looks := false }, kinds := [], alts := [], laidByText := true, laidKinds := [.data, .data, .data, .data, .data], laidTests := true, laidLooks := .later }
def FnExactCrashFsUptoCardSaid : Prop := Claim7.holds Tryz.pinned (.plain (OpenSpec.upto fnExactCrashFsSpec)) fnExactCrashFsUptoCard

/-- THE SECOND FORM's CARD OF 'laws.FnExactCrashTwice'. -/
def fnExactCrashTwiceUptoCard : Claim7 := { stood := { row := fnExactCrashTwiceUptoRow, standIns := [], harness := (true, "cd4da32439f073ca10e96445a0bf299372c43766e9c3cfbf974cb574d670f121"), looks := false }, kinds := [], alts := [], laidByText := true, laidKinds := [.data, .data, .data, .data, .data], laidTests := true, laidLooks := .later }
def FnExactCrashTwiceUptoCardSaid : Prop := Claim7.holds Tryz.pinned (.plain (OpenSpec.upto fnExactCrashTwiceSpec)) fnExactCrashTwiceUptoCard
end Rows
end Go.Proofs.YtahiphgmhndgaaaGreatDoor
