/-
  DERIVED. GIVEN WITH THE SEED: THE CARDS: each row of YtbjcoeimcdodjaaDoorRows.lean that lists a variable, with what it lists TIED to the program's text (the seventh form; the later family's looks); each row that meets fmt, with fmt's text TOLD by the authors' own Lean function (tested against real Go, not proved from fmt's source: count such statements apart). THE CARD IS WHAT COUNTS. Prove the row's statement (the work); the ties are given (YtbjcoeimcdodjaaDoorTie.lean); close each card by the builder's one call (the guide's Derived/Test/ToyasCard.lean, 'card_holds'). Laid BY PROGRAM, IN A SANDBOX (cutbox-door.mjs). By AI agents, Wed Nov 11 2026. No macro, syntax, notation, axiom, sorry.
-/
import Derived.Test.YtbjcoeimcdodjaaDoorRows
import GoSem.ClaimSeven
namespace Go.Proofs.YtbjcoeimcdodjaaDoor
namespace Rows

/-- THE TIED CARD OF 'laws.FnBlock'. -/
def fnBlockCard : Claim7 := { stood := { row := fnBlockRow, standIns := [], harness := (true, "7e8989b96d46b74c048cfe023f3845e201f7a22a699f01790bb8f0a36e38a8e4"), looks := false }, kinds := [], alts := [], laidByText := true, laidKinds := [.data], laidTests := true, laidLooks := .later }
def FnBlockCardSaid : Prop := Claim7.holds Tryd.pinned (.plain (OpenSpec.ofChange fnBlockSpec)) fnBlockCard

/-- THE TIED CARD OF 'laws.FnExactBlkCrash'. -/
def fnExactBlkCrashCard : Claim7 := { stood := { row := fnExactBlkCrashRow, standIns := [], harness := (true, "7e8989b96d46b74c048cfe023f3845e201f7a22a699f01790bb8f0a36e38a8e4"), looks := false }, kinds := [], alts := [], laidByText := true, laidKinds := [.data], laidTests := true, laidLooks := .later }
def FnExactBlkCrashCardSaid : Prop := Claim7.holds Tryd.pinned (.plain (OpenSpec.ofChange fnExactBlkCrashSpec)) fnExactBlkCrashCard

/-- THE SECOND FORM's CARD OF 'laws.FnBlock'. -/
def fnBlockUptoCard : Claim7 := { stood := { row := fnBlockUptoRow, standIns := [], harness := (true, "7e8989b96d46b74c048cfe023f3845e201f7a22a699f01790bb8f0a36e38a8e4"), looks := false }, kinds := [], alts := [], laidByText := true, laidKinds := [.data], laidTests := true, laidLooks := .later }
def FnBlockUptoCardSaid : Prop := Claim7.holds Tryd.pinned (.plain (OpenSpec.upto fnBlockSpec)) fnBlockUptoCard

/-- THE SECOND FORM's CARD OF 'laws.FnExactBlkCrash'. -/
def fnExactBlkCrashUptoCard : Claim7 := { stood := { row := fnExactBlkCrashUptoRow, standIns := [], harness := (true, "7e8989b96d46b74c048cfe023f3845e201f7a22a699f01790bb8f0a36e38a8e4"), looks := false }, kinds := [], alts := [], laidByText := true, laidKinds := [.data], laidTests := true, laidLooks := .later }
def FnExactBlkCrashUptoCardSaid : Prop := Claim7.holds Tryd.pinned (.plain (OpenSpec.upto fnExactBlkCrashSpec)) fnExactBlkCrashUptoCard
end Rows
end Go.Proofs.YtbjcoeimcdodjaaDoor
