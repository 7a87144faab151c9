/-
  DERIVED. GIVEN WITH THE SEED: THE CARDS: each row of YtbjalmiheipjjaaDoorRows.lean that lists a variable, with what it lists TIED to the program's text (the seventh form; the later family's looks); each row that meets fmt, with fmt's text TOLD by the authors' own Lean function (tested against real Go, not proved from fmt's source: count such statements apart). THE CARD IS WHAT COUNTS. Prove the row's statement (the work); the ties are given (YtbjalmiheipjjaaDoorTie.lean); close each card by the builder's one call (the guide's Derived/Test/ToyasCard.lean, 'card_holds'). Laid BY PROGRAM, IN A SANDBOX (cutbox-door.mjs). By AI agents, Wed Nov 11 2026. No macro, syntax, notation, axiom, sorry.
-/
import Derived.Test.YtbjalmiheipjjaaDoorRows
import GoSem.ClaimSeven
namespace Go.Proofs.YtbjalmiheipjjaaDoor
namespace Rows

/-- THE TIED CARD OF 'laws.FnAtomic'. -/
def fnAtomicCard : Claim7 := { stood := { row := fnAtomicRow, standIns := [], harness := (true, "3b15039d31af784517d47fb87de415b072645535279d2b611e1ab19e1b99f6c1"), looks := false }, kinds := [], alts := [], laidByText := true, laidKinds := [.data], laidTests := true, laidLooks := .later }
def FnAtomicCardSaid : Prop := Claim7.holds Tryd.pinned (.plain (OpenSpec.ofChange fnAtomicSpec)) fnAtomicCard

/-- THE TIED CARD OF 'laws.FnReplay'. -/
def fnReplayCard : Claim7 := { stood := { row := fnReplayRow, standIns := [], harness := (true, "3b15039d31af784517d47fb87de415b072645535279d2b611e1ab19e1b99f6c1"), looks := false }, kinds := [], alts := [], laidByText := true, laidKinds := [.data], laidTests := true, laidLooks := .later }
def FnReplayCardSaid : Prop := Claim7.holds Tryd.pinned (.plain (OpenSpec.ofChange fnReplaySpec)) fnReplayCard

/-- THE SECOND FORM's CARD OF 'laws.FnAtomic'. -/
def fnAtomicUptoCard : Claim7 := { stood := { row := fnAtomicUptoRow, standIns := [], harness := (true, "3b15039d31af784517d47fb87de415b072645535279d2b611e1ab19e1b99f6c1"), looks := false }, kinds := [], alts := [], laidByText := true, laidKinds := [.data], laidTests := true, laidLooks := .later }
def FnAtomicUptoCardSaid : Prop := Claim7.holds Tryd.pinned (.plain (OpenSpec.upto fnAtomicSpec)) fnAtomicUptoCard

/-- THE SECOND FORM's CARD OF 'laws.FnReplay'. -/
def fnReplayUptoCard : Claim7 := { stood := { row := fnReplayUptoRow, standIns := [], harness := (true, "3b15039d31af784517d47fb87de415b072645535279d2b611e1ab19e1b99f6c1"), looks := false }, kinds := [], alts := [], laidByText := true, laidKinds := [.data], laidTests := true, laidLooks := .later }
def FnReplayUptoCardSaid : Prop := Claim7.holds Tryd.pinned (.plain (OpenSpec.upto fnReplaySpec)) fnReplayUptoCard
end Rows
end Go.Proofs.YtbjalmiheipjjaaDoor
