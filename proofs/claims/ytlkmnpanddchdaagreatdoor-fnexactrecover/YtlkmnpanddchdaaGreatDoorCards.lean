/-
  DERIVED. GIVEN WITH THE SEED: THE CARDS: each row of YtlkmnpanddchdaaGreatDoorRows.lean that lists a variable, with what it lists TIED to the program's text (the seventh form; the later family's looks); each row that meets fmt, with fmt's text TOLD by the authors' own Lean function (tested against real Go, not proved from fmt's source: count such statements apart). THE CARD IS WHAT COUNTS. Prove the row's statement (the work); the ties are given (YtlkmnpanddchdaaGreatDoorTie.lean); close each card by the builder's one call (the guide's Derived/Test/ToyasCard.lean, 'card_holds'). Laid BY PROGRAM, IN A SANDBOX (cutbox-door.mjs). By AI agents, Wed Nov 11 2026. No macro, syntax, notation, axiom, sorry.
-/
import Derived.Test.YtlkmnpanddchdaaGreatDoorRows
import GoSem.ClaimSeven
namespace Go.Proofs.YtlkmnpanddchdaaGreatDoor
namespace Rows

/-- THE TIED CARD OF 'laws.FnExactCrashFs'. -/
def fnExactCrashFsCard : Claim7 := { stood := { row := fnExactCrashFsRow, standIns := [], harness := (true, "01dffd9d3494026555f1729a8487794789a068726589a32de41efd47abda5ae0"), looks := false }, kinds := [], alts := [], laidByText := true, laidKinds := [.data, .data, .data, .data, .data], laidTests := true, laidLooks := .later }
def FnExactCrashFsCardSaid : Prop := Claim7.holds Tryz.pinned (.plain (OpenSpec.ofChange fnExactCrashFsSpec)) fnExactCrashFsCard

/-- THE TIED CARD OF 'laws.FnExactRecover'. -/
def fnExactRecoverCard : Claim7 := { stood := { row := fnExactRecoverRow, standIns := [], harness := (true, "01dffd9d3494026555f1729a8487794789a068726589a32de41efd47abda5ae0"), looks := false }, kinds := [], alts := [], laidByText := true, laidKinds := [.data, .data, .data, .data], laidTests := true, laidLooks := .later }
def FnExactRecoverCardSaid : Prop := Claim7.holds Tryz.pinned (.plain (OpenSpec.ofChange fnExactRecoverSpec)) fnExactRecoverCard

/-- THE TIED CARD OF 'laws.FnExactCrashTwice'. -/
def fnExactCrashTwiceCard : Claim7 := { stood := { row := fnExactCrashTwiceRow, standIns := [], harness := (true, "01dffd9d3494026555f1729a8487794789a068726589a32de41efd47abda5ae0"), looks := false }, kinds := [], alts := [], laidByText := true, laidKinds := [.data, .data, .data, .data, .data], laidTests := true, laidLooks := .later }
def FnExactCrashTwiceCardSaid : Prop := Claim7.holds Tryz.pinned (.plain (OpenSpec.ofChange fnExactCrashTwiceSpec)) fnExactCrashTwiceCard

/-- THE SECOND FORM's CARD OF 'laws.FnExactCrashFs'. -/
def fnExactCrashFsUptoCard : Claim7 := { stood := { row := fnExactCrashFsUptoRow, standIns := [], harness := (true, "01dffd9d3494026555f1729a8487794789a068726589a32de41efd47abda5ae0"), looks := false }, kinds := [], alts := [], laidByText := true, laidKinds := [.data, .data, .data, .data, .data], laidTests := true, laidLooks := .later }
def FnExactCrashFsUptoCardSaid : Prop := Claim7.holds Tryz.pinned (.plain (OpenSpec.upto fnExactCrashFsSpec)) fnExactCrashFsUptoCard

/-- THE SECOND FORM's CARD OF 'laws.FnExactRecover'. -/
def fnExactRecoverUptoCard : Claim7 := { stood := { row := fnExactRecoverUptoRow, standIns := [], harness := (true, "01dffd9d3494026555f1729a8487794789a068726589a32de41efd47abda5ae0"), looks := false }, kinds := [], alts := [], laidByText := true, laidKinds := [.data, .data, .data, .data], laidTests := true, laidLooks := .later }
def FnExactRecoverUptoCardSaid : Prop := Claim7.holds Tryz.pinned (.plain (OpenSpec.upto fnExactRecoverSpec)) fnExactRecoverUptoCard

/-- THE SECOND FORM's CARD OF 'laws.FnExactCrashTwice'. -/
def fnExactCrashTwiceUptoCard : Claim7 := { stood := { row := fnExactCrashTwiceUptoRow, standIns := [], harness := (true, "01dffd9d3494026555f1729a8487794789a068726589a32de41efd47abda5ae0"), looks := false }, kinds := [], alts := [], laidByText := true, laidKinds := [.data, .data, .data, .data, .data], laidTests := true, laidLooks := .later }
def FnExactCrashTwiceUptoCardSaid : Prop := Claim7.holds Tryz.pinned (.plain (OpenSpec.upto fnExactCrashTwiceSpec)) fnExactCrashTwiceUptoCard
end Rows
end Go.Proofs.YtlkmnpanddchdaaGreatDoor
