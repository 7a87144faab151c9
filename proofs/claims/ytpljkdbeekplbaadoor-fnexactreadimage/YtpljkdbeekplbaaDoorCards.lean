/-
  DERIVED. GIVEN WITH THE SEED: THE CARDS: each row of YtpljkdbeekplbaaDoorRows.lean that lists a variable, with what it lists TIED to the program's text (the seventh form; the later family's looks); each row that meets fmt, with fmt's text TOLD by the authors' own Lean function (tested against real Go, not proved from fmt's source: count such statements apart). THE CARD IS WHAT COUNTS. Prove the row's statement (the work); the ties are given (YtpljkdbeekplbaaDoorTie.lean); close each card by the builder's one call (the guide's Derived/Test/ToyasCard.lean, 'card_holds'). Laid BY PROGRAM, IN A SANDBOX (cutbox-door.mjs). By AI agents, Wed Nov 11 2026. No macro, syntax, notation, axiom, sorry.
-/
import Derived.Test.YtpljkdbeekplbaaDoorRows
import GoSem.ClaimSeven
namespace Go.Proofs.YtpljkdbeekplbaaDoor
namespace Rows

/-- THE TIED CARD OF 'laws.FnExactReadImage'. -/
def fnExactReadImageCard : Claim7 := { stood := { row := fnExactReadImageRow, standIns := [], harness := (true, "9e8a388e050bdeba6d2886370db713578dd89e37cfbfb7382682120a400a5f4a"), looks := false }, kinds := [], alts := [], laidByText := true, laidKinds := [.data, .data, .data], laidTests := true, laidLooks := .later }
def FnExactReadImageCardSaid : Prop := Claim7.holds Tryd.pinned (.plain (OpenSpec.ofChange fnExactReadImageSpec)) fnExactReadImageCard

/-- THE TIED CARD OF 'laws.FnExactPathOK'. -/
def fnExactPathOKCard : Claim7 := { stood := { row := fnExactPathOKRow, standIns := [], harness := (true, "9e8a388e050bdeba6d2886370db713578dd89e37cfbfb7382682120a400a5f4a"), looks := false }, kinds := [], alts := [], laidByText := true, laidKinds := [.data, .pinned], laidTests := true, laidLooks := .later }
def FnExactPathOKCardSaid : Prop := Claim7.holds Tryd.pinned (.plain (OpenSpec.ofChange fnExactPathOKSpec)) fnExactPathOKCard

/-- THE TIED CARD OF 'laws.FnExactSplitPath'. -/
def fnExactSplitPathCard : Claim7 := { stood := { row := fnExactSplitPathRow, standIns := [], harness := (true, "9e8a388e050bdeba6d2886370db713578dd89e37cfbfb7382682120a400a5f4a"), looks := false }, kinds := [], alts := [], laidByText := true, laidKinds := [.data, .pinned], laidTests := true, laidLooks := .later }
def FnExactSplitPathCardSaid : Prop := Claim7.holds Tryd.pinned (.plain (OpenSpec.ofChange fnExactSplitPathSpec)) fnExactSplitPathCard

/-- THE TIED CARD OF 'laws.FnExactLookup'. -/
def fnExactLookupCard : Claim7 := { stood := { row := fnExactLookupRow, standIns := [], harness := (true, "9e8a388e050bdeba6d2886370db713578dd89e37cfbfb7382682120a400a5f4a"), looks := false }, kinds := [], alts := [], laidByText := true, laidKinds := [.data, .data, .data, .data, .pinned], laidTests := true, laidLooks := .later }
def FnExactLookupCardSaid : Prop := Claim7.holds Tryd.pinned (.plain (OpenSpec.ofChange fnExactLookupSpec)) fnExactLookupCard

/-- THE TIED CARD OF 'laws.FnExactParent'. -/
def fnExactParentCard : Claim7 := { stood := { row := fnExactParentRow, standIns := [], harness := (true, "9e8a388e050bdeba6d2886370db713578dd89e37cfbfb7382682120a400a5f4a"), looks := false }, kinds := [], alts := [], laidByText := true, laidKinds := [.data, .data, .data, .data, .pinned], laidTests := true, laidLooks := .later }
def FnExactParentCardSaid : Prop := Claim7.holds Tryd.pinned (.plain (OpenSpec.ofChange fnExactParentSpec)) fnExactParentCard

/-- THE TIED CARD OF 'laws.FnExactPathsOf'. -/
def fnExactPathsOfCard : Claim7 := { stood := { row := fnExactPathsOfRow, standIns := [], harness := (true, "9e8a388e050bdeba6d2886370db713578dd89e37cfbfb7382682120a400a5f4a"), looks := false }, kinds := [], alts := [], laidByText := true, laidKinds := [.data, .data, .data], laidTests := true, laidLooks := .later }
def FnExactPathsOfCardSaid : Prop := Claim7.holds Tryd.pinned (.plain (OpenSpec.ofChange fnExactPathsOfSpec)) fnExactPathsOfCard

/-- THE TIED CARD OF 'laws.FnExactBeneath'. -/
def fnExactBeneathCard : Claim7 := { stood := { row := fnExactBeneathRow, standIns := [], harness := (true, "9e8a388e050bdeba6d2886370db713578dd89e37cfbfb7382682120a400a5f4a"), looks := false }, kinds := [], alts := [], laidByText := true, laidKinds := [.data, .data, .data], laidTests := true, laidLooks := .later }
def FnExactBeneathCardSaid : Prop := Claim7.holds Tryd.pinned (.plain (OpenSpec.ofChange fnExactBeneathSpec)) fnExactBeneathCard

/-- THE SECOND FORM's CARD OF 'laws.FnExactReadImage'. -/
def fnExactReadImageUptoCard : Claim7 := { stood := { row := fnExactReadImageUptoRow, standIns := [], harness := (true, "9e8a388e050bdeba6d2886370db713578dd89e37cfbfb7382682120a400a5f4a"), looks := false }, kinds := [], alts := [], laidByText := true, laidKinds := [.data, .data, .data], laidTests := true, laidLooks := .later }
def FnExactReadImageUptoCardSaid : Prop := Claim7.holds Tryd.pinned (.plain (OpenSpec.upto fnExactReadImageSpec)) fnExactReadImageUptoCard

/-- THE SECOND FORM's CARD OF 'laws.FnExactPathOK'. -/
def fnExactPathOKUptoCard : Claim7 := { stood := { row := fnExactPathOKUptoRow, standIns := [], harness := (true, "9e8a388e050bdeba6d2886370db713578dd89e37cfbfb7382682120a400a5f4a"), looks := false }, kinds := [], alts := [], laidByText := true, laidKinds := [.data, .pinned], laidTests := true, laidLooks := .later }
def FnExactPathOKUptoCardSaid : Prop := Claim7.holds Tryd.pinned (.plain (OpenSpec.upto fnExactPathOKSpec)) fnExactPathOKUptoCard

/-- THE SECOND FORM's CARD OF 'laws.FnExactSplitPath'. -/
def fnExactSplitPathUptoCard : Claim7 := { stood := { row := fnExactSplitPathUptoRow, standIns := [], harness := (true, "9e8a388e050bdeba6d2886370db713578dd89e37cfbfb7382682120a400a5f4a"), looks := false }, kinds := [], alts := [], laidByText := true, laidKinds := [.data, .pinned], laidTests := true, laidLooks := .later }
def FnExactSplitPathUptoCardSaid : Prop := Claim7.holds Tryd.pinned (.plain (OpenSpec.upto fnExactSplitPathSpec)) fnExactSplitPathUptoCard

/-- THE SECOND FORM's CARD OF 'laws.FnExactLookup'. -/
def fnExactLookupUptoCard : Claim7 := { stood := { row := fnExactLookupUptoRow, standIns := [], harness := (true, "9e8a388e050bdeba6d2886370db713578dd89e37cfbfb7382682120a400a5f4a"), looks := false }, kinds := [], alts := [], laidByText := true, laidKinds := [.data, .data, .data, .data, .pinned], laidTests := true, laidLooks := .later }
def FnExactLookupUptoCardSaid : Prop := Claim7.holds Tryd.pinned (.plain (OpenSpec.upto fnExactLookupSpec)) fnExactLookupUptoCard

/-- THE SECOND FORM's CARD OF 'laws.FnExactParent'. -/
def fnExactParentUptoCard : Claim7 := { stood := { row := fnExactParentUptoRow, standIns := [], harness := (true, "9e8a388e050bdeba6d2886370db713578dd89e37cfbfb7382682120a400a5f4a"), looks := false }, kinds := [], alts := [], laidByText := true, laidKinds := [.data, .data, .data, .data, .pinned], laidTests := true, laidLooks := .later }
def FnExactParentUptoCardSaid : Prop := Claim7.holds Tryd.pinned (.plain (OpenSpec.upto fnExactParentSpec)) fnExactParentUptoCard

/-- THE SECOND FORM's CARD OF 'laws.FnExactPathsOf'. -/
def fnExactPathsOfUptoCard : Claim7 := { stood := { row := fnExactPathsOfUptoRow, standIns := [], harness := (true, "9e8a388e050bdeba6d2886370db713578dd89e37cfbfb7382682120a400a5f4a"), looks := false }, kinds := [], alts := [], laidByText := true, laidKinds := [.data, .data, .data], laidTests := true, laidLooks := .later }
def FnExactPathsOfUptoCardSaid : Prop := Claim7.holds Tryd.pinned (.plain (OpenSpec.upto fnExactPathsOfSpec)) fnExactPathsOfUptoCard

/-- THE SECOND FORM's CARD OF 'laws.FnExactBeneath'. -/
def fnExactBeneathUptoCard : Claim7 := { stood := { row := fnExactBeneathUptoRow, standIns := [], harness := (true, "9e8a388e050bdeba6d2886370db713578dd89e37cfbfb7382682120a400a5f4a"), looks := false }, kinds := [], alts := [], laidByText := true, laidKinds := [.data, .data, .data], laidTests := true, laidLooks := .later }
def FnExactBeneathUptoCardSaid : Prop := Claim7.holds Tryd.pinned (.plain (OpenSpec.upto fnExactBeneathSpec)) fnExactBeneathUptoCard
end Rows
end Go.Proofs.YtpljkdbeekplbaaDoor
