/-
  DERIVED. GIVEN WITH THE SEED: THE CARDS: each row of YtjfjfokinchhoaaDoorRows.lean that lists a variable, with what it lists TIED to the program's text (the seventh form; the later family's looks); each row that meets fmt, with fmt's text TOLD by the authors' own Lean function (tested against real Go, not proved from fmt's source: count such statements apart). THE CARD IS WHAT COUNTS. Prove the row's statement (the work); the ties are given (YtjfjfokinchhoaaDoorTie.lean); close each card by the builder's one call (the guide's Derived/Test/ToyasCard.lean, 'card_holds'). Laid BY PROGRAM, IN A SANDBOX (cutbox-door.mjs). By AI agents, Wed Nov 11 2026. No macro, syntax, notation, axiom, sorry.
-/
import Derived.Test.YtjfjfokinchhoaaDoorRows
import GoSem.ClaimSeven
namespace Go.Proofs.YtjfjfokinchhoaaDoor
namespace Rows

/-- THE TIED CARD OF 'laws.FnExactReadImage'. -/
def fnExactReadImageCard : Claim7 := { stood := { row := fnExactReadImageRow, standIns := [], harness := (true, "da75deb9f7602d65c608ac5cdc3a16462e04f4d26cb030f4fbe7675bd62313a7"), looks := false }, kinds := [], alts := [], laidByText := true, laidKinds := [.data, .data, .data], laidTests := true, laidLooks := .later }
def FnExactReadImageCardSaid : Prop := Claim7.holds Tryd.pinned (.plain (OpenSpec.ofChange fnExactReadImageSpec)) fnExactReadImageCard

/-- THE TIED CARD OF 'laws.FnExactImageOK'. -/
def fnExactImageOKCard : Claim7 := { stood := { row := fnExactImageOKRow, standIns := [], harness := (true, "da75deb9f7602d65c608ac5cdc3a16462e04f4d26cb030f4fbe7675bd62313a7"), looks := false }, kinds := [], alts := [], laidByText := true, laidKinds := [.data, .data, .data], laidTests := true, laidLooks := .later }
def FnExactImageOKCardSaid : Prop := Claim7.holds Tryd.pinned (.plain (OpenSpec.ofChange fnExactImageOKSpec)) fnExactImageOKCard

/-- THE TIED CARD OF 'laws.FnExactNewDevices'. -/
def fnExactNewDevicesCard : Claim7 := { stood := { row := fnExactNewDevicesRow, standIns := [], harness := (true, "da75deb9f7602d65c608ac5cdc3a16462e04f4d26cb030f4fbe7675bd62313a7"), looks := false }, kinds := [], alts := [], laidByText := true, laidKinds := [.data, .data], laidTests := true, laidLooks := .later }
def FnExactNewDevicesCardSaid : Prop := Claim7.holds Tryd.pinned (.plain (OpenSpec.ofChange fnExactNewDevicesSpec)) fnExactNewDevicesCard

/-- THE TIED CARD OF 'laws.FnExactFreeInode'. -/
def fnExactFreeInodeCard : Claim7 := { stood := { row := fnExactFreeInodeRow, standIns := [], harness := (true, "da75deb9f7602d65c608ac5cdc3a16462e04f4d26cb030f4fbe7675bd62313a7"), looks := false }, kinds := [], alts := [], laidByText := true, laidKinds := [.data, .data, .data], laidTests := true, laidLooks := .later }
def FnExactFreeInodeCardSaid : Prop := Claim7.holds Tryd.pinned (.plain (OpenSpec.ofChange fnExactFreeInodeSpec)) fnExactFreeInodeCard

/-- THE TIED CARD OF 'laws.FnExactFreePage'. -/
def fnExactFreePageCard : Claim7 := { stood := { row := fnExactFreePageRow, standIns := [], harness := (true, "da75deb9f7602d65c608ac5cdc3a16462e04f4d26cb030f4fbe7675bd62313a7"), looks := false }, kinds := [], alts := [], laidByText := true, laidKinds := [.data, .data, .data], laidTests := true, laidLooks := .later }
def FnExactFreePageCardSaid : Prop := Claim7.holds Tryd.pinned (.plain (OpenSpec.ofChange fnExactFreePageSpec)) fnExactFreePageCard

/-- THE TIED CARD OF 'laws.FnExactFreeSector'. -/
def fnExactFreeSectorCard : Claim7 := { stood := { row := fnExactFreeSectorRow, standIns := [], harness := (true, "da75deb9f7602d65c608ac5cdc3a16462e04f4d26cb030f4fbe7675bd62313a7"), looks := false }, kinds := [], alts := [], laidByText := true, laidKinds := [.data, .data, .data], laidTests := true, laidLooks := .later }
def FnExactFreeSectorCardSaid : Prop := Claim7.holds Tryd.pinned (.plain (OpenSpec.ofChange fnExactFreeSectorSpec)) fnExactFreeSectorCard

/-- THE TIED CARD OF 'laws.FnExactUsedBy'. -/
def fnExactUsedByCard : Claim7 := { stood := { row := fnExactUsedByRow, standIns := [], harness := (true, "da75deb9f7602d65c608ac5cdc3a16462e04f4d26cb030f4fbe7675bd62313a7"), looks := false }, kinds := [], alts := [], laidByText := true, laidKinds := [.data, .data, .data], laidTests := true, laidLooks := .later }
def FnExactUsedByCardSaid : Prop := Claim7.holds Tryd.pinned (.plain (OpenSpec.ofChange fnExactUsedBySpec)) fnExactUsedByCard

/-- THE TIED CARD OF 'laws.FnExactEntriesOf'. -/
def fnExactEntriesOfCard : Claim7 := { stood := { row := fnExactEntriesOfRow, standIns := [], harness := (true, "da75deb9f7602d65c608ac5cdc3a16462e04f4d26cb030f4fbe7675bd62313a7"), looks := false }, kinds := [], alts := [], laidByText := true, laidKinds := [.data, .data, .data], laidTests := true, laidLooks := .later }
def FnExactEntriesOfCardSaid : Prop := Claim7.holds Tryd.pinned (.plain (OpenSpec.ofChange fnExactEntriesOfSpec)) fnExactEntriesOfCard

/-- THE TIED CARD OF 'laws.FnExactInodeUpdates'. -/
def fnExactInodeUpdatesCard : Claim7 := { stood := { row := fnExactInodeUpdatesRow, standIns := [], harness := (true, "da75deb9f7602d65c608ac5cdc3a16462e04f4d26cb030f4fbe7675bd62313a7"), looks := false }, kinds := [], alts := [], laidByText := true, laidKinds := [.data, .data], laidTests := true, laidLooks := .later }
def FnExactInodeUpdatesCardSaid : Prop := Claim7.holds Tryd.pinned (.plain (OpenSpec.ofChange fnExactInodeUpdatesSpec)) fnExactInodeUpdatesCard

/-- THE TIED CARD OF 'laws.FnExactDirentUpdates'. -/
def fnExactDirentUpdatesCard : Claim7 := { stood := { row := fnExactDirentUpdatesRow, standIns := [], harness := (true, "da75deb9f7602d65c608ac5cdc3a16462e04f4d26cb030f4fbe7675bd62313a7"), looks := false }, kinds := [], alts := [], laidByText := true, laidKinds := [.data], laidTests := true, laidLooks := .later }
def FnExactDirentUpdatesCardSaid : Prop := Claim7.holds Tryd.pinned (.plain (OpenSpec.ofChange fnExactDirentUpdatesSpec)) fnExactDirentUpdatesCard

/-- THE SECOND FORM's CARD OF 'laws.FnExactReadImage'. -/
def fnExactReadImageUptoCard : Claim7 := { stood := { row := fnExactReadImageUptoRow, standIns := [], harness := (true, "da75deb9f7602d65c608ac5cdc3a16462e04f4d26cb030f4fbe7675bd62313a7"), looks := false }, kinds := [], alts := [], laidByText := true, laidKinds := [.data, .data, .data], laidTests := true, laidLooks := .later }
def FnExactReadImageUptoCardSaid : Prop := Claim7.holds Tryd.pinned (.plain (OpenSpec.upto fnExactReadImageSpec)) fnExactReadImageUptoCard

/-- THE SECOND FORM's CARD OF 'laws.FnExactImageOK'. -/
def fnExactImageOKUptoCard : Claim7 := { stood := { row := fnExactImageOKUptoRow, standIns := [], harness := (true, "da75deb9f7602d65c608ac5cdc3a16462e04f4d26cb030f4fbe7675bd62313a7"), looks := false }, kinds := [], alts := [], laidByText := true, laidKinds := [.data, .data, .data], laidTests := true, laidLooks := .later }
def FnExactImageOKUptoCardSaid : Prop := Claim7.holds Tryd.pinned (.plain (OpenSpec.upto fnExactImageOKSpec)) fnExactImageOKUptoCard

/-- THE SECOND FORM's CARD OF 'laws.FnExactNewDevices'. -/
def fnExactNewDevicesUptoCard : Claim7 := { stood := { row := fnExactNewDevicesUptoRow, standIns := [], harness := (true, "da75deb9f7602d65c608ac5cdc3a16462e04f4d26cb030f4fbe7675bd62313a7"), looks := false }, kinds := [], alts := [], laidByText := true, laidKinds := [.data, .data], laidTests := true, laidLooks := .later }
def FnExactNewDevicesUptoCardSaid : Prop := Claim7.holds Tryd.pinned (.plain (OpenSpec.upto fnExactNewDevicesSpec)) fnExactNewDevicesUptoCard

/-- THE SECOND FORM's CARD OF 'laws.FnExactFreeInode'. -/
def fnExactFreeInodeUptoCard : Claim7 := { stood := { row := fnExactFreeInodeUptoRow, standIns := [], harness := (true, "da75deb9f7602d65c608ac5cdc3a16462e04f4d26cb030f4fbe7675bd62313a7"), looks := false }, kinds := [], alts := [], laidByText := true, laidKinds := [.data, .data, .data], laidTests := true, laidLooks := .later }
def FnExactFreeInodeUptoCardSaid : Prop := Claim7.holds Tryd.pinned (.plain (OpenSpec.upto fnExactFreeInodeSpec)) fnExactFreeInodeUptoCard

/-- THE SECOND FORM's CARD OF 'laws.FnExactFreePage'. -/
def fnExactFreePageUptoCard : Claim7 := { stood := { row := fnExactFreePageUptoRow, standIns := [], harness := (true, "da75deb9f7602d65c608ac5cdc3a16462e04f4d26cb030f4fbe7675bd62313a7"), looks := false }, kinds := [], alts := [], laidByText := true, laidKinds := [.data, .data, .data], laidTests := true, laidLooks := .later }
def FnExactFreePageUptoCardSaid : Prop := Claim7.holds Tryd.pinned (.plain (OpenSpec.upto fnExactFreePageSpec)) fnExactFreePageUptoCard

/-- THE SECOND FORM's CARD OF 'laws.FnExactFreeSector'. -/
def fnExactFreeSectorUptoCard : Claim7 := { stood := { row := fnExactFreeSectorUptoRow, standIns := [], harness := (true, "da75deb9f7602d65c608ac5cdc3a16462e04f4d26cb030f4fbe7675bd62313a7"), looks := false }, kinds := [], alts := [], laidByText := true, laidKinds := [.data, .data, .data], laidTests := true, laidLooks := .later }
def FnExactFreeSectorUptoCardSaid : Prop := Claim7.holds Tryd.pinned (.plain (OpenSpec.upto fnExactFreeSectorSpec)) fnExactFreeSectorUptoCard

/-- THE SECOND FORM's CARD OF 'laws.FnExactUsedBy'. -/
def fnExactUsedByUptoCard : Claim7 := { stood := { row := fnExactUsedByUptoRow, standIns := [], harness := (true, "da75deb9f7602d65c608ac5cdc3a16462e04f4d26cb030f4fbe7675bd62313a7"), looks := false }, kinds := [], alts := [], laidByText := true, laidKinds := [.data, .data, .data], laidTests := true, laidLooks := .later }
def FnExactUsedByUptoCardSaid : Prop := Claim7.holds Tryd.pinned (.plain (OpenSpec.upto fnExactUsedBySpec)) fnExactUsedByUptoCard

/-- THE SECOND FORM's CARD OF 'laws.FnExactEntriesOf'. -/
def fnExactEntriesOfUptoCard : Claim7 := { stood := { row := fnExactEntriesOfUptoRow, standIns := [], harness := (true, "da75deb9f7602d65c608ac5cdc3a16462e04f4d26cb030f4fbe7675bd62313a7"), looks := false }, kinds := [], alts := [], laidByText := true, laidKinds := [.data, .data, .data], laidTests := true, laidLooks := .later }
def FnExactEntriesOfUptoCardSaid : Prop := Claim7.holds Tryd.pinned (.plain (OpenSpec.upto fnExactEntriesOfSpec)) fnExactEntriesOfUptoCard

/-- THE SECOND FORM's CARD OF 'laws.FnExactInodeUpdates'. -/
def fnExactInodeUpdatesUptoCard : Claim7 := { stood := { row := fnExactInodeUpdatesUptoRow, standIns := [], harness := (true, "da75deb9f7602d65c608ac5cdc3a16462e04f4d26cb030f4fbe7675bd62313a7"), looks := false }, kinds := [], alts := [], laidByText := true, laidKinds := [.data, .data], laidTests := true, laidLooks := .later }
def FnExactInodeUpdatesUptoCardSaid : Prop := Claim7.holds Tryd.pinned (.plain (OpenSpec.upto fnExactInodeUpdatesSpec)) fnExactInodeUpdatesUptoCard

/-- THE SECOND FORM's CARD OF 'laws.FnExactDirentUpdates'. -/
def fnExactDirentUpdatesUptoCard : Claim7 := { stood := { row := fnExactDirentUpdatesUptoRow, standIns := [], harness := (true, "da75deb9f7602d65c608ac5cdc3a16462e04f4d26cb030f4fbe7675bd62313a7"), looks := false }, kinds := [], alts := [], laidByText := true, laidKinds := [.data], laidTests := true, laidLooks := .later }
def FnExactDirentUpdatesUptoCardSaid : Prop := Claim7.holds Tryd.pinned (.plain (OpenSpec.upto fnExactDirentUpdatesSpec)) fnExactDirentUpdatesUptoCard
end Rows
end Go.Proofs.YtjfjfokinchhoaaDoor
