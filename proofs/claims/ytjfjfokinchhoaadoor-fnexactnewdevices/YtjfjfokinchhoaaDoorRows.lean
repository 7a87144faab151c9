/-
  NARROWER THAN 'FOR EVERY INPUT', by the rows' own cells (each row's printed sentence says how): FnExactReadImage: laid · FnExactImageOK: laid · FnExactNewDevices: laid · FnExactFreeInode: laid · FnExactFreePage: laid · FnExactFreeSector: laid · FnExactUsedBy: laid · FnExactEntriesOf: laid · FnExactInodeUpdates: laid · FnExactDirentUpdates: laid.
  DERIVED. THE GIVEN ROWS OF THIS SEAT. 10 by the template 'for every input the law returns true; each argument reads behind the call as it read before'; 0 by the template 'total and deterministic' (their statements: YtjfjfokinchhoaaDoorTotals.lean).
  GIVEN WITH THE SEED: the statements are not yours to turn. If you find one false, say at which input.
  Laid BY PROGRAM, IN A SANDBOX (cutbox-rows.mjs): the forced cells as the released guide's own fill.sh prints them over the translation a11ca97a287c1090… (all of the seat's roots in one cut). By AI agents, Wed Nov 11 2026. No macro, syntax, notation, axiom, sorry.
-/
import Derived.Test.YtjfjfokinchhoaaDoorChecked
import GoSem.Claim
import GoSem.ClaimJoined
import GoSem.ClaimMapViews
import Derived.JoinedTies
import Derived.KernelRfl
namespace Go.Proofs.YtjfjfokinchhoaaDoor
/- THE CELL 'sum', in the pinned program and in every row, IS THE sha256 OF THE DUMP (.gsa) THAT YtjfjfokinchhoaaDoorProg.lean LOADS. Nothing in Lean hashes anything: it is a label: what it is worth is what the hold of that sum in a sandbox is worth. -/
noncomputable def Tryd.pinned : Pinned := { name := "ytjfjfokinchhoaadoor", sum := "a11ca97a287c109098d7f9e39642a42bbcee51864d42d44f36805e06fd2c3407", checked := Tryd.checked }
namespace Rows
def none {H : Type} : Left H := { results := [], args := [] }

/- WHAT THE LISTED PACKAGE-LEVEL VARIABLES READ AS WHEN THE CALL BEGINS. Each datum BY PROGRAM (the guide's laid-datum.mjs) off the statement by which the dump's own 'gosem.cut.vars' lays the variable. In a bare row this is a premise. The card (YtjfjfokinchhoaaDoorCards.lean) ties it to the program's text. -/
def laid_loop_example_g00410_impl_tierSizes {H : Type} : DataW H := .agg [.lit (.int .i64 1), .lit (.int .i64 24), .lit (.int .i64 32)]
def laid_loop_example_g00410_impl_emptyDir {H : Type} : DataW H := .agg [.lit (.int .i64 2), .lit (.int .i64 0), .lit (.int .i64 1), .agg [.lit (.int .i64 0), .lit (.int .i64 0), .lit (.int .i64 0), .lit (.int .i64 0), .lit (.int .i64 0), .lit (.int .i64 0), .lit (.int .i64 0), .lit (.int .i64 0)]]
def laid_loop_example_g00410_impl_freeDirent {H : Type} : DataW H := .agg [.lit (.int .i64 0), .lit (.string []), .lit (.int .i64 (-1))]

/-- 'laws.FnExactReadImage': WHATEVER THE INPUT: true; the input reads as it did. -/
def fnExactReadImageSpec : ChangeSpec := { name := "fnExactReadImage", vars := ["loop.example/g00410/impl.freeDirent", "loop.example/g00410/impl.emptyDir", "loop.example/g00410/impl.tierSizes"], fn := fun _ => fun
  | [d, g1, g2, g3] => { results := [.lit (.bool true)], args := [d], vars := [g1, g2, g3] }
  | _ => none }
def fnExactReadImageRow : OpenClaim := { program := "ytjfjfokinchhoaadoor", sum := "a11ca97a287c109098d7f9e39642a42bbcee51864d42d44f36805e06fd2c3407", func := "loop.example/g00410/laws.FnExactReadImage", spec := "fnExactReadImage", unfollowed := true, recurses := true, named := ["loop.example/g00410/impl.freeDirent", "loop.example/g00410/impl.emptyDir", "loop.example/g00410/impl.tierSizes"], apart := false, laid := [("loop.example/g00410/impl.tierSizes", laid_loop_example_g00410_impl_tierSizes), ("loop.example/g00410/impl.emptyDir", laid_loop_example_g00410_impl_emptyDir), ("loop.example/g00410/impl.freeDirent", laid_loop_example_g00410_impl_freeDirent)] }
def FnExactReadImageSaid : Prop := fnExactReadImageRow.holds Tryd.pinned (OpenSpec.ofChange fnExactReadImageSpec)

/-- ITS FALSE NEIGHBOUR: 'it returns false'. Refute it at one input. -/
def fnExactReadImageWrong : ChangeSpec := { name := "fnExactReadImage", vars := ["loop.example/g00410/impl.freeDirent", "loop.example/g00410/impl.emptyDir", "loop.example/g00410/impl.tierSizes"], fn := fun _ => fun
  | [d, g1, g2, g3] => { results := [.lit (.bool false)], args := [d], vars := [g1, g2, g3] }
  | _ => none }
def FnExactReadImageWrongFalsely : Prop := fnExactReadImageRow.holds Tryd.pinned (OpenSpec.ofChange fnExactReadImageWrong)

/-- 'laws.FnExactImageOK': WHATEVER THE INPUT: true; the input reads as it did. -/
def fnExactImageOKSpec : ChangeSpec := { name := "fnExactImageOK", vars := ["loop.example/g00410/impl.emptyDir", "loop.example/g00410/impl.tierSizes", "loop.example/g00410/impl.freeDirent"], fn := fun _ => fun
  | [d, g1, g2, g3] => { results := [.lit (.bool true)], args := [d], vars := [g1, g2, g3] }
  | _ => none }
def fnExactImageOKRow : OpenClaim := { program := "ytjfjfokinchhoaadoor", sum := "a11ca97a287c109098d7f9e39642a42bbcee51864d42d44f36805e06fd2c3407", func := "loop.example/g00410/laws.FnExactImageOK", spec := "fnExactImageOK", unfollowed := true, recurses := true, named := ["loop.example/g00410/impl.emptyDir", "loop.example/g00410/impl.tierSizes", "loop.example/g00410/impl.freeDirent"], apart := false, laid := [("loop.example/g00410/impl.tierSizes", laid_loop_example_g00410_impl_tierSizes), ("loop.example/g00410/impl.emptyDir", laid_loop_example_g00410_impl_emptyDir), ("loop.example/g00410/impl.freeDirent", laid_loop_example_g00410_impl_freeDirent)] }
def FnExactImageOKSaid : Prop := fnExactImageOKRow.holds Tryd.pinned (OpenSpec.ofChange fnExactImageOKSpec)

/-- ITS FALSE NEIGHBOUR: 'it returns false'. Refute it at one input. -/
def fnExactImageOKWrong : ChangeSpec := { name := "fnExactImageOK", vars := ["loop.example/g00410/impl.emptyDir", "loop.example/g00410/impl.tierSizes", "loop.example/g00410/impl.freeDirent"], fn := fun _ => fun
  | [d, g1, g2, g3] => { results := [.lit (.bool false)], args := [d], vars := [g1, g2, g3] }
  | _ => none }
def FnExactImageOKWrongFalsely : Prop := fnExactImageOKRow.holds Tryd.pinned (OpenSpec.ofChange fnExactImageOKWrong)

/-- 'laws.FnExactNewDevices': WHATEVER THE INPUT: true; the input reads as it did. -/
def fnExactNewDevicesSpec : ChangeSpec := { name := "fnExactNewDevices", vars := ["loop.example/g00410/impl.emptyDir", "loop.example/g00410/impl.tierSizes"], fn := fun _ => fun
  | [g1, g2] => { results := [.lit (.bool true)], args := [], vars := [g1, g2] }
  | _ => none }
def fnExactNewDevicesRow : OpenClaim := { program := "ytjfjfokinchhoaadoor", sum := "a11ca97a287c109098d7f9e39642a42bbcee51864d42d44f36805e06fd2c3407", func := "loop.example/g00410/laws.FnExactNewDevices", spec := "fnExactNewDevices", unfollowed := true, recurses := true, named := ["loop.example/g00410/impl.emptyDir", "loop.example/g00410/impl.tierSizes"], apart := false, laid := [("loop.example/g00410/impl.tierSizes", laid_loop_example_g00410_impl_tierSizes), ("loop.example/g00410/impl.emptyDir", laid_loop_example_g00410_impl_emptyDir)] }
def FnExactNewDevicesSaid : Prop := fnExactNewDevicesRow.holds Tryd.pinned (OpenSpec.ofChange fnExactNewDevicesSpec)

/-- ITS FALSE NEIGHBOUR: 'it returns false'. Refute it at one input. -/
def fnExactNewDevicesWrong : ChangeSpec := { name := "fnExactNewDevices", vars := ["loop.example/g00410/impl.emptyDir", "loop.example/g00410/impl.tierSizes"], fn := fun _ => fun
  | [g1, g2] => { results := [.lit (.bool false)], args := [], vars := [g1, g2] }
  | _ => none }
def FnExactNewDevicesWrongFalsely : Prop := fnExactNewDevicesRow.holds Tryd.pinned (OpenSpec.ofChange fnExactNewDevicesWrong)

/-- 'laws.FnExactFreeInode': WHATEVER THE INPUT: true; the input reads as it did. -/
def fnExactFreeInodeSpec : ChangeSpec := { name := "fnExactFreeInode", vars := ["loop.example/g00410/impl.emptyDir", "loop.example/g00410/impl.tierSizes", "loop.example/g00410/impl.freeDirent"], fn := fun _ => fun
  | [d, g1, g2, g3] => { results := [.lit (.bool true)], args := [d], vars := [g1, g2, g3] }
  | _ => none }
def fnExactFreeInodeRow : OpenClaim := { program := "ytjfjfokinchhoaadoor", sum := "a11ca97a287c109098d7f9e39642a42bbcee51864d42d44f36805e06fd2c3407", func := "loop.example/g00410/laws.FnExactFreeInode", spec := "fnExactFreeInode", unfollowed := true, recurses := true, named := ["loop.example/g00410/impl.emptyDir", "loop.example/g00410/impl.tierSizes", "loop.example/g00410/impl.freeDirent"], apart := false, laid := [("loop.example/g00410/impl.tierSizes", laid_loop_example_g00410_impl_tierSizes), ("loop.example/g00410/impl.emptyDir", laid_loop_example_g00410_impl_emptyDir), ("loop.example/g00410/impl.freeDirent", laid_loop_example_g00410_impl_freeDirent)] }
def FnExactFreeInodeSaid : Prop := fnExactFreeInodeRow.holds Tryd.pinned (OpenSpec.ofChange fnExactFreeInodeSpec)

/-- ITS FALSE NEIGHBOUR: 'it returns false'. Refute it at one input. -/
def fnExactFreeInodeWrong : ChangeSpec := { name := "fnExactFreeInode", vars := ["loop.example/g00410/impl.emptyDir", "loop.example/g00410/impl.tierSizes", "loop.example/g00410/impl.freeDirent"], fn := fun _ => fun
  | [d, g1, g2, g3] => { results := [.lit (.bool false)], args := [d], vars := [g1, g2, g3] }
  | _ => none }
def FnExactFreeInodeWrongFalsely : Prop := fnExactFreeInodeRow.holds Tryd.pinned (OpenSpec.ofChange fnExactFreeInodeWrong)

/-- 'laws.FnExactFreePage': WHATEVER THE INPUT: true; the input reads as it did. -/
def fnExactFreePageSpec : ChangeSpec := { name := "fnExactFreePage", vars := ["loop.example/g00410/impl.tierSizes", "loop.example/g00410/impl.emptyDir", "loop.example/g00410/impl.freeDirent"], fn := fun _ => fun
  | [d, g1, g2, g3] => { results := [.lit (.bool true)], args := [d], vars := [g1, g2, g3] }
  | _ => none }
def fnExactFreePageRow : OpenClaim := { program := "ytjfjfokinchhoaadoor", sum := "a11ca97a287c109098d7f9e39642a42bbcee51864d42d44f36805e06fd2c3407", func := "loop.example/g00410/laws.FnExactFreePage", spec := "fnExactFreePage", unfollowed := true, recurses := true, named := ["loop.example/g00410/impl.tierSizes", "loop.example/g00410/impl.emptyDir", "loop.example/g00410/impl.freeDirent"], apart := false, laid := [("loop.example/g00410/impl.tierSizes", laid_loop_example_g00410_impl_tierSizes), ("loop.example/g00410/impl.emptyDir", laid_loop_example_g00410_impl_emptyDir), ("loop.example/g00410/impl.freeDirent", laid_loop_example_g00410_impl_freeDirent)] }
def FnExactFreePageSaid : Prop := fnExactFreePageRow.holds Tryd.pinned (OpenSpec.ofChange fnExactFreePageSpec)

/-- ITS FALSE NEIGHBOUR: 'it returns false'. Refute it at one input. -/
def fnExactFreePageWrong : ChangeSpec := { name := "fnExactFreePage", vars := ["loop.example/g00410/impl.tierSizes", "loop.example/g00410/impl.emptyDir", "loop.example/g00410/impl.freeDirent"], fn := fun _ => fun
  | [d, g1, g2, g3] => { results := [.lit (.bool false)], args := [d], vars := [g1, g2, g3] }
  | _ => none }
def FnExactFreePageWrongFalsely : Prop := fnExactFreePageRow.holds Tryd.pinned (OpenSpec.ofChange fnExactFreePageWrong)

/-- 'laws.FnExactFreeSector': WHATEVER THE INPUT: true; the input reads as it did. -/
def fnExactFreeSectorSpec : ChangeSpec := { name := "fnExactFreeSector", vars := ["loop.example/g00410/impl.tierSizes", "loop.example/g00410/impl.emptyDir", "loop.example/g00410/impl.freeDirent"], fn := fun _ => fun
  | [d, g1, g2, g3] => { results := [.lit (.bool true)], args := [d], vars := [g1, g2, g3] }
  | _ => none }
def fnExactFreeSectorRow : OpenClaim := { program := "ytjfjfokinchhoaadoor", sum := "a11ca97a287c109098d7f9e39642a42bbcee51864d42d44f36805e06fd2c3407", func := "loop.example/g00410/laws.FnExactFreeSector", spec := "fnExactFreeSector", unfollowed := true, recurses := true, named := ["loop.example/g00410/impl.tierSizes", "loop.example/g00410/impl.emptyDir", "loop.example/g00410/impl.freeDirent"], apart := false, laid := [("loop.example/g00410/impl.tierSizes", laid_loop_example_g00410_impl_tierSizes), ("loop.example/g00410/impl.emptyDir", laid_loop_example_g00410_impl_emptyDir), ("loop.example/g00410/impl.freeDirent", laid_loop_example_g00410_impl_freeDirent)] }
def FnExactFreeSectorSaid : Prop := fnExactFreeSectorRow.holds Tryd.pinned (OpenSpec.ofChange fnExactFreeSectorSpec)

/-- ITS FALSE NEIGHBOUR: 'it returns false'. Refute it at one input. -/
def fnExactFreeSectorWrong : ChangeSpec := { name := "fnExactFreeSector", vars := ["loop.example/g00410/impl.tierSizes", "loop.example/g00410/impl.emptyDir", "loop.example/g00410/impl.freeDirent"], fn := fun _ => fun
  | [d, g1, g2, g3] => { results := [.lit (.bool false)], args := [d], vars := [g1, g2, g3] }
  | _ => none }
def FnExactFreeSectorWrongFalsely : Prop := fnExactFreeSectorRow.holds Tryd.pinned (OpenSpec.ofChange fnExactFreeSectorWrong)

/-- 'laws.FnExactUsedBy': WHATEVER THE INPUT: true; the input reads as it did. -/
def fnExactUsedBySpec : ChangeSpec := { name := "fnExactUsedBy", vars := ["loop.example/g00410/impl.emptyDir", "loop.example/g00410/impl.tierSizes", "loop.example/g00410/impl.freeDirent"], fn := fun _ => fun
  | [d1, d2, g1, g2, g3] => { results := [.lit (.bool true)], args := [d1, d2], vars := [g1, g2, g3] }
  | _ => none }
def fnExactUsedByRow : OpenClaim := { program := "ytjfjfokinchhoaadoor", sum := "a11ca97a287c109098d7f9e39642a42bbcee51864d42d44f36805e06fd2c3407", func := "loop.example/g00410/laws.FnExactUsedBy", spec := "fnExactUsedBy", unfollowed := true, recurses := true, named := ["loop.example/g00410/impl.emptyDir", "loop.example/g00410/impl.tierSizes", "loop.example/g00410/impl.freeDirent"], apart := false, laid := [("loop.example/g00410/impl.tierSizes", laid_loop_example_g00410_impl_tierSizes), ("loop.example/g00410/impl.emptyDir", laid_loop_example_g00410_impl_emptyDir), ("loop.example/g00410/impl.freeDirent", laid_loop_example_g00410_impl_freeDirent)] }
def FnExactUsedBySaid : Prop := fnExactUsedByRow.holds Tryd.pinned (OpenSpec.ofChange fnExactUsedBySpec)

/-- ITS FALSE NEIGHBOUR: 'it returns false'. Refute it at one input. -/
def fnExactUsedByWrong : ChangeSpec := { name := "fnExactUsedBy", vars := ["loop.example/g00410/impl.emptyDir", "loop.example/g00410/impl.tierSizes", "loop.example/g00410/impl.freeDirent"], fn := fun _ => fun
  | [d1, d2, g1, g2, g3] => { results := [.lit (.bool false)], args := [d1, d2], vars := [g1, g2, g3] }
  | _ => none }
def FnExactUsedByWrongFalsely : Prop := fnExactUsedByRow.holds Tryd.pinned (OpenSpec.ofChange fnExactUsedByWrong)

/-- 'laws.FnExactEntriesOf': WHATEVER THE INPUT: true; the input reads as it did. -/
def fnExactEntriesOfSpec : ChangeSpec := { name := "fnExactEntriesOf", vars := ["loop.example/g00410/impl.emptyDir", "loop.example/g00410/impl.tierSizes", "loop.example/g00410/impl.freeDirent"], fn := fun _ => fun
  | [d1, d2, g1, g2, g3] => { results := [.lit (.bool true)], args := [d1, d2], vars := [g1, g2, g3] }
  | _ => none }
def fnExactEntriesOfRow : OpenClaim := { program := "ytjfjfokinchhoaadoor", sum := "a11ca97a287c109098d7f9e39642a42bbcee51864d42d44f36805e06fd2c3407", func := "loop.example/g00410/laws.FnExactEntriesOf", spec := "fnExactEntriesOf", unfollowed := true, recurses := true, named := ["loop.example/g00410/impl.emptyDir", "loop.example/g00410/impl.tierSizes", "loop.example/g00410/impl.freeDirent"], apart := false, laid := [("loop.example/g00410/impl.tierSizes", laid_loop_example_g00410_impl_tierSizes), ("loop.example/g00410/impl.emptyDir", laid_loop_example_g00410_impl_emptyDir), ("loop.example/g00410/impl.freeDirent", laid_loop_example_g00410_impl_freeDirent)] }
def FnExactEntriesOfSaid : Prop := fnExactEntriesOfRow.holds Tryd.pinned (OpenSpec.ofChange fnExactEntriesOfSpec)

/-- ITS FALSE NEIGHBOUR: 'it returns false'. Refute it at one input. -/
def fnExactEntriesOfWrong : ChangeSpec := { name := "fnExactEntriesOf", vars := ["loop.example/g00410/impl.emptyDir", "loop.example/g00410/impl.tierSizes", "loop.example/g00410/impl.freeDirent"], fn := fun _ => fun
  | [d1, d2, g1, g2, g3] => { results := [.lit (.bool false)], args := [d1, d2], vars := [g1, g2, g3] }
  | _ => none }
def FnExactEntriesOfWrongFalsely : Prop := fnExactEntriesOfRow.holds Tryd.pinned (OpenSpec.ofChange fnExactEntriesOfWrong)

/-- 'laws.FnExactInodeUpdates': WHATEVER THE INPUT: true; the input reads as it did. -/
def fnExactInodeUpdatesSpec : ChangeSpec := { name := "fnExactInodeUpdates", vars := ["loop.example/g00410/impl.emptyDir", "loop.example/g00410/impl.tierSizes"], fn := fun _ => fun
  | [d1, d2, g1, g2] => { results := [.lit (.bool true)], args := [d1, d2], vars := [g1, g2] }
  | _ => none }
def fnExactInodeUpdatesRow : OpenClaim := { program := "ytjfjfokinchhoaadoor", sum := "a11ca97a287c109098d7f9e39642a42bbcee51864d42d44f36805e06fd2c3407", func := "loop.example/g00410/laws.FnExactInodeUpdates", spec := "fnExactInodeUpdates", unfollowed := true, recurses := true, named := ["loop.example/g00410/impl.emptyDir", "loop.example/g00410/impl.tierSizes"], apart := false, laid := [("loop.example/g00410/impl.tierSizes", laid_loop_example_g00410_impl_tierSizes), ("loop.example/g00410/impl.emptyDir", laid_loop_example_g00410_impl_emptyDir)] }
def FnExactInodeUpdatesSaid : Prop := fnExactInodeUpdatesRow.holds Tryd.pinned (OpenSpec.ofChange fnExactInodeUpdatesSpec)

/-- ITS FALSE NEIGHBOUR: 'it returns false'. Refute it at one input. -/
def fnExactInodeUpdatesWrong : ChangeSpec := { name := "fnExactInodeUpdates", vars := ["loop.example/g00410/impl.emptyDir", "loop.example/g00410/impl.tierSizes"], fn := fun _ => fun
  | [d1, d2, g1, g2] => { results := [.lit (.bool false)], args := [d1, d2], vars := [g1, g2] }
  | _ => none }
def FnExactInodeUpdatesWrongFalsely : Prop := fnExactInodeUpdatesRow.holds Tryd.pinned (OpenSpec.ofChange fnExactInodeUpdatesWrong)

/-- 'laws.FnExactDirentUpdates': WHATEVER THE INPUT: true; the input reads as it did. -/
def fnExactDirentUpdatesSpec : ChangeSpec := { name := "fnExactDirentUpdates", vars := ["loop.example/g00410/impl.freeDirent"], fn := fun _ => fun
  | [d1, d2, g1] => { results := [.lit (.bool true)], args := [d1, d2], vars := [g1] }
  | _ => none }
def fnExactDirentUpdatesRow : OpenClaim := { program := "ytjfjfokinchhoaadoor", sum := "a11ca97a287c109098d7f9e39642a42bbcee51864d42d44f36805e06fd2c3407", func := "loop.example/g00410/laws.FnExactDirentUpdates", spec := "fnExactDirentUpdates", named := ["loop.example/g00410/impl.freeDirent"], apart := false, laid := [("loop.example/g00410/impl.freeDirent", laid_loop_example_g00410_impl_freeDirent)] }
def FnExactDirentUpdatesSaid : Prop := fnExactDirentUpdatesRow.holds Tryd.pinned (OpenSpec.ofChange fnExactDirentUpdatesSpec)

/-- ITS FALSE NEIGHBOUR: 'it returns false'. Refute it at one input. -/
def fnExactDirentUpdatesWrong : ChangeSpec := { name := "fnExactDirentUpdates", vars := ["loop.example/g00410/impl.freeDirent"], fn := fun _ => fun
  | [d1, d2, g1] => { results := [.lit (.bool false)], args := [d1, d2], vars := [g1] }
  | _ => none }
def FnExactDirentUpdatesWrongFalsely : Prop := fnExactDirentUpdatesRow.holds Tryd.pinned (OpenSpec.ofChange fnExactDirentUpdatesWrong)

/- THE SECOND FORM. 'bulk': how many values and letters a reading holds, each counted each time it is reached (what is shared counts as often as it is met; a slice's spare places count too). A statement '..UptoSaid' is the law's where the arguments, and the package variables that the reading takes, are together of bulk at most 1048576: NARROWER than '..Said'. Prove '..Said' where nothing that the law and all that it calls make is longer than what came in: it says more and counts as full. Else prove '..UptoSaid'. A law counts once. -/
mutual
def uptoBulk {H : Type} : DataW H → Nat
  | .lit (.string bytes) => bytes.length + 1
  | .lit _ => 1
  | .nil => 1
  | .ptr d => uptoBulk d + 1
  | .slice elems spare => uptoBulkAll elems + uptoBulkAll spare + 1
  | .agg parts => uptoBulkAll parts + 1
  | .iface _ d => uptoBulk d + 1
  | .map entries => uptoBulkEntries entries + 1
  | .held _ => 1
def uptoBulkAll {H : Type} : List (DataW H) → Nat
  | [] => 0
  | d :: r => uptoBulk d + uptoBulkAll r
def uptoBulkEntries {H : Type} : List (Lit × DataW H) → Nat
  | [] => 0
  | x :: r => uptoBulkEntry x + uptoBulkEntries r
def uptoBulkEntry {H : Type} : Lit × DataW H → Nat
  | (.string bytes, d) => bytes.length + uptoBulk d + 1
  | (_, d) => uptoBulk d + 1
 end
def uptoSmall : (H : Type) → List (DataW H) → Bool := fun _ ds => decide (uptoBulkAll ds ≤ 1048576)
def OpenSpec.upto (s : _root_.Go.ChangeSpec) : _root_.Go.OpenSpec := { _root_.Go.OpenSpec.ofChange s with cond := some uptoSmall }

/-- 'laws.FnExactReadImage', WHERE WHAT IT READS IS OF BULK AT MOST 1048576: true; the input reads as it did. -/
def fnExactReadImageUptoRow : OpenClaim := { program := "ytjfjfokinchhoaadoor", sum := "a11ca97a287c109098d7f9e39642a42bbcee51864d42d44f36805e06fd2c3407", func := "loop.example/g00410/laws.FnExactReadImage", spec := "fnExactReadImage", unfollowed := true, recurses := true, named := ["loop.example/g00410/impl.freeDirent", "loop.example/g00410/impl.emptyDir", "loop.example/g00410/impl.tierSizes"], apart := false, laid := [("loop.example/g00410/impl.tierSizes", laid_loop_example_g00410_impl_tierSizes), ("loop.example/g00410/impl.emptyDir", laid_loop_example_g00410_impl_emptyDir), ("loop.example/g00410/impl.freeDirent", laid_loop_example_g00410_impl_freeDirent)], narrowed := true }
def FnExactReadImageUptoSaid : Prop := fnExactReadImageUptoRow.holds Tryd.pinned (OpenSpec.upto fnExactReadImageSpec)

/-- 'laws.FnExactImageOK', WHERE WHAT IT READS IS OF BULK AT MOST 1048576: true; the input reads as it did. -/
def fnExactImageOKUptoRow : OpenClaim := { program := "ytjfjfokinchhoaadoor", sum := "a11ca97a287c109098d7f9e39642a42bbcee51864d42d44f36805e06fd2c3407", func := "loop.example/g00410/laws.FnExactImageOK", spec := "fnExactImageOK", unfollowed := true, recurses := true, named := ["loop.example/g00410/impl.emptyDir", "loop.example/g00410/impl.tierSizes", "loop.example/g00410/impl.freeDirent"], apart := false, laid := [("loop.example/g00410/impl.tierSizes", laid_loop_example_g00410_impl_tierSizes), ("loop.example/g00410/impl.emptyDir", laid_loop_example_g00410_impl_emptyDir), ("loop.example/g00410/impl.freeDirent", laid_loop_example_g00410_impl_freeDirent)], narrowed := true }
def FnExactImageOKUptoSaid : Prop := fnExactImageOKUptoRow.holds Tryd.pinned (OpenSpec.upto fnExactImageOKSpec)

/-- 'laws.FnExactNewDevices', WHERE WHAT IT READS IS OF BULK AT MOST 1048576: true; the input reads as it did. -/
def fnExactNewDevicesUptoRow : OpenClaim := { program := "ytjfjfokinchhoaadoor", sum := "a11ca97a287c109098d7f9e39642a42bbcee51864d42d44f36805e06fd2c3407", func := "loop.example/g00410/laws.FnExactNewDevices", spec := "fnExactNewDevices", unfollowed := true, recurses := true, named := ["loop.example/g00410/impl.emptyDir", "loop.example/g00410/impl.tierSizes"], apart := false, laid := [("loop.example/g00410/impl.tierSizes", laid_loop_example_g00410_impl_tierSizes), ("loop.example/g00410/impl.emptyDir", laid_loop_example_g00410_impl_emptyDir)], narrowed := true }
def FnExactNewDevicesUptoSaid : Prop := fnExactNewDevicesUptoRow.holds Tryd.pinned (OpenSpec.upto fnExactNewDevicesSpec)

/-- 'laws.FnExactFreeInode', WHERE WHAT IT READS IS OF BULK AT MOST 1048576: true; the input reads as it did. -/
def fnExactFreeInodeUptoRow : OpenClaim := { program := "ytjfjfokinchhoaadoor", sum := "a11ca97a287c109098d7f9e39642a42bbcee51864d42d44f36805e06fd2c3407", func := "loop.example/g00410/laws.FnExactFreeInode", spec := "fnExactFreeInode", unfollowed := true, recurses := true, named := ["loop.example/g00410/impl.emptyDir", "loop.example/g00410/impl.tierSizes", "loop.example/g00410/impl.freeDirent"], apart := false, laid := [("loop.example/g00410/impl.tierSizes", laid_loop_example_g00410_impl_tierSizes), ("loop.example/g00410/impl.emptyDir", laid_loop_example_g00410_impl_emptyDir), ("loop.example/g00410/impl.freeDirent", laid_loop_example_g00410_impl_freeDirent)], narrowed := true }
def FnExactFreeInodeUptoSaid : Prop := fnExactFreeInodeUptoRow.holds Tryd.pinned (OpenSpec.upto fnExactFreeInodeSpec)

/-- 'laws.FnExactFreePage', WHERE WHAT IT READS IS OF BULK AT MOST 1048576: true; the input reads as it did. -/
def fnExactFreePageUptoRow : OpenClaim := { program := "ytjfjfokinchhoaadoor", sum := "a11ca97a287c109098d7f9e39642a42bbcee51864d42d44f36805e06fd2c3407", func := "loop.example/g00410/laws.FnExactFreePage", spec := "fnExactFreePage", unfollowed := true, recurses := true, named := ["loop.example/g00410/impl.tierSizes", "loop.example/g00410/impl.emptyDir", "loop.example/g00410/impl.freeDirent"], apart := false, laid := [("loop.example/g00410/impl.tierSizes", laid_loop_example_g00410_impl_tierSizes), ("loop.example/g00410/impl.emptyDir", laid_loop_example_g00410_impl_emptyDir), ("loop.example/g00410/impl.freeDirent", laid_loop_example_g00410_impl_freeDirent)], narrowed := true }
def FnExactFreePageUptoSaid : Prop := fnExactFreePageUptoRow.holds Tryd.pinned (OpenSpec.upto fnExactFreePageSpec)

/-- 'laws.FnExactFreeSector', WHERE WHAT IT READS IS OF BULK AT MOST 1048576: true; the input reads as it did. -/
def fnExactFreeSectorUptoRow : OpenClaim := { program := "ytjfjfokinchhoaadoor", sum := "a11ca97a287c109098d7f9e39642a42bbcee51864d42d44f36805e06fd2c3407", func := "loop.example/g00410/laws.FnExactFreeSector", spec := "fnExactFreeSector", unfollowed := true, recurses := true, named := ["loop.example/g00410/impl.tierSizes", "loop.example/g00410/impl.emptyDir", "loop.example/g00410/impl.freeDirent"], apart := false, laid := [("loop.example/g00410/impl.tierSizes", laid_loop_example_g00410_impl_tierSizes), ("loop.example/g00410/impl.emptyDir", laid_loop_example_g00410_impl_emptyDir), ("loop.example/g00410/impl.freeDirent", laid_loop_example_g00410_impl_freeDirent)], narrowed := true }
def FnExactFreeSectorUptoSaid : Prop := fnExactFreeSectorUptoRow.holds Tryd.pinned (OpenSpec.upto fnExactFreeSectorSpec)

/-- 'laws.FnExactUsedBy', WHERE WHAT IT READS IS OF BULK AT MOST 1048576: true; the input reads as it did. -/
def fnExactUsedByUptoRow : OpenClaim := { program := "ytjfjfokinchhoaadoor", sum := "a11ca97a287c109098d7f9e39642a42bbcee51864d42d44f36805e06fd2c3407", func := "loop.example/g00410/laws.FnExactUsedBy", spec := "fnExactUsedBy", unfollowed := true, recurses := true, named := ["loop.example/g00410/impl.emptyDir", "loop.example/g00410/impl.tierSizes", "loop.example/g00410/impl.freeDirent"], apart := false, laid := [("loop.example/g00410/impl.tierSizes", laid_loop_example_g00410_impl_tierSizes), ("loop.example/g00410/impl.emptyDir", laid_loop_example_g00410_impl_emptyDir), ("loop.example/g00410/impl.freeDirent", laid_loop_example_g00410_impl_freeDirent)], narrowed := true }
def FnExactUsedByUptoSaid : Prop := fnExactUsedByUptoRow.holds Tryd.pinned (OpenSpec.upto fnExactUsedBySpec)

/-- 'laws.FnExactEntriesOf', WHERE WHAT IT READS IS OF BULK AT MOST 1048576: true; the input reads as it did. -/
def fnExactEntriesOfUptoRow : OpenClaim := { program := "ytjfjfokinchhoaadoor", sum := "a11ca97a287c109098d7f9e39642a42bbcee51864d42d44f36805e06fd2c3407", func := "loop.example/g00410/laws.FnExactEntriesOf", spec := "fnExactEntriesOf", unfollowed := true, recurses := true, named := ["loop.example/g00410/impl.emptyDir", "loop.example/g00410/impl.tierSizes", "loop.example/g00410/impl.freeDirent"], apart := false, laid := [("loop.example/g00410/impl.tierSizes", laid_loop_example_g00410_impl_tierSizes), ("loop.example/g00410/impl.emptyDir", laid_loop_example_g00410_impl_emptyDir), ("loop.example/g00410/impl.freeDirent", laid_loop_example_g00410_impl_freeDirent)], narrowed := true }
def FnExactEntriesOfUptoSaid : Prop := fnExactEntriesOfUptoRow.holds Tryd.pinned (OpenSpec.upto fnExactEntriesOfSpec)

/-- 'laws.FnExactInodeUpdates', WHERE WHAT IT READS IS OF BULK AT MOST 1048576: true; the input reads as it did. -/
def fnExactInodeUpdatesUptoRow : OpenClaim := { program := "ytjfjfokinchhoaadoor", sum := "a11ca97a287c109098d7f9e39642a42bbcee51864d42d44f36805e06fd2c3407", func := "loop.example/g00410/laws.FnExactInodeUpdates", spec := "fnExactInodeUpdates", unfollowed := true, recurses := true, named := ["loop.example/g00410/impl.emptyDir", "loop.example/g00410/impl.tierSizes"], apart := false, laid := [("loop.example/g00410/impl.tierSizes", laid_loop_example_g00410_impl_tierSizes), ("loop.example/g00410/impl.emptyDir", laid_loop_example_g00410_impl_emptyDir)], narrowed := true }
def FnExactInodeUpdatesUptoSaid : Prop := fnExactInodeUpdatesUptoRow.holds Tryd.pinned (OpenSpec.upto fnExactInodeUpdatesSpec)

/-- 'laws.FnExactDirentUpdates', WHERE WHAT IT READS IS OF BULK AT MOST 1048576: true; the input reads as it did. -/
def fnExactDirentUpdatesUptoRow : OpenClaim := { program := "ytjfjfokinchhoaadoor", sum := "a11ca97a287c109098d7f9e39642a42bbcee51864d42d44f36805e06fd2c3407", func := "loop.example/g00410/laws.FnExactDirentUpdates", spec := "fnExactDirentUpdates", named := ["loop.example/g00410/impl.freeDirent"], apart := false, laid := [("loop.example/g00410/impl.freeDirent", laid_loop_example_g00410_impl_freeDirent)], narrowed := true }
def FnExactDirentUpdatesUptoSaid : Prop := fnExactDirentUpdatesUptoRow.holds Tryd.pinned (OpenSpec.upto fnExactDirentUpdatesSpec)

end Rows
end Go.Proofs.YtjfjfokinchhoaaDoor
