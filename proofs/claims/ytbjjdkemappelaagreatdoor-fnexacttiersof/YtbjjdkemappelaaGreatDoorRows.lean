/-
  NARROWER THAN 'FOR EVERY INPUT', by the rows' own cells (each row's printed sentence says how): FnExactAccounted: laid · FnExactTiersOf: laid · FnExactLoose: laid · FnExactFairWrite: laid · FnExactSureOf: laid.
  DERIVED. THE GIVEN ROWS OF THIS SEAT. 5 by the template 'for every input the law returns true; each argument reads behind the call as it read before'; 0 by the template 'total and deterministic' (their statements: YtbjjdkemappelaaGreatDoorTotals.lean).
  GIVEN WITH THE SEED: the statements are not yours to turn. If you find one false, say at which input.
  Laid BY PROGRAM, IN A SANDBOX (cutbox-rows.mjs): the forced cells as the released guide's own fill.sh prints them over the translation 4b678404c965a9a8… (all of the seat's roots in one cut). By AI agents, Wed Nov 11 2026. No macro, syntax, notation, axiom, sorry.
-/
import Derived.Test.YtbjjdkemappelaaGreatDoorChecked
import GoSem.Claim
import GoSem.ClaimJoined
import GoSem.ClaimMapViews
import Derived.JoinedTies
import Derived.KernelRfl
namespace Go.Proofs.YtbjjdkemappelaaGreatDoor
/- THE CELL 'sum', in the pinned program and in every row, IS THE sha256 OF THE DUMP (.gsa) THAT YtbjjdkemappelaaGreatDoorProg.lean LOADS. Nothing in Lean hashes anything: it is a label: what it is worth is what the hold of that sum in a sandbox is worth. -/
noncomputable def Tryz.pinned : Pinned := { name := "ytbjjdkemappelaagreatdoor", sum := "4b678404c965a9a82c35555aa91d0cfa8b9e05d3cade8548dd83b0f1108988c6", checked := Tryz.checked }
namespace Rows
def none {H : Type} : Left H := { results := [], args := [] }

/- WHAT THE LISTED PACKAGE-LEVEL VARIABLES READ AS WHEN THE CALL BEGINS. Each datum BY PROGRAM (the guide's laid-datum.mjs) off the statement by which the dump's own 'gosem.cut.vars' lays the variable. In a bare row this is a premise. The card (YtbjjdkemappelaaGreatDoorCards.lean) ties it to the program's text. -/
def laid_loop_example_g00410_impl_tierSizes {H : Type} : DataW H := .agg [.lit (.int .i64 1), .lit (.int .i64 24), .lit (.int .i64 32)]
def laid_loop_example_g00410_impl_emptyDir {H : Type} : DataW H := .agg [.lit (.int .i64 2), .lit (.int .i64 0), .lit (.int .i64 1), .agg [.lit (.int .i64 0), .lit (.int .i64 0), .lit (.int .i64 0), .lit (.int .i64 0), .lit (.int .i64 0), .lit (.int .i64 0), .lit (.int .i64 0), .lit (.int .i64 0)]]
def laid_loop_example_g00410_impl_freeDirent {H : Type} : DataW H := .agg [.lit (.int .i64 0), .lit (.string []), .lit (.int .i64 (-1))]
def laid_loop_example_g00410_impl_stepBounds {H : Type} : DataW H := .agg [.agg [.lit (.int .i64 0), .lit (.int .i64 0)], .agg [.lit (.int .i64 336), .lit (.int .i64 1099511627776)], .agg [.lit (.int .i64 336), .lit (.int .i64 1)], .agg [.lit (.int .i64 1), .lit (.int .i64 1)], .agg [.lit (.int .i64 32), .lit (.int .i64 1099511627776)], .agg [.lit (.int .i64 1), .lit (.int .i64 1)]]

/-- 'laws.FnExactAccounted': WHATEVER THE INPUT: true; the input reads as it did. -/
def fnExactAccountedSpec : ChangeSpec := { name := "fnExactAccounted", vars := ["loop.example/g00410/impl.freeDirent", "loop.example/g00410/impl.emptyDir", "loop.example/g00410/impl.tierSizes"], fn := fun _ => fun
  | [d, g1, g2, g3] => { results := [.lit (.bool true)], args := [d], vars := [g1, g2, g3] }
  | _ => none }
def fnExactAccountedRow : OpenClaim := { program := "ytbjjdkemappelaagreatdoor", sum := "4b678404c965a9a82c35555aa91d0cfa8b9e05d3cade8548dd83b0f1108988c6", func := "loop.example/g00410/laws.FnExactAccounted", spec := "fnExactAccounted", unfollowed := true, recurses := true, named := ["loop.example/g00410/impl.freeDirent", "loop.example/g00410/impl.emptyDir", "loop.example/g00410/impl.tierSizes"], apart := false, laid := [("loop.example/g00410/impl.tierSizes", laid_loop_example_g00410_impl_tierSizes), ("loop.example/g00410/impl.emptyDir", laid_loop_example_g00410_impl_emptyDir), ("loop.example/g00410/impl.freeDirent", laid_loop_example_g00410_impl_freeDirent)] }
def FnExactAccountedSaid : Prop := fnExactAccountedRow.holds Tryz.pinned (OpenSpec.ofChange fnExactAccountedSpec)

/-- ITS FALSE NEIGHBOUR: 'it returns false'. Refute it at one input. -/
def fnExactAccountedWrong : ChangeSpec := { name := "fnExactAccounted", vars := ["loop.example/g00410/impl.freeDirent", "loop.example/g00410/impl.emptyDir", "loop.example/g00410/impl.tierSizes"], fn := fun _ => fun
  | [d, g1, g2, g3] => { results := [.lit (.bool false)], args := [d], vars := [g1, g2, g3] }
  | _ => none }
def FnExactAccountedWrongFalsely : Prop := fnExactAccountedRow.holds Tryz.pinned (OpenSpec.ofChange fnExactAccountedWrong)

/-- 'laws.FnExactTiersOf': WHATEVER THE INPUT: true; the input reads as it did. -/
def fnExactTiersOfSpec : ChangeSpec := { name := "fnExactTiersOf", vars := ["loop.example/g00410/impl.freeDirent", "loop.example/g00410/impl.emptyDir", "loop.example/g00410/impl.tierSizes"], fn := fun _ => fun
  | [d, g1, g2, g3] => { results := [.lit (.bool true)], args := [d], vars := [g1, g2, g3] }
  | _ => none }
def fnExactTiersOfRow : OpenClaim := { program := "ytbjjdkemappelaagreatdoor", sum := "4b678404c965a9a82c35555aa91d0cfa8b9e05d3cade8548dd83b0f1108988c6", func := "loop.example/g00410/laws.FnExactTiersOf", spec := "fnExactTiersOf", unfollowed := true, recurses := true, named := ["loop.example/g00410/impl.freeDirent", "loop.example/g00410/impl.emptyDir", "loop.example/g00410/impl.tierSizes"], apart := false, laid := [("loop.example/g00410/impl.tierSizes", laid_loop_example_g00410_impl_tierSizes), ("loop.example/g00410/impl.emptyDir", laid_loop_example_g00410_impl_emptyDir), ("loop.example/g00410/impl.freeDirent", laid_loop_example_g00410_impl_freeDirent)] }
def FnExactTiersOfSaid : Prop := fnExactTiersOfRow.holds Tryz.pinned (OpenSpec.ofChange fnExactTiersOfSpec)

/-- ITS FALSE NEIGHBOUR: 'it returns false'. Refute it at one input. -/
def fnExactTiersOfWrong : ChangeSpec := { name := "fnExactTiersOf", vars := ["loop.example/g00410/impl.freeDirent", "loop.example/g00410/impl.emptyDir", "loop.example/g00410/impl.tierSizes"], fn := fun _ => fun
  | [d, g1, g2, g3] => { results := [.lit (.bool false)], args := [d], vars := [g1, g2, g3] }
  | _ => none }
def FnExactTiersOfWrongFalsely : Prop := fnExactTiersOfRow.holds Tryz.pinned (OpenSpec.ofChange fnExactTiersOfWrong)

/-- 'laws.FnExactLoose': WHATEVER THE INPUT: true; the input reads as it did. -/
def fnExactLooseSpec : ChangeSpec := { name := "fnExactLoose", vars := ["loop.example/g00410/impl.freeDirent", "loop.example/g00410/impl.emptyDir", "loop.example/g00410/impl.tierSizes", "loop.example/g00410/impl.stepBounds"], fn := fun _ => fun
  | [d1, d2, g1, g2, g3, g4] => { results := [.lit (.bool true)], args := [d1, d2], vars := [g1, g2, g3, g4] }
  | _ => none }
def fnExactLooseRow : OpenClaim := { program := "ytbjjdkemappelaagreatdoor", sum := "4b678404c965a9a82c35555aa91d0cfa8b9e05d3cade8548dd83b0f1108988c6", func := "loop.example/g00410/laws.FnExactLoose", spec := "fnExactLoose", unfollowed := true, recurses := true, named := ["loop.example/g00410/impl.freeDirent", "loop.example/g00410/impl.emptyDir", "loop.example/g00410/impl.tierSizes", "loop.example/g00410/impl.stepBounds"], apart := false, laid := [("loop.example/g00410/impl.tierSizes", laid_loop_example_g00410_impl_tierSizes), ("loop.example/g00410/impl.stepBounds", laid_loop_example_g00410_impl_stepBounds), ("loop.example/g00410/impl.emptyDir", laid_loop_example_g00410_impl_emptyDir), ("loop.example/g00410/impl.freeDirent", laid_loop_example_g00410_impl_freeDirent)] }
def FnExactLooseSaid : Prop := fnExactLooseRow.holds Tryz.pinned (OpenSpec.ofChange fnExactLooseSpec)

/-- ITS FALSE NEIGHBOUR: 'it returns false'. Refute it at one input. -/
def fnExactLooseWrong : ChangeSpec := { name := "fnExactLoose", vars := ["loop.example/g00410/impl.freeDirent", "loop.example/g00410/impl.emptyDir", "loop.example/g00410/impl.tierSizes", "loop.example/g00410/impl.stepBounds"], fn := fun _ => fun
  | [d1, d2, g1, g2, g3, g4] => { results := [.lit (.bool false)], args := [d1, d2], vars := [g1, g2, g3, g4] }
  | _ => none }
def FnExactLooseWrongFalsely : Prop := fnExactLooseRow.holds Tryz.pinned (OpenSpec.ofChange fnExactLooseWrong)

/-- 'laws.FnExactFairWrite': WHATEVER THE INPUT: true; the input reads as it did. -/
def fnExactFairWriteSpec : ChangeSpec := { name := "fnExactFairWrite", vars := ["loop.example/g00410/impl.freeDirent", "loop.example/g00410/impl.emptyDir", "loop.example/g00410/impl.tierSizes"], fn := fun _ => fun
  | [d, g1, g2, g3] => { results := [.lit (.bool true)], args := [d], vars := [g1, g2, g3] }
  | _ => none }
def fnExactFairWriteRow : OpenClaim := { program := "ytbjjdkemappelaagreatdoor", sum := "4b678404c965a9a82c35555aa91d0cfa8b9e05d3cade8548dd83b0f1108988c6", func := "loop.example/g00410/laws.FnExactFairWrite", spec := "fnExactFairWrite", unfollowed := true, recurses := true, named := ["loop.example/g00410/impl.freeDirent", "loop.example/g00410/impl.emptyDir", "loop.example/g00410/impl.tierSizes"], apart := false, laid := [("loop.example/g00410/impl.tierSizes", laid_loop_example_g00410_impl_tierSizes), ("loop.example/g00410/impl.emptyDir", laid_loop_example_g00410_impl_emptyDir), ("loop.example/g00410/impl.freeDirent", laid_loop_example_g00410_impl_freeDirent)] }
def FnExactFairWriteSaid : Prop := fnExactFairWriteRow.holds Tryz.pinned (OpenSpec.ofChange fnExactFairWriteSpec)

/-- ITS FALSE NEIGHBOUR: 'it returns false'. Refute it at one input. -/
def fnExactFairWriteWrong : ChangeSpec := { name := "fnExactFairWrite", vars := ["loop.example/g00410/impl.freeDirent", "loop.example/g00410/impl.emptyDir", "loop.example/g00410/impl.tierSizes"], fn := fun _ => fun
  | [d, g1, g2, g3] => { results := [.lit (.bool false)], args := [d], vars := [g1, g2, g3] }
  | _ => none }
def FnExactFairWriteWrongFalsely : Prop := fnExactFairWriteRow.holds Tryz.pinned (OpenSpec.ofChange fnExactFairWriteWrong)

/-- 'laws.FnExactSureOf': WHATEVER THE INPUT: true; the input reads as it did. -/
def fnExactSureOfSpec : ChangeSpec := { name := "fnExactSureOf", vars := ["loop.example/g00410/impl.stepBounds", "loop.example/g00410/impl.freeDirent", "loop.example/g00410/impl.emptyDir", "loop.example/g00410/impl.tierSizes"], fn := fun _ => fun
  | [d, g1, g2, g3, g4] => { results := [.lit (.bool true)], args := [d], vars := [g1, g2, g3, g4] }
  | _ => none }
def fnExactSureOfRow : OpenClaim := { program := "ytbjjdkemappelaagreatdoor", sum := "4b678404c965a9a82c35555aa91d0cfa8b9e05d3cade8548dd83b0f1108988c6", func := "loop.example/g00410/laws.FnExactSureOf", spec := "fnExactSureOf", unfollowed := true, recurses := true, named := ["loop.example/g00410/impl.stepBounds", "loop.example/g00410/impl.freeDirent", "loop.example/g00410/impl.emptyDir", "loop.example/g00410/impl.tierSizes"], apart := false, laid := [("loop.example/g00410/impl.tierSizes", laid_loop_example_g00410_impl_tierSizes), ("loop.example/g00410/impl.stepBounds", laid_loop_example_g00410_impl_stepBounds), ("loop.example/g00410/impl.emptyDir", laid_loop_example_g00410_impl_emptyDir), ("loop.example/g00410/impl.freeDirent", laid_loop_example_g00410_impl_freeDirent)] }
def FnExactSureOfSaid : Prop := fnExactSureOfRow.holds Tryz.pinned (OpenSpec.ofChange fnExactSureOfSpec)

/-- ITS FALSE NEIGHBOUR: 'it returns false'. Refute it at one input. -/
def fnExactSureOfWrong : ChangeSpec := { name := "fnExactSureOf", vars := ["loop.example/g00410/impl.stepBounds", "loop.example/g00410/impl.freeDirent", "loop.example/g00410/impl.emptyDir", "loop.example/g00410/impl.tierSizes"], fn := fun _ => fun
  | [d, g1, g2, g3, g4] => { results := [.lit (.bool false)], args := [d], vars := [g1, g2, g3, g4] }
  | _ => none }
def FnExactSureOfWrongFalsely : Prop := fnExactSureOfRow.holds Tryz.pinned (OpenSpec.ofChange fnExactSureOfWrong)

/- THE SECOND FORM. 'bulk': how many values and letters a reading holds, each counted each time it is reached (what is shared counts as often as it is met; a slice's spare places count too). A statement '..UptoSaid' is the law's where the arguments, and the package variables that the reading takes, are together of bulk at most 1048576: NARROWER than '..Said'. Prove '..Said' where nothing that the law and all that it calls make is longer than what came in: it says more and counts as full. Else prove '..UptoSaid'. A law counts once. -/
mutual
def uptoBulk {H : Type} : DataW H → Nat
  | .lit (.string bytes) => bytes.length + 1
  | .lit _ => 1
  | .nil => 1
  | .ptr d => uptoBulk d + 1
  | .slice elems spare => uptoBulkAll elems + uptoBulkAll spare + 1
  | .agg parts => uptoBulkAll parts + 1
  | .iface _ d => uptoBulk d + 1
  | .map entries => uptoBulkEntries entries + 1
  | .held _ => 1
def uptoBulkAll {H : Type} : List (DataW H) → Nat
  | [] => 0
  | d :: r => uptoBulk d + uptoBulkAll r
def uptoBulkEntries {H : Type} : List (Lit × DataW H) → Nat
  | [] => 0
  | x :: r => uptoBulkEntry x + uptoBulkEntries r
def uptoBulkEntry {H : Type} : Lit × DataW H → Nat
  | (.string bytes, d) => bytes.length + uptoBulk d + 1
  | (_, d) => uptoBulk d + 1
 end
def uptoSmall : (H : Type) → List (DataW H) → Bool := fun _ ds => decide (uptoBulkAll ds ≤ 1048576)
def OpenSpec.upto (s : _root_.Go.ChangeSpec) : _root_.Go.OpenSpec := { _root_.Go.OpenSpec.ofChange s with cond := some uptoSmall }

/-- 'laws.FnExactAccounted', WHERE WHAT IT READS IS OF BULK AT MOST 1048576: true; the input reads as it did. -/
def fnExactAccountedUptoRow : OpenClaim := { program := "ytbjjdkemappelaagreatdoor", sum := "4b678404c965a9a82c35555aa91d0cfa8b9e05d3cade8548dd83b0f1108988c6", func := "loop.example/g00410/laws.FnExactAccounted", spec := "fnExactAccounted", unfollowed := true, recurses := true, named := ["loop.example/g00410/impl.freeDirent", "loop.example/g00410/impl.emptyDir", "loop.example/g00410/impl.tierSizes"], apart := false, laid := [("loop.example/g00410/impl.tierSizes", laid_loop_example_g00410_impl_tierSizes), ("loop.example/g00410/impl.emptyDir", laid_loop_example_g00410_impl_emptyDir), ("loop.example/g00410/impl.freeDirent", laid_loop_example_g00410_impl_freeDirent)], narrowed := true }
def FnExactAccountedUptoSaid : Prop := fnExactAccountedUptoRow.holds Tryz.pinned (OpenSpec.upto fnExactAccountedSpec)

/-- 'laws.FnExactTiersOf', WHERE WHAT IT READS IS OF BULK AT MOST 1048576: true; the input reads as it did. -/
def fnExactTiersOfUptoRow : OpenClaim := { program := "ytbjjdkemappelaagreatdoor", sum := "4b678404c965a9a82c35555aa91d0cfa8b9e05d3cade8548dd83b0f1108988c6", func := "loop.example/g00410/laws.FnExactTiersOf", spec := "fnExactTiersOf", unfollowed := true, recurses := true, named := ["loop.example/g00410/impl.freeDirent", "loop.example/g00410/impl.emptyDir", "loop.example/g00410/impl.tierSizes"], apart := false, laid := [("loop.example/g00410/impl.tierSizes", laid_loop_example_g00410_impl_tierSizes), ("loop.example/g00410/impl.emptyDir", laid_loop_example_g00410_impl_emptyDir), ("loop.example/g00410/impl.freeDirent", laid_loop_example_g00410_impl_freeDirent)], narrowed := true }
def FnExactTiersOfUptoSaid : Prop := fnExactTiersOfUptoRow.holds Tryz.pinned (OpenSpec.upto fnExactTiersOfSpec)

/-- 'laws.FnExactLoose', WHERE WHAT IT READS IS OF BULK AT MOST 1048576: true; the input reads as it did. -/
def fnExactLooseUptoRow : OpenClaim := { program := "ytbjjdkemappelaagreatdoor", sum := "4b678404c965a9a82c35555aa91d0cfa8b9e05d3cade8548dd83b0f1108988c6", func := "loop.example/g00410/laws.FnExactLoose", spec := "fnExactLoose", unfollowed := true, recurses := true, named := ["loop.example/g00410/impl.freeDirent", "loop.example/g00410/impl.emptyDir", "loop.example/g00410/impl.tierSizes", "loop.example/g00410/impl.stepBounds"], apart := false, laid := [("loop.example/g00410/impl.tierSizes", laid_loop_example_g00410_impl_tierSizes), ("loop.example/g00410/impl.stepBounds", laid_loop_example_g00410_impl_stepBounds), ("loop.example/g00410/impl.emptyDir", laid_loop_example_g00410_impl_emptyDir), ("loop.example/g00410/impl.freeDirent", laid_loop_example_g00410_impl_freeDirent)], narrowed := true }
def FnExactLooseUptoSaid : Prop := fnExactLooseUptoRow.holds Tryz.pinned (OpenSpec.upto fnExactLooseSpec)

/-- 'laws.FnExactFairWrite', WHERE WHAT IT READS IS OF BULK AT MOST 1048576: true; the input reads as it did. -/
def fnExactFairWriteUptoRow : OpenClaim := { program := "ytbjjdkemappelaagreatdoor", sum := "4b678404c965a9a82c35555aa91d0cfa8b9e05d3cade8548dd83b0f1108988c6", func := "loop.example/g00410/laws.FnExactFairWrite", spec := "fnExactFairWrite", unfollowed := true, recurses := true, named := ["loop.example/g00410/impl.freeDirent", "loop.example/g00410/impl.emptyDir", "loop.example/g00410/impl.tierSizes"], apart := false, laid := [("loop.example/g00410/impl.tierSizes", laid_loop_example_g00410_impl_tierSizes), ("loop.example/g00410/impl.emptyDir", laid_loop_example_g00410_impl_emptyDir), ("loop.example/g00410/impl.freeDirent", laid_loop_example_g00410_impl_freeDirent)], narrowed := true }
def FnExactFairWriteUptoSaid : Prop := fnExactFairWriteUptoRow.holds Tryz.pinned (OpenSpec.upto fnExactFairWriteSpec)

/-- 'laws.FnExactSureOf', WHERE WHAT IT READS IS OF BULK AT MOST 1048576: true; the input reads as it did. -/
def fnExactSureOfUptoRow : OpenClaim := { program := "ytbjjdkemappelaagreatdoor", sum := "4b678404c965a9a82c35555aa91d0cfa8b9e05d3cade8548dd83b0f1108988c6", func := "loop.example/g00410/laws.FnExactSureOf", spec := "fnExactSureOf", unfollowed := true, recurses := true, named := ["loop.example/g00410/impl.stepBounds", "loop.example/g00410/impl.freeDirent", "loop.example/g00410/impl.emptyDir", "loop.example/g00410/impl.tierSizes"], apart := false, laid := [("loop.example/g00410/impl.tierSizes", laid_loop_example_g00410_impl_tierSizes), ("loop.example/g00410/impl.stepBounds", laid_loop_example_g00410_impl_stepBounds), ("loop.example/g00410/impl.emptyDir", laid_loop_example_g00410_impl_emptyDir), ("loop.example/g00410/impl.freeDirent", laid_loop_example_g00410_impl_freeDirent)], narrowed := true }
def FnExactSureOfUptoSaid : Prop := fnExactSureOfUptoRow.holds Tryz.pinned (OpenSpec.upto fnExactSureOfSpec)

end Rows
end Go.Proofs.YtbjjdkemappelaaGreatDoor
