/-
  NARROWER THAN 'FOR EVERY INPUT', by the rows' own cells (each row's printed sentence says how): FnExactCrashFs: laid · FnExactCrashTwice: laid.
  DERIVED. THE GIVEN ROWS OF THIS SEAT. 2 by the template 'for every input the law returns true; each argument reads behind the call as it read before'; 0 by the template 'total and deterministic' (their statements: YtahiphgmhndgaaaGreatDoorTotals.lean).
  GIVEN WITH THE SEED: the statements are not yours to turn. If you find one false, say at which input.
  Laid BY PROGRAM, IN A SANDBOX (cutbox-rows.mjs): the forced cells as the released guide's own fill.sh prints them over the translation 8ea0cde330621dde… (all of the seat's roots in one cut). By AI agents, Wed Nov 11 2026. No macro, syntax, notation, axiom, sorry.
-/
import Derived.Test.YtahiphgmhndgaaaGreatDoorChecked
import GoSem.Claim
import GoSem.ClaimJoined
import GoSem.ClaimMapViews
import Derived.JoinedTies
import Derived.KernelRfl
namespace Go.Proofs.YtahiphgmhndgaaaGreatDoor
/- THE CELL 'sum', in the pinned program and in every row, IS THE sha256 OF THE DUMP (.gsa) THAT YtahiphgmhndgaaaGreatDoorProg.lean LOADS. Nothing in Lean hashes anything: it is a label: what it is worth is what the hold of that sum in a sandbox is worth. -/
noncomputable def Tryz.pinned : Pinned := { name := "ytahiphgmhndgaaagreatdoor", sum := "8ea0cde330621dde1f2b4370a7621e7af87fd5279714b02b574fd6fc5053c4c9", checked := Tryz.checked }
namespace Rows
def none {H : Type} : Left H := { results := [], args := [] }

/- WHAT THE LISTED PACKAGE-LEVEL VARIABLES READ AS WHEN THE CALL BEGINS. Each datum BY PROGRAM (the guide's laid-datum.mjs) off the statement by which the dump's own 'gosem.cut.vars' lays the variable. In a bare row this is a premise. The card (YtahiphgmhndgaaaGreatDoorCards.lean) ties it to the program's text. -/
def laid_loop_example_g00410_impl_noWrite {H : Type} : DataW H := .agg [.lit (.int .i64 (-1)), .lit (.int .i64 0)]
def laid_loop_example_g00410_impl_tierSizes {H : Type} : DataW H := .agg [.lit (.int .i64 1), .lit (.int .i64 24), .lit (.int .i64 32)]
def laid_loop_example_g00410_impl_stepBounds {H : Type} : DataW H := .agg [.agg [.lit (.int .i64 0), .lit (.int .i64 0)], .agg [.lit (.int .i64 336), .lit (.int .i64 1099511627776)], .agg [.lit (.int .i64 336), .lit (.int .i64 1)], .agg [.lit (.int .i64 1), .lit (.int .i64 1)], .agg [.lit (.int .i64 32), .lit (.int .i64 1099511627776)], .agg [.lit (.int .i64 1), .lit (.int .i64 1)]]
def laid_loop_example_g00410_impl_emptyDir {H : Type} : DataW H := .agg [.lit (.int .i64 2), .lit (.int .i64 0), .lit (.int .i64 1), .agg [.lit (.int .i64 0), .lit (.int .i64 0), .lit (.int .i64 0), .lit (.int .i64 0), .lit (.int .i64 0), .lit (.int .i64 0), .lit (.int .i64 0), .lit (.int .i64 0)]]
def laid_loop_example_g00410_impl_freeDirent {H : Type} : DataW H := .agg [.lit (.int .i64 0), .lit (.string []), .lit (.int .i64 (-1))]

/-- 'laws.FnExactCrashFs': WHATEVER THE INPUT: true; the input reads as it did. -/
def fnExactCrashFsSpec : ChangeSpec := { name := "fnExactCrashFs", vars := ["loop.example/g00410/impl.stepBounds", "loop.example/g00410/impl.freeDirent", "loop.example/g00410/impl.emptyDir", "loop.example/g00410/impl.tierSizes", "loop.example/g00410/impl.noWrite"], fn := fun _ => fun
  | [d1, d2, g1, g2, g3, g4, g5] => { results := [.lit (.bool true)], args := [d1, d2], vars := [g1, g2, g3, g4, g5] }
  | _ => none }
def fnExactCrashFsRow : OpenClaim := { program := "ytahiphgmhndgaaagreatdoor", sum := "8ea0cde330621dde1f2b4370a7621e7af87fd5279714b02b574fd6fc5053c4c9", func := "loop.example/g00410/laws.FnExactCrashFs", spec := "fnExactCrashFs", unfollowed := true, recurses := true, named := ["loop.example/g00410/impl.stepBounds", "loop.example/g00410/impl.freeDirent", "loop.example/g00410/impl.emptyDir", "loop.example/g00410/impl.tierSizes", "loop.example/g00410/impl.noWrite"], apart := false, laid := [("loop.example/g00410/impl.noWrite", laid_loop_example_g00410_impl_noWrite), ("loop.example/g00410/impl.tierSizes", laid_loop_example_g00410_impl_tierSizes), ("loop.example/g00410/impl.stepBounds", laid_loop_example_g00410_impl_stepBounds), ("loop.example/g00410/impl.emptyDir", laid_loop_example_g00410_impl_emptyDir), ("loop.example/g00410/impl.freeDirent", laid_loop_example_g00410_impl_freeDirent)] }
def FnExactCrashFsSaid : Prop := fnExactCrashFsRow.holds Tryz.pinned (OpenSpec.ofChange fnExactCrashFsSpec)

/-- ITS FALSE NEIGHBOUR: 'it returns false'. Refute it at one input. -/
def fnExactCrashFsWrong : ChangeSpec := { name := "fnExactCrashFs", vars := ["loop.example/g00410/impl.stepBounds", "loop.example/g00410/impl.freeDirent", "loop.example/g00410/impl.emptyDir", "loop.example/g00410/impl.tierSizes", "loop.example/g00410/impl.noWrite"], fn := fun _ => fun
  | [d1, d2, g1, g2, g3, g4, g5] => { results := [.lit (.bool false)], args := [d1, d2], vars := [g1, g2, g3, g4, g5] }
  | _ => none }
def FnExactCrashFsWrongFalsely : Prop := fnExactCrashFsRow.holds Tryz.pinned (OpenSpec.ofChange fnExactCrashFsWrong)

/-- 'laws.FnExactCrashTwice': WHATEVER THE INPUT: true; the input reads as it did. -/
def fnExactCrashTwiceSpec : ChangeSpec := { name := "fnExactCrashTwice", vars := ["loop.example/g00410/impl.stepBounds", "loop.example/g00410/impl.freeDirent", "loop.example/g00410/impl.emptyDir", "loop.example/g00410/impl.tierSizes", "loop.example/g00410/impl.noWrite"], fn := fun _ => fun
  | [d1, d2, d3, d4, g1, g2, g3, g4, g5] => { results := [.lit (.bool true)], args := [d1, d2, d3, d4], vars := [g1, g2, g3, g4, g5] }
  | _ => none }
def fnExactCrashTwiceRow : OpenClaim := { program := "ytahiphgmhndgaaagreatdoor", sum := "8ea0cde330621dde1f2b4370a7621e7af87fd5279714b02b574fd6fc5053c4c9", func := "loop.example/g00410/laws.FnExactCrashTwice", spec := "fnExactCrashTwice", unfollowed := true, recurses := true, named := ["loop.example/g00410/impl.stepBounds", "loop.example/g00410/impl.freeDirent", "loop.example/g00410/impl.emptyDir", "loop.example/g00410/impl.tierSizes", "loop.example/g00410/impl.noWrite"], apart := false, laid := [("loop.example/g00410/impl.noWrite", laid_loop_example_g00410_impl_noWrite), ("loop.example/g00410/impl.tierSizes", laid_loop_example_g00410_impl_tierSizes), ("loop.example/g00410/impl.stepBounds", laid_loop_example_g00410_impl_stepBounds), ("loop.example/g00410/impl.emptyDir", laid_loop_example_g00410_impl_emptyDir), ("loop.example/g00410/impl.freeDirent", laid_loop_example_g00410_impl_freeDirent)] }
def FnExactCrashTwiceSaid : Prop := fnExactCrashTwiceRow.holds Tryz.pinned (OpenSpec.ofChange fnExactCrashTwiceSpec)

/-- ITS FALSE NEIGHBOUR: 'it returns false'. Refute it at one input. -/
def fnExactCrashTwiceWrong : ChangeSpec := { name := "fnExactCrashTwice", vars := ["loop.example/g00410/impl.stepBounds", "loop.example/g00410/impl.freeDirent", "loop.example/g00410/impl.emptyDir", "loop.example/g00410/impl.tierSizes", "loop.example/g00410/impl.noWrite"], fn := fun _ => fun
  | [d1, d2, d3, d4, g1, g2, g3, g4, g5] => { results := [.lit (.bool false)], args := [d1, d2, d3, d4], vars := [g1, g2, g3, g4, g5] }
  | _ => none }
def FnExactCrashTwiceWrongFalsely : Prop := fnExactCrashTwiceRow.holds Tryz.pinned (OpenSpec.ofChange fnExactCrashTwiceWrong)

/- THE SECOND FORM. 'bulk': how many values and letters a reading holds, each counted each time it is reached (what is shared counts as often as it is met; a slice's spare places count too). A statement '..UptoSaid' is the law's where the arguments, and the package variables that the reading takes, are together of bulk at most 1048576: NARROWER than '..Said'. Prove '..Said' where nothing that the law and all that it calls make is longer than what came in: it says more and counts as full. Else prove '..UptoSaid'. A law counts once. -/
mutual
def uptoBulk {H : Type} : DataW H → Nat
  | .lit (.string bytes) => bytes.length + 1
  | .lit _ => 1
  | .nil => 1
  | .ptr d => uptoBulk d + 1
  | .slice elems spare => uptoBulkAll elems + uptoBulkAll spare + 1
  | .agg parts => uptoBulkAll parts + 1
  | .iface _ d => uptoBulk d + 1
  | .map entries => uptoBulkEntries entries + 1
  | .held _ => 1
def uptoBulkAll {H : Type} : List (DataW H) → Nat
  | [] => 0
  | d :: r => uptoBulk d + uptoBulkAll r
def uptoBulkEntries {H : Type} : List (Lit × DataW H) → Nat
  | [] => 0
  | x :: r => uptoBulkEntry x + uptoBulkEntries r
def uptoBulkEntry {H : Type} : Lit × DataW H → Nat
  | (.string bytes, d) => bytes.length + uptoBulk d + 1
  | (_, d) => uptoBulk d + 1
 end
def uptoSmall : (H : Type) → List (DataW H) → Bool := fun _ ds => decide (uptoBulkAll ds ≤ 1048576)
def OpenSpec.upto (s : _root_.Go.ChangeSpec) : _root_.Go.OpenSpec := { _root_.Go.OpenSpec.ofChange s with cond := some uptoSmall }

/-- 'laws.FnExactCrashFs', WHERE WHAT IT READS IS OF BULK AT MOST 1048576: true; the input reads as it did. -/
def fnExactCrashFsUptoRow : OpenClaim := { program := "ytahiphgmhndgaaagreatdoor", sum := "8ea0cde330621dde1f2b4370a7621e7af87fd5279714b02b574fd6fc5053c4c9", func := "loop.example/g00410/laws.FnExactCrashFs", spec := "fnExactCrashFs", unfollowed := true, recurses := true, named := ["loop.example/g00410/impl.stepBounds", "loop.example/g00410/impl.freeDirent", "loop.example/g00410/impl.emptyDir", "loop.example/g00410/impl.tierSizes", "loop.example/g00410/impl.noWrite"], apart := false, laid := [("loop.example/g00410/impl.noWrite", laid_loop_example_g00410_impl_noWrite), ("loop.example/g00410/impl.tierSizes", laid_loop_example_g00410_impl_tierSizes), ("loop.example/g00410/impl.stepBounds", laid_loop_example_g00410_impl_stepBounds), ("loop.example/g00410/impl.emptyDir", laid_loop_example_g00410_impl_emptyDir), ("loop.example/g00410/impl.freeDirent", laid_loop_example_g00410_impl_freeDirent)], narrowed := true }
def FnExactCrashFsUptoSaid : Prop := fnExactCrashFsUptoRow.holds Tryz.pinned (OpenSpec.upto fnExactCrashFsSpec)

/-- 'laws.FnExactCrashTwice', WHERE WHAT IT READS IS OF BULK AT MOST 1048576: true; the input reads as it did. -/
def fnExactCrashTwiceUptoRow : OpenClaim := { program := "ytahiphgmhndgaaagreatdoor", sum := "8ea0cde330621dde1f2b4370a7621e7af87fd5279714b02b574fd6fc5053c4c9", func := "loop.example/g00410/laws.FnExactCrashTwice", spec := "fnExactCrashTwice", unfollowed := true, recurses := true, named := ["loop.example/g00410/impl.stepBounds", "loop.example/g00410/impl.freeDirent", "loop.example/g00410/impl.emptyDir", "loop.example/g00410/impl.tierSizes", "loop.example/g00410/impl.noWrite"], apart := false, laid := [("loop.example/g00410/impl.noWrite", laid_loop_example_g00410_impl_noWrite), ("loop.example/g00410/impl.tierSizes", laid_loop_example_g00410_impl_tierSizes), ("loop.example/g00410/impl.stepBounds", laid_loop_example_g00410_impl_stepBounds), ("loop.example/g00410/impl.emptyDir", laid_loop_example_g00410_impl_emptyDir), ("loop.example/g00410/impl.freeDirent", laid_loop_example_g00410_impl_freeDirent)], narrowed := true }
def FnExactCrashTwiceUptoSaid : Prop := fnExactCrashTwiceUptoRow.holds Tryz.pinned (OpenSpec.upto fnExactCrashTwiceSpec)

end Rows
end Go.Proofs.YtahiphgmhndgaaaGreatDoor
