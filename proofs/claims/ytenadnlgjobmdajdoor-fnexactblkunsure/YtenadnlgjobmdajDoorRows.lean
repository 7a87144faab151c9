/-
  NARROWER THAN 'FOR EVERY INPUT', by the rows' own cells (each row's printed sentence says how): FnExactBlkCrash: laid · FnExactBlkUnsure: laid · FnExactPackEntry: laid · FnExactTierOf: laid.
  DERIVED. THE GIVEN ROWS OF THIS SEAT. 4 by the template 'for every input the law returns true; each argument reads behind the call as it read before'; 0 by the template 'total and deterministic' (their statements: YtenadnlgjobmdajDoorTotals.lean).
  GIVEN WITH THE SEED: the statements are not yours to turn. If you find one false, say at which input.
  Laid BY PROGRAM, IN A SANDBOX (cutbox-rows.mjs): the forced cells as the released guide's own fill.sh prints them over the translation a7dbc535db0b1560… (all of the seat's roots in one cut). By AI agents, Wed Nov 11 2026. No macro, syntax, notation, axiom, sorry.
-/
import Derived.Test.YtenadnlgjobmdajDoorChecked
import GoSem.Claim
import GoSem.ClaimJoined
import GoSem.ClaimMapViews
import Derived.JoinedTies
import Derived.KernelRfl
namespace Go.Proofs.YtenadnlgjobmdajDoor
/- THE CELL 'sum', in the pinned program and in every row, IS THE sha256 OF THE DUMP (.gsa) THAT YtenadnlgjobmdajDoorProg.lean LOADS. Nothing in Lean hashes anything: it is a label: what it is worth is what the hold of that sum in a sandbox is worth. -/
noncomputable def Tryd.pinned : Pinned := { name := "ytenadnlgjobmdajdoor", sum := "a7dbc535db0b1560e577f557349ef365afd515b3ee6a9fb44dd2bcbc11a290f6", checked := Tryd.checked }
namespace Rows
def none {H : Type} : Left H := { results := [], args := [] }

/- WHAT THE LISTED PACKAGE-LEVEL VARIABLES READ AS WHEN THE CALL BEGINS. Each datum BY PROGRAM (the guide's laid-datum.mjs) off the statement by which the dump's own 'gosem.cut.vars' lays the variable. In a bare row this is a premise. The card (YtenadnlgjobmdajDoorCards.lean) ties it to the program's text. -/
def laid_loop_example_g00410_impl_noWrite {H : Type} : DataW H := .agg [.lit (.int .i64 (-1)), .lit (.int .i64 0)]
def laid_loop_example_g00410_impl_tierSizes {H : Type} : DataW H := .agg [.lit (.int .i64 1), .lit (.int .i64 24), .lit (.int .i64 32)]

/-- 'laws.FnExactBlkCrash': WHATEVER THE INPUT: true; the input reads as it did. -/
def fnExactBlkCrashSpec : ChangeSpec := { name := "fnExactBlkCrash", vars := ["loop.example/g00410/impl.noWrite"], fn := fun _ => fun
  | [d1, d2, g1] => { results := [.lit (.bool true)], args := [d1, d2], vars := [g1] }
  | _ => none }
def fnExactBlkCrashRow : OpenClaim := { program := "ytenadnlgjobmdajdoor", sum := "a7dbc535db0b1560e577f557349ef365afd515b3ee6a9fb44dd2bcbc11a290f6", func := "loop.example/g00410/laws.FnExactBlkCrash", spec := "fnExactBlkCrash", unfollowed := true, recurses := true, named := ["loop.example/g00410/impl.noWrite"], apart := false, laid := [("loop.example/g00410/impl.noWrite", laid_loop_example_g00410_impl_noWrite)] }
def FnExactBlkCrashSaid : Prop := fnExactBlkCrashRow.holds Tryd.pinned (OpenSpec.ofChange fnExactBlkCrashSpec)

/-- ITS FALSE NEIGHBOUR: 'it returns false'. Refute it at one input. -/
def fnExactBlkCrashWrong : ChangeSpec := { name := "fnExactBlkCrash", vars := ["loop.example/g00410/impl.noWrite"], fn := fun _ => fun
  | [d1, d2, g1] => { results := [.lit (.bool false)], args := [d1, d2], vars := [g1] }
  | _ => none }
def FnExactBlkCrashWrongFalsely : Prop := fnExactBlkCrashRow.holds Tryd.pinned (OpenSpec.ofChange fnExactBlkCrashWrong)

/-- 'laws.FnExactBlkUnsure': WHATEVER THE INPUT: true; the input reads as it did. -/
def fnExactBlkUnsureSpec : ChangeSpec := { name := "fnExactBlkUnsure", vars := ["loop.example/g00410/impl.noWrite"], fn := fun _ => fun
  | [d, g1] => { results := [.lit (.bool true)], args := [d], vars := [g1] }
  | _ => none }
def fnExactBlkUnsureRow : OpenClaim := { program := "ytenadnlgjobmdajdoor", sum := "a7dbc535db0b1560e577f557349ef365afd515b3ee6a9fb44dd2bcbc11a290f6", func := "loop.example/g00410/laws.FnExactBlkUnsure", spec := "fnExactBlkUnsure", unfollowed := true, recurses := true, named := ["loop.example/g00410/impl.noWrite"], apart := false, laid := [("loop.example/g00410/impl.noWrite", laid_loop_example_g00410_impl_noWrite)] }
def FnExactBlkUnsureSaid : Prop := fnExactBlkUnsureRow.holds Tryd.pinned (OpenSpec.ofChange fnExactBlkUnsureSpec)

/-- ITS FALSE NEIGHBOUR: 'it returns false'. Refute it at one input. -/
def fnExactBlkUnsureWrong : ChangeSpec := { name := "fnExactBlkUnsure", vars := ["loop.example/g00410/impl.noWrite"], fn := fun _ => fun
  | [d, g1] => { results := [.lit (.bool false)], args := [d], vars := [g1] }
  | _ => none }
def FnExactBlkUnsureWrongFalsely : Prop := fnExactBlkUnsureRow.holds Tryd.pinned (OpenSpec.ofChange fnExactBlkUnsureWrong)

/-- 'laws.FnExactPackEntry': WHATEVER THE INPUT: true; the input reads as it did. -/
def fnExactPackEntrySpec : ChangeSpec := { name := "fnExactPackEntry", vars := ["loop.example/g00410/impl.tierSizes"], fn := fun _ => fun
  | [d1, d2, g1] => { results := [.lit (.bool true)], args := [d1, d2], vars := [g1] }
  | _ => none }
def fnExactPackEntryRow : OpenClaim := { program := "ytenadnlgjobmdajdoor", sum := "a7dbc535db0b1560e577f557349ef365afd515b3ee6a9fb44dd2bcbc11a290f6", func := "loop.example/g00410/laws.FnExactPackEntry", spec := "fnExactPackEntry", named := ["loop.example/g00410/impl.tierSizes"], apart := false, laid := [("loop.example/g00410/impl.tierSizes", laid_loop_example_g00410_impl_tierSizes)] }
def FnExactPackEntrySaid : Prop := fnExactPackEntryRow.holds Tryd.pinned (OpenSpec.ofChange fnExactPackEntrySpec)

/-- ITS FALSE NEIGHBOUR: 'it returns false'. Refute it at one input. -/
def fnExactPackEntryWrong : ChangeSpec := { name := "fnExactPackEntry", vars := ["loop.example/g00410/impl.tierSizes"], fn := fun _ => fun
  | [d1, d2, g1] => { results := [.lit (.bool false)], args := [d1, d2], vars := [g1] }
  | _ => none }
def FnExactPackEntryWrongFalsely : Prop := fnExactPackEntryRow.holds Tryd.pinned (OpenSpec.ofChange fnExactPackEntryWrong)

/-- 'laws.FnExactTierOf': WHATEVER THE INPUT: true; the input reads as it did. -/
def fnExactTierOfSpec : ChangeSpec := { name := "fnExactTierOf", vars := ["loop.example/g00410/impl.tierSizes"], fn := fun _ => fun
  | [d, g1] => { results := [.lit (.bool true)], args := [d], vars := [g1] }
  | _ => none }
def fnExactTierOfRow : OpenClaim := { program := "ytenadnlgjobmdajdoor", sum := "a7dbc535db0b1560e577f557349ef365afd515b3ee6a9fb44dd2bcbc11a290f6", func := "loop.example/g00410/laws.FnExactTierOf", spec := "fnExactTierOf", named := ["loop.example/g00410/impl.tierSizes"], apart := false, laid := [("loop.example/g00410/impl.tierSizes", laid_loop_example_g00410_impl_tierSizes)] }
def FnExactTierOfSaid : Prop := fnExactTierOfRow.holds Tryd.pinned (OpenSpec.ofChange fnExactTierOfSpec)

/-- ITS FALSE NEIGHBOUR: 'it returns false'. Refute it at one input. -/
def fnExactTierOfWrong : ChangeSpec := { name := "fnExactTierOf", vars := ["loop.example/g00410/impl.tierSizes"], fn := fun _ => fun
  | [d, g1] => { results := [.lit (.bool false)], args := [d], vars := [g1] }
  | _ => none }
def FnExactTierOfWrongFalsely : Prop := fnExactTierOfRow.holds Tryd.pinned (OpenSpec.ofChange fnExactTierOfWrong)

/- THE SECOND FORM. 'bulk': how many values and letters a reading holds, each counted each time it is reached (what is shared counts as often as it is met; a slice's spare places count too). A statement '..UptoSaid' is the law's where the arguments, and the package variables that the reading takes, are together of bulk at most 1048576: NARROWER than '..Said'. Prove '..Said' where nothing that the law and all that it calls make is longer than what came in: it says more and counts as full. Else prove '..UptoSaid'. A law counts once. -/
mutual
def uptoBulk {H : Type} : DataW H → Nat
  | .lit (.string bytes) => bytes.length + 1
  | .lit _ => 1
  | .nil => 1
  | .ptr d => uptoBulk d + 1
  | .slice elems spare => uptoBulkAll elems + uptoBulkAll spare + 1
  | .agg parts => uptoBulkAll parts + 1
  | .iface _ d => uptoBulk d + 1
  | .map entries => uptoBulkEntries entries + 1
  | .held _ => 1
def uptoBulkAll {H : Type} : List (DataW H) → Nat
  | [] => 0
  | d :: r => uptoBulk d + uptoBulkAll r
def uptoBulkEntries {H : Type} : List (Lit × DataW H) → Nat
  | [] => 0
  | x :: r => uptoBulkEntry x + uptoBulkEntries r
def uptoBulkEntry {H : Type} : Lit × DataW H → Nat
  | (.string bytes, d) => bytes.length + uptoBulk d + 1
  | (_, d) => uptoBulk d + 1
 end
def uptoSmall : (H : Type) → List (DataW H) → Bool := fun _ ds => decide (uptoBulkAll ds ≤ 1048576)
def OpenSpec.upto (s : _root_.Go.ChangeSpec) : _root_.Go.OpenSpec := { _root_.Go.OpenSpec.ofChange s with cond := some uptoSmall }

/-- 'laws.FnExactBlkCrash', WHERE WHAT IT READS IS OF BULK AT MOST 1048576: true; the input reads as it did. -/
def fnExactBlkCrashUptoRow : OpenClaim := { program := "ytenadnlgjobmdajdoor", sum := "a7dbc535db0b1560e577f557349ef365afd515b3ee6a9fb44dd2bcbc11a290f6", func := "loop.example/g00410/laws.FnExactBlkCrash", spec := "fnExactBlkCrash", unfollowed := true, recurses := true, named := ["loop.example/g00410/impl.noWrite"], apart := false, laid := [("loop.example/g00410/impl.noWrite", laid_loop_example_g00410_impl_noWrite)], narrowed := true }
def FnExactBlkCrashUptoSaid : Prop := fnExactBlkCrashUptoRow.holds Tryd.pinned (OpenSpec.upto fnExactBlkCrashSpec)

/-- 'laws.FnExactBlkUnsure', WHERE WHAT IT READS IS OF BULK AT MOST 1048576: true; the input reads as it did. -/
def fnExactBlkUnsureUptoRow : OpenClaim := { program := "ytenadnlgjobmdajdoor", sum := "a7dbc535db0b1560e577f557349ef365afd515b3ee6a9fb44dd2bcbc11a290f6", func := "loop.example/g00410/laws.FnExactBlkUnsure", spec := "fnExactBlkUnsure", unfollowed := true, recurses := true, named := ["loop.example/g00410/impl.noWrite"], apart := false, laid := [("loop.example/g00410/impl.noWrite", laid_loop_example_g00410_impl_noWrite)], narrowed := true }
def FnExactBlkUnsureUptoSaid : Prop := fnExactBlkUnsureUptoRow.holds Tryd.pinned (OpenSpec.upto fnExactBlkUnsureSpec)

/-- 'laws.FnExactPackEntry', WHERE WHAT IT READS IS OF BULK AT MOST 1048576: true; the input reads as it did. -/
def fnExactPackEntryUptoRow : OpenClaim := { program := "ytenadnlgjobmdajdoor", sum := "a7dbc535db0b1560e577f557349ef365afd515b3ee6a9fb44dd2bcbc11a290f6", func := "loop.example/g00410/laws.FnExactPackEntry", spec := "fnExactPackEntry", named := ["loop.example/g00410/impl.tierSizes"], apart := false, laid := [("loop.example/g00410/impl.tierSizes", laid_loop_example_g00410_impl_tierSizes)], narrowed := true }
def FnExactPackEntryUptoSaid : Prop := fnExactPackEntryUptoRow.holds Tryd.pinned (OpenSpec.upto fnExactPackEntrySpec)

/-- 'laws.FnExactTierOf', WHERE WHAT IT READS IS OF BULK AT MOST 1048576: true; the input reads as it did. -/
def fnExactTierOfUptoRow : OpenClaim := { program := "ytenadnlgjobmdajdoor", sum := "a7dbc535db0b1560e577f557349ef365afd515b3ee6a9fb44dd2bcbc11a290f6", func := "loop.example/g00410/laws.FnExactTierOf", spec := "fnExactTierOf", named := ["loop.example/g00410/impl.tierSizes"], apart := false, laid := [("loop.example/g00410/impl.tierSizes", laid_loop_example_g00410_impl_tierSizes)], narrowed := true }
def FnExactTierOfUptoSaid : Prop := fnExactTierOfUptoRow.holds Tryd.pinned (OpenSpec.upto fnExactTierOfSpec)

end Rows
end Go.Proofs.YtenadnlgjobmdajDoor
