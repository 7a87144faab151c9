/-
  NARROWER THAN 'FOR EVERY INPUT', by the rows' own cells (each row's printed sentence says how): FnExactMicroDo: laid · FnExactMicrosDo: laid.
  DERIVED. THE GIVEN ROWS OF THIS SEAT. 2 by the template 'for every input the law returns true; each argument reads behind the call as it read before'; 0 by the template 'total and deterministic' (their statements: YtenadnlgjobmdakDoorTotals.lean).
  GIVEN WITH THE SEED: the statements are not yours to turn. If you find one false, say at which input.
  Laid BY PROGRAM, IN A SANDBOX (cutbox-rows.mjs): the forced cells as the released guide's own fill.sh prints them over the translation 37812a0450e9dfc5… (all of the seat's roots in one cut). By AI agents, Wed Nov 11 2026. No macro, syntax, notation, axiom, sorry.
-/
import Derived.Test.YtenadnlgjobmdakDoorChecked
import GoSem.Claim
import GoSem.ClaimJoined
import GoSem.ClaimMapViews
import Derived.JoinedTies
import Derived.KernelRfl
namespace Go.Proofs.YtenadnlgjobmdakDoor
/- THE CELL 'sum', in the pinned program and in every row, IS THE sha256 OF THE DUMP (.gsa) THAT YtenadnlgjobmdakDoorProg.lean LOADS. Nothing in Lean hashes anything: it is a label: what it is worth is what the hold of that sum in a sandbox is worth. -/
noncomputable def Tryd.pinned : Pinned := { name := "ytenadnlgjobmdakdoor", sum := "37812a0450e9dfc5c2c1ab913f706b352cabe8d4fe45f3ed0e8bc565eca2a206", checked := Tryd.checked }
namespace Rows
def none {H : Type} : Left H := { results := [], args := [] }

/- WHAT THE LISTED PACKAGE-LEVEL VARIABLES READ AS WHEN THE CALL BEGINS. Each datum BY PROGRAM (the guide's laid-datum.mjs) off the statement by which the dump's own 'gosem.cut.vars' lays the variable. In a bare row this is a premise. The card (YtenadnlgjobmdakDoorCards.lean) ties it to the program's text. -/
def laid_loop_example_g00410_impl_stepBounds {H : Type} : DataW H := .agg [.agg [.lit (.int .i64 0), .lit (.int .i64 0)], .agg [.lit (.int .i64 336), .lit (.int .i64 1099511627776)], .agg [.lit (.int .i64 336), .lit (.int .i64 1)], .agg [.lit (.int .i64 1), .lit (.int .i64 1)], .agg [.lit (.int .i64 32), .lit (.int .i64 1099511627776)], .agg [.lit (.int .i64 1), .lit (.int .i64 1)]]

/-- 'laws.FnExactMicroDo': WHATEVER THE INPUT: true; the input reads as it did. -/
def fnExactMicroDoSpec : ChangeSpec := { name := "fnExactMicroDo", vars := ["loop.example/g00410/impl.stepBounds"], fn := fun _ => fun
  | [d1, d2, g1] => { results := [.lit (.bool true)], args := [d1, d2], vars := [g1] }
  | _ => none }
def fnExactMicroDoRow : OpenClaim := { program := "ytenadnlgjobmdakdoor", sum := "37812a0450e9dfc5c2c1ab913f706b352cabe8d4fe45f3ed0e8bc565eca2a206", func := "loop.example/g00410/laws.FnExactMicroDo", spec := "fnExactMicroDo", unfollowed := true, recurses := true, named := ["loop.example/g00410/impl.stepBounds"], apart := false, laid := [("loop.example/g00410/impl.stepBounds", laid_loop_example_g00410_impl_stepBounds)] }
def FnExactMicroDoSaid : Prop := fnExactMicroDoRow.holds Tryd.pinned (OpenSpec.ofChange fnExactMicroDoSpec)

/-- ITS FALSE NEIGHBOUR: 'it returns false'. Refute it at one input. -/
def fnExactMicroDoWrong : ChangeSpec := { name := "fnExactMicroDo", vars := ["loop.example/g00410/impl.stepBounds"], fn := fun _ => fun
  | [d1, d2, g1] => { results := [.lit (.bool false)], args := [d1, d2], vars := [g1] }
  | _ => none }
def FnExactMicroDoWrongFalsely : Prop := fnExactMicroDoRow.holds Tryd.pinned (OpenSpec.ofChange fnExactMicroDoWrong)

/-- 'laws.FnExactMicrosDo': WHATEVER THE INPUT: true; the input reads as it did. -/
def fnExactMicrosDoSpec : ChangeSpec := { name := "fnExactMicrosDo", vars := ["loop.example/g00410/impl.stepBounds"], fn := fun _ => fun
  | [d1, d2, g1] => { results := [.lit (.bool true)], args := [d1, d2], vars := [g1] }
  | _ => none }
def fnExactMicrosDoRow : OpenClaim := { program := "ytenadnlgjobmdakdoor", sum := "37812a0450e9dfc5c2c1ab913f706b352cabe8d4fe45f3ed0e8bc565eca2a206", func := "loop.example/g00410/laws.FnExactMicrosDo", spec := "fnExactMicrosDo", unfollowed := true, recurses := true, named := ["loop.example/g00410/impl.stepBounds"], apart := false, laid := [("loop.example/g00410/impl.stepBounds", laid_loop_example_g00410_impl_stepBounds)] }
def FnExactMicrosDoSaid : Prop := fnExactMicrosDoRow.holds Tryd.pinned (OpenSpec.ofChange fnExactMicrosDoSpec)

/-- ITS FALSE NEIGHBOUR: 'it returns false'. Refute it at one input. -/
def fnExactMicrosDoWrong : ChangeSpec := { name := "fnExactMicrosDo", vars := ["loop.example/g00410/impl.stepBounds"], fn := fun _ => fun
  | [d1, d2, g1] => { results := [.lit (.bool false)], args := [d1, d2], vars := [g1] }
  | _ => none }
def FnExactMicrosDoWrongFalsely : Prop := fnExactMicrosDoRow.holds Tryd.pinned (OpenSpec.ofChange fnExactMicrosDoWrong)

/- THE SECOND FORM. 'bulk': how many values and letters a reading holds, each counted each time it is reached (what is shared counts as often as it is met; a slice's spare places count too). A statement '..UptoSaid' is the law's where the arguments, and the package variables that the reading takes, are together of bulk at most 1048576: NARROWER than '..Said'. Prove '..Said' where nothing that the law and all that it calls make is longer than what came in: it says more and counts as full. Else prove '..UptoSaid'. A law counts once. -/
mutual
def uptoBulk {H : Type} : DataW H → Nat
  | .lit (.string bytes) => bytes.length + 1
  | .lit _ => 1
  | .nil => 1
  | .ptr d => uptoBulk d + 1
  | .slice elems spare => uptoBulkAll elems + uptoBulkAll spare + 1
  | .agg parts => uptoBulkAll parts + 1
  | .iface _ d => uptoBulk d + 1
  | .map entries => uptoBulkEntries entries + 1
  | .held _ => 1
def uptoBulkAll {H : Type} : List (DataW H) → Nat
  | [] => 0
  | d :: r => uptoBulk d + uptoBulkAll r
def uptoBulkEntries {H : Type} : List (Lit × DataW H) → Nat
  | [] => 0
  | x :: r => uptoBulkEntry x + uptoBulkEntries r
def uptoBulkEntry {H : Type} : Lit × DataW H → Nat
  | (.string bytes, d) => bytes.length + uptoBulk d + 1
  | (_, d) => uptoBulk d + 1
 end
def uptoSmall : (H : Type) → List (DataW H) → Bool := fun _ ds => decide (uptoBulkAll ds ≤ 1048576)
def OpenSpec.upto (s : _root_.Go.ChangeSpec) : _root_.Go.OpenSpec := { _root_.Go.OpenSpec.ofChange s with cond := some uptoSmall }

/-- 'laws.FnExactMicroDo', WHERE WHAT IT READS IS OF BULK AT MOST 1048576: true; the input reads as it did. -/
def fnExactMicroDoUptoRow : OpenClaim := { program := "ytenadnlgjobmdakdoor", sum := "37812a0450e9dfc5c2c1ab913f706b352cabe8d4fe45f3ed0e8bc565eca2a206", func := "loop.example/g00410/laws.FnExactMicroDo", spec := "fnExactMicroDo", unfollowed := true, recurses := true, named := ["loop.example/g00410/impl.stepBounds"], apart := false, laid := [("loop.example/g00410/impl.stepBounds", laid_loop_example_g00410_impl_stepBounds)], narrowed := true }
def FnExactMicroDoUptoSaid : Prop := fnExactMicroDoUptoRow.holds Tryd.pinned (OpenSpec.upto fnExactMicroDoSpec)

/-- 'laws.FnExactMicrosDo', WHERE WHAT IT READS IS OF BULK AT MOST 1048576: true; the input reads as it did. -/
def fnExactMicrosDoUptoRow : OpenClaim := { program := "ytenadnlgjobmdakdoor", sum := "37812a0450e9dfc5c2c1ab913f706b352cabe8d4fe45f3ed0e8bc565eca2a206", func := "loop.example/g00410/laws.FnExactMicrosDo", spec := "fnExactMicrosDo", unfollowed := true, recurses := true, named := ["loop.example/g00410/impl.stepBounds"], apart := false, laid := [("loop.example/g00410/impl.stepBounds", laid_loop_example_g00410_impl_stepBounds)], narrowed := true }
def FnExactMicrosDoUptoSaid : Prop := fnExactMicrosDoUptoRow.holds Tryd.pinned (OpenSpec.upto fnExactMicrosDoSpec)

end Rows
end Go.Proofs.YtenadnlgjobmdakDoor
