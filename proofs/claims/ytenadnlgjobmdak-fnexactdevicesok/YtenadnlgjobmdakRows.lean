/-
  No cell of these rows narrows 'for every input' (looked for: loops, veiled, ifaces, maps, wideKeys, modest, calm, conditions, laid).
  DERIVED. THE GIVEN ROWS OF THIS SEAT. 4 by the template 'for every input the law returns true; each argument reads behind the call as it read before'; 0 by the template 'total and deterministic' (their statements: YtenadnlgjobmdakTotals.lean).
  GIVEN WITH THE SEED: the statements are not yours to turn. If you find one false, say at which input.
  Laid BY PROGRAM, IN A SANDBOX (cutbox-rows.mjs): the forced cells as the released guide's own fill.sh prints them over the translation 7c16e61297310ca6… (all of the seat's roots in one cut). By AI agents, Wed Nov 11 2026. No macro, syntax, notation, axiom, sorry.
-/
import Derived.Test.YtenadnlgjobmdakChecked
import GoSem.Claim
import GoSem.ClaimJoined
import GoSem.ClaimMapViews
import Derived.JoinedTies
import Derived.KernelRfl
namespace Go.Proofs.Ytenadnlgjobmdak
/- THE CELL 'sum', in the pinned program and in every row, IS THE sha256 OF THE DUMP (.gsa) THAT YtenadnlgjobmdakProg.lean LOADS. Nothing in Lean hashes anything: it is a label: what it is worth is what the hold of that sum in a sandbox is worth. -/
noncomputable def Try.pinned : Pinned := { name := "ytenadnlgjobmdak", sum := "7c16e61297310ca6c22461af423deeb371a997ad88b0b216bdfcedf3a43d3551", checked := Try.checked }
namespace Rows
def none {H : Type} : Left H := { results := [], args := [] }

/-- 'laws.FnExactInodeWord': WHATEVER THE INPUT: true; the input reads as it did. -/
def fnExactInodeWordSpec : ChangeSpec := { name := "fnExactInodeWord", fn := fun _ => fun
  | [d1, d2] => { results := [.lit (.bool true)], args := [d1, d2] }
  | _ => none }
def fnExactInodeWordRow : OpenClaim := { program := "ytenadnlgjobmdak", sum := "7c16e61297310ca6c22461af423deeb371a997ad88b0b216bdfcedf3a43d3551", func := "loop.example/g00410/laws.FnExactInodeWord", spec := "fnExactInodeWord", apart := false }
def FnExactInodeWordSaid : Prop := fnExactInodeWordRow.holds Try.pinned (OpenSpec.ofChange fnExactInodeWordSpec)

/-- ITS FALSE NEIGHBOUR: 'it returns false'. Refute it at one input. -/
def fnExactInodeWordWrong : ChangeSpec := { name := "fnExactInodeWord", fn := fun _ => fun
  | [d1, d2] => { results := [.lit (.bool false)], args := [d1, d2] }
  | _ => none }
def FnExactInodeWordWrongFalsely : Prop := fnExactInodeWordRow.holds Try.pinned (OpenSpec.ofChange fnExactInodeWordWrong)

/-- 'laws.FnExactDirentWord': WHATEVER THE INPUT: true; the input reads as it did. -/
def fnExactDirentWordSpec : ChangeSpec := { name := "fnExactDirentWord", fn := fun _ => fun
  | [d1, d2] => { results := [.lit (.bool true)], args := [d1, d2] }
  | _ => none }
def fnExactDirentWordRow : OpenClaim := { program := "ytenadnlgjobmdak", sum := "7c16e61297310ca6c22461af423deeb371a997ad88b0b216bdfcedf3a43d3551", func := "loop.example/g00410/laws.FnExactDirentWord", spec := "fnExactDirentWord", apart := false }
def FnExactDirentWordSaid : Prop := fnExactDirentWordRow.holds Try.pinned (OpenSpec.ofChange fnExactDirentWordSpec)

/-- ITS FALSE NEIGHBOUR: 'it returns false'. Refute it at one input. -/
def fnExactDirentWordWrong : ChangeSpec := { name := "fnExactDirentWord", fn := fun _ => fun
  | [d1, d2] => { results := [.lit (.bool false)], args := [d1, d2] }
  | _ => none }
def FnExactDirentWordWrongFalsely : Prop := fnExactDirentWordRow.holds Try.pinned (OpenSpec.ofChange fnExactDirentWordWrong)

/-- 'laws.FnExactDevicesOK': WHATEVER THE INPUT: true; the input reads as it did. -/
def fnExactDevicesOKSpec : ChangeSpec := { name := "fnExactDevicesOK", fn := fun _ => fun
  | [d] => { results := [.lit (.bool true)], args := [d] }
  | _ => none }
def fnExactDevicesOKRow : OpenClaim := { program := "ytenadnlgjobmdak", sum := "7c16e61297310ca6c22461af423deeb371a997ad88b0b216bdfcedf3a43d3551", func := "loop.example/g00410/laws.FnExactDevicesOK", spec := "fnExactDevicesOK", unfollowed := true, recurses := true, apart := false }
def FnExactDevicesOKSaid : Prop := fnExactDevicesOKRow.holds Try.pinned (OpenSpec.ofChange fnExactDevicesOKSpec)

/-- ITS FALSE NEIGHBOUR: 'it returns false'. Refute it at one input. -/
def fnExactDevicesOKWrong : ChangeSpec := { name := "fnExactDevicesOK", fn := fun _ => fun
  | [d] => { results := [.lit (.bool false)], args := [d] }
  | _ => none }
def FnExactDevicesOKWrongFalsely : Prop := fnExactDevicesOKRow.holds Try.pinned (OpenSpec.ofChange fnExactDevicesOKWrong)

/-- 'laws.FnExactJournalPlan': WHATEVER THE INPUT: true; the input reads as it did. -/
def fnExactJournalPlanSpec : ChangeSpec := { name := "fnExactJournalPlan", fn := fun _ => fun
  | [d] => { results := [.lit (.bool true)], args := [d] }
  | _ => none }
def fnExactJournalPlanRow : OpenClaim := { program := "ytenadnlgjobmdak", sum := "7c16e61297310ca6c22461af423deeb371a997ad88b0b216bdfcedf3a43d3551", func := "loop.example/g00410/laws.FnExactJournalPlan", spec := "fnExactJournalPlan", unfollowed := true, recurses := true, apart := false }
def FnExactJournalPlanSaid : Prop := fnExactJournalPlanRow.holds Try.pinned (OpenSpec.ofChange fnExactJournalPlanSpec)

/-- ITS FALSE NEIGHBOUR: 'it returns false'. Refute it at one input. -/
def fnExactJournalPlanWrong : ChangeSpec := { name := "fnExactJournalPlan", fn := fun _ => fun
  | [d] => { results := [.lit (.bool false)], args := [d] }
  | _ => none }
def FnExactJournalPlanWrongFalsely : Prop := fnExactJournalPlanRow.holds Try.pinned (OpenSpec.ofChange fnExactJournalPlanWrong)

/- THE SECOND FORM. 'bulk': how many values and letters a reading holds, each counted each time it is reached (what is shared counts as often as it is met; a slice's spare places count too). A statement '..UptoSaid' is the law's where the arguments, and the package variables that the reading takes, are together of bulk at most 1048576: NARROWER than '..Said'. Prove '..Said' where nothing that the law and all that it calls make is longer than what came in: it says more and counts as full. Else prove '..UptoSaid'. A law counts once. -/
mutual
def uptoBulk {H : Type} : DataW H → Nat
  | .lit (.string bytes) => bytes.length + 1
  | .lit _ => 1
  | .nil => 1
  | .ptr d => uptoBulk d + 1
  | .slice elems spare => uptoBulkAll elems + uptoBulkAll spare + 1
  | .agg parts => uptoBulkAll parts + 1
  | .iface _ d => uptoBulk d + 1
  | .map entries => uptoBulkEntries entries + 1
  | .held _ => 1
def uptoBulkAll {H : Type} : List (DataW H) → Nat
  | [] => 0
  | d :: r => uptoBulk d + uptoBulkAll r
def uptoBulkEntries {H : Type} : List (Lit × DataW H) → Nat
  | [] => 0
  | x :: r => uptoBulkEntry x + uptoBulkEntries r
def uptoBulkEntry {H : Type} : Lit × DataW H → Nat
  | (.string bytes, d) => bytes.length + uptoBulk d + 1
  | (_, d) => uptoBulk d + 1
 end
def uptoSmall : (H : Type) → List (DataW H) → Bool := fun _ ds => decide (uptoBulkAll ds ≤ 1048576)
def OpenSpec.upto (s : _root_.Go.ChangeSpec) : _root_.Go.OpenSpec := { _root_.Go.OpenSpec.ofChange s with cond := some uptoSmall }

/-- 'laws.FnExactInodeWord', WHERE WHAT IT READS IS OF BULK AT MOST 1048576: true; the input reads as it did. -/
def fnExactInodeWordUptoRow : OpenClaim := { program := "ytenadnlgjobmdak", sum := "7c16e61297310ca6c22461af423deeb371a997ad88b0b216bdfcedf3a43d3551", func := "loop.example/g00410/laws.FnExactInodeWord", spec := "fnExactInodeWord", apart := false, narrowed := true }
def FnExactInodeWordUptoSaid : Prop := fnExactInodeWordUptoRow.holds Try.pinned (OpenSpec.upto fnExactInodeWordSpec)

/-- 'laws.FnExactDirentWord', WHERE WHAT IT READS IS OF BULK AT MOST 1048576: true; the input reads as it did. -/
def fnExactDirentWordUptoRow : OpenClaim := { program := "ytenadnlgjobmdak", sum := "7c16e61297310ca6c22461af423deeb371a997ad88b0b216bdfcedf3a43d3551", func := "loop.example/g00410/laws.FnExactDirentWord", spec := "fnExactDirentWord", apart := false, narrowed := true }
def FnExactDirentWordUptoSaid : Prop := fnExactDirentWordUptoRow.holds Try.pinned (OpenSpec.upto fnExactDirentWordSpec)

/-- 'laws.FnExactDevicesOK', WHERE WHAT IT READS IS OF BULK AT MOST 1048576: true; the input reads as it did. -/
def fnExactDevicesOKUptoRow : OpenClaim := { program := "ytenadnlgjobmdak", sum := "7c16e61297310ca6c22461af423deeb371a997ad88b0b216bdfcedf3a43d3551", func := "loop.example/g00410/laws.FnExactDevicesOK", spec := "fnExactDevicesOK", unfollowed := true, recurses := true, apart := false, narrowed := true }
def FnExactDevicesOKUptoSaid : Prop := fnExactDevicesOKUptoRow.holds Try.pinned (OpenSpec.upto fnExactDevicesOKSpec)

/-- 'laws.FnExactJournalPlan', WHERE WHAT IT READS IS OF BULK AT MOST 1048576: true; the input reads as it did. -/
def fnExactJournalPlanUptoRow : OpenClaim := { program := "ytenadnlgjobmdak", sum := "7c16e61297310ca6c22461af423deeb371a997ad88b0b216bdfcedf3a43d3551", func := "loop.example/g00410/laws.FnExactJournalPlan", spec := "fnExactJournalPlan", unfollowed := true, recurses := true, apart := false, narrowed := true }
def FnExactJournalPlanUptoSaid : Prop := fnExactJournalPlanUptoRow.holds Try.pinned (OpenSpec.upto fnExactJournalPlanSpec)

end Rows
end Go.Proofs.Ytenadnlgjobmdak
