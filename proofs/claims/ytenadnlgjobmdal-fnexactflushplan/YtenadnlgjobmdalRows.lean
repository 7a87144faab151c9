/-
  No cell of these rows narrows 'for every input' (looked for: loops, veiled, ifaces, maps, wideKeys, modest, calm, conditions, laid).
  DERIVED. THE GIVEN ROWS OF THIS SEAT. 4 by the template 'for every input the law returns true; each argument reads behind the call as it read before'; 0 by the template 'total and deterministic' (their statements: YtenadnlgjobmdalTotals.lean).
  GIVEN WITH THE SEED: the statements are not yours to turn. If you find one false, say at which input.
  Laid BY PROGRAM, IN A SANDBOX (cutbox-rows.mjs): the forced cells as the released guide's own fill.sh prints them over the translation 3e95f1a2afc74cf0… (all of the seat's roots in one cut). By AI agents, Wed Nov 11 2026. No macro, syntax, notation, axiom, sorry.
-/
import Derived.Test.YtenadnlgjobmdalChecked
import GoSem.Claim
import GoSem.ClaimJoined
import GoSem.ClaimMapViews
import Derived.JoinedTies
import Derived.KernelRfl
namespace Go.Proofs.Ytenadnlgjobmdal
/- THE CELL 'sum', in the pinned program and in every row, IS THE sha256 OF THE DUMP (.gsa) THAT YtenadnlgjobmdalProg.lean LOADS. Nothing in Lean hashes anything: it is a label: what it is worth is what the hold of that sum in a sandbox is worth. -/
noncomputable def Try.pinned : Pinned := { name := "ytenadnlgjobmdal", sum := "3e95f1a2afc74cf0c5462ac096fbef408ae4809390fa9be5a661f028f186141c", checked := Try.checked }
namespace Rows
def none {H : Type} : Left H := { results := [], args := [] }

/-- 'laws.FnExactJournalCount': WHATEVER THE INPUT: true; the input reads as it did. -/
def fnExactJournalCountSpec : ChangeSpec := { name := "fnExactJournalCount", fn := fun _ => fun
  | [d] => { results := [.lit (.bool true)], args := [d] }
  | _ => none }
def fnExactJournalCountRow : OpenClaim := { program := "ytenadnlgjobmdal", sum := "3e95f1a2afc74cf0c5462ac096fbef408ae4809390fa9be5a661f028f186141c", func := "loop.example/g00410/laws.FnExactJournalCount", spec := "fnExactJournalCount", unfollowed := true, recurses := true, apart := false }
def FnExactJournalCountSaid : Prop := fnExactJournalCountRow.holds Try.pinned (OpenSpec.ofChange fnExactJournalCountSpec)

/-- ITS FALSE NEIGHBOUR: 'it returns false'. Refute it at one input. -/
def fnExactJournalCountWrong : ChangeSpec := { name := "fnExactJournalCount", fn := fun _ => fun
  | [d] => { results := [.lit (.bool false)], args := [d] }
  | _ => none }
def FnExactJournalCountWrongFalsely : Prop := fnExactJournalCountRow.holds Try.pinned (OpenSpec.ofChange fnExactJournalCountWrong)

/-- 'laws.FnExactReplayPlan': WHATEVER THE INPUT: true; the input reads as it did. -/
def fnExactReplayPlanSpec : ChangeSpec := { name := "fnExactReplayPlan", fn := fun _ => fun
  | [d] => { results := [.lit (.bool true)], args := [d] }
  | _ => none }
def fnExactReplayPlanRow : OpenClaim := { program := "ytenadnlgjobmdal", sum := "3e95f1a2afc74cf0c5462ac096fbef408ae4809390fa9be5a661f028f186141c", func := "loop.example/g00410/laws.FnExactReplayPlan", spec := "fnExactReplayPlan", unfollowed := true, recurses := true, apart := false }
def FnExactReplayPlanSaid : Prop := fnExactReplayPlanRow.holds Try.pinned (OpenSpec.ofChange fnExactReplayPlanSpec)

/-- ITS FALSE NEIGHBOUR: 'it returns false'. Refute it at one input. -/
def fnExactReplayPlanWrong : ChangeSpec := { name := "fnExactReplayPlan", fn := fun _ => fun
  | [d] => { results := [.lit (.bool false)], args := [d] }
  | _ => none }
def FnExactReplayPlanWrongFalsely : Prop := fnExactReplayPlanRow.holds Try.pinned (OpenSpec.ofChange fnExactReplayPlanWrong)

/-- 'laws.FnExactFlushPlan': WHATEVER THE INPUT: true; the input reads as it did. -/
def fnExactFlushPlanSpec : ChangeSpec := { name := "fnExactFlushPlan", fn := fun _ => fun
  | [d] => { results := [.lit (.bool true)], args := [d] }
  | _ => none }
def fnExactFlushPlanRow : OpenClaim := { program := "ytenadnlgjobmdal", sum := "3e95f1a2afc74cf0c5462ac096fbef408ae4809390fa9be5a661f028f186141c", func := "loop.example/g00410/laws.FnExactFlushPlan", spec := "fnExactFlushPlan", unfollowed := true, recurses := true, apart := false }
def FnExactFlushPlanSaid : Prop := fnExactFlushPlanRow.holds Try.pinned (OpenSpec.ofChange fnExactFlushPlanSpec)

/-- ITS FALSE NEIGHBOUR: 'it returns false'. Refute it at one input. -/
def fnExactFlushPlanWrong : ChangeSpec := { name := "fnExactFlushPlan", fn := fun _ => fun
  | [d] => { results := [.lit (.bool false)], args := [d] }
  | _ => none }
def FnExactFlushPlanWrongFalsely : Prop := fnExactFlushPlanRow.holds Try.pinned (OpenSpec.ofChange fnExactFlushPlanWrong)

/-- 'laws.FnExactImageOK': WHATEVER THE INPUT: true; the input reads as it did. -/
def fnExactImageOKSpec : ChangeSpec := { name := "fnExactImageOK", fn := fun _ => fun
  | [d] => { results := [.lit (.bool true)], args := [d] }
  | _ => none }
def fnExactImageOKRow : OpenClaim := { program := "ytenadnlgjobmdal", sum := "3e95f1a2afc74cf0c5462ac096fbef408ae4809390fa9be5a661f028f186141c", func := "loop.example/g00410/laws.FnExactImageOK", spec := "fnExactImageOK", apart := false }
def FnExactImageOKSaid : Prop := fnExactImageOKRow.holds Try.pinned (OpenSpec.ofChange fnExactImageOKSpec)

/-- ITS FALSE NEIGHBOUR: 'it returns false'. Refute it at one input. -/
def fnExactImageOKWrong : ChangeSpec := { name := "fnExactImageOK", fn := fun _ => fun
  | [d] => { results := [.lit (.bool false)], args := [d] }
  | _ => none }
def FnExactImageOKWrongFalsely : Prop := fnExactImageOKRow.holds Try.pinned (OpenSpec.ofChange fnExactImageOKWrong)

/- THE SECOND FORM. 'bulk': how many values and letters a reading holds, each counted each time it is reached (what is shared counts as often as it is met; a slice's spare places count too). A statement '..UptoSaid' is the law's where the arguments, and the package variables that the reading takes, are together of bulk at most 1048576: NARROWER than '..Said'. Prove '..Said' where nothing that the law and all that it calls make is longer than what came in: it says more and counts as full. Else prove '..UptoSaid'. A law counts once. -/
mutual
def uptoBulk {H : Type} : DataW H → Nat
  | .lit (.string bytes) => bytes.length + 1
  | .lit _ => 1
  | .nil => 1
  | .ptr d => uptoBulk d + 1
  | .slice elems spare => uptoBulkAll elems + uptoBulkAll spare + 1
  | .agg parts => uptoBulkAll parts + 1
  | .iface _ d => uptoBulk d + 1
  | .map entries => uptoBulkEntries entries + 1
  | .held _ => 1
def uptoBulkAll {H : Type} : List (DataW H) → Nat
  | [] => 0
  | d :: r => uptoBulk d + uptoBulkAll r
def uptoBulkEntries {H : Type} : List (Lit × DataW H) → Nat
  | [] => 0
  | x :: r => uptoBulkEntry x + uptoBulkEntries r
def uptoBulkEntry {H : Type} : Lit × DataW H → Nat
  | (.string bytes, d) => bytes.length + uptoBulk d + 1
  | (_, d) => uptoBulk d + 1
 end
def uptoSmall : (H : Type) → List (DataW H) → Bool := fun _ ds => decide (uptoBulkAll ds ≤ 1048576)
def OpenSpec.upto (s : _root_.Go.ChangeSpec) : _root_.Go.OpenSpec := { _root_.Go.OpenSpec.ofChange s with cond := some uptoSmall }

/-- 'laws.FnExactJournalCount', WHERE WHAT IT READS IS OF BULK AT MOST 1048576: true; the input reads as it did. -/
def fnExactJournalCountUptoRow : OpenClaim := { program := "ytenadnlgjobmdal", sum := "3e95f1a2afc74cf0c5462ac096fbef408ae4809390fa9be5a661f028f186141c", func := "loop.example/g00410/laws.FnExactJournalCount", spec := "fnExactJournalCount", unfollowed := true, recurses := true, apart := false, narrowed := true }
def FnExactJournalCountUptoSaid : Prop := fnExactJournalCountUptoRow.holds Try.pinned (OpenSpec.upto fnExactJournalCountSpec)

/-- 'laws.FnExactReplayPlan', WHERE WHAT IT READS IS OF BULK AT MOST 1048576: true; the input reads as it did. -/
def fnExactReplayPlanUptoRow : OpenClaim := { program := "ytenadnlgjobmdal", sum := "3e95f1a2afc74cf0c5462ac096fbef408ae4809390fa9be5a661f028f186141c", func := "loop.example/g00410/laws.FnExactReplayPlan", spec := "fnExactReplayPlan", unfollowed := true, recurses := true, apart := false, narrowed := true }
def FnExactReplayPlanUptoSaid : Prop := fnExactReplayPlanUptoRow.holds Try.pinned (OpenSpec.upto fnExactReplayPlanSpec)

/-- 'laws.FnExactFlushPlan', WHERE WHAT IT READS IS OF BULK AT MOST 1048576: true; the input reads as it did. -/
def fnExactFlushPlanUptoRow : OpenClaim := { program := "ytenadnlgjobmdal", sum := "3e95f1a2afc74cf0c5462ac096fbef408ae4809390fa9be5a661f028f186141c", func := "loop.example/g00410/laws.FnExactFlushPlan", spec := "fnExactFlushPlan", unfollowed := true, recurses := true, apart := false, narrowed := true }
def FnExactFlushPlanUptoSaid : Prop := fnExactFlushPlanUptoRow.holds Try.pinned (OpenSpec.upto fnExactFlushPlanSpec)

/-- 'laws.FnExactImageOK', WHERE WHAT IT READS IS OF BULK AT MOST 1048576: true; the input reads as it did. -/
def fnExactImageOKUptoRow : OpenClaim := { program := "ytenadnlgjobmdal", sum := "3e95f1a2afc74cf0c5462ac096fbef408ae4809390fa9be5a661f028f186141c", func := "loop.example/g00410/laws.FnExactImageOK", spec := "fnExactImageOK", apart := false, narrowed := true }
def FnExactImageOKUptoSaid : Prop := fnExactImageOKUptoRow.holds Try.pinned (OpenSpec.upto fnExactImageOKSpec)

end Rows
end Go.Proofs.Ytenadnlgjobmdal
