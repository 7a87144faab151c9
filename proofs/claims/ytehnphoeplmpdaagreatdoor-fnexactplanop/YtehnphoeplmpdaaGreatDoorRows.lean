/-
  NARROWER THAN 'FOR EVERY INPUT', by the rows' own cells (each row's printed sentence says how): FnExactPlanOp: laid · FnExactStartOp: laid · FnExactDoOp: laid.
  DERIVED. THE GIVEN ROWS OF THIS SEAT. 3 by the template 'for every input the law returns true; each argument reads behind the call as it read before'; 0 by the template 'total and deterministic' (their statements: YtehnphoeplmpdaaGreatDoorTotals.lean).
  GIVEN WITH THE SEED: the statements are not yours to turn. If you find one false, say at which input.
  Laid BY PROGRAM, IN A SANDBOX (cutbox-rows.mjs): the forced cells as the released guide's own fill.sh prints them over the translation ce3bb46351ffe02e… (all of the seat's roots in one cut). By AI agents, Wed Nov 11 2026. No macro, syntax, notation, axiom, sorry.
-/
import Derived.Test.YtehnphoeplmpdaaGreatDoorChecked
import GoSem.PinnedTables
import GoSem.Claim
import GoSem.ClaimJoined
import GoSem.ClaimMapViews
import Derived.JoinedTies
import Derived.KernelRfl
namespace Go.Proofs.YtehnphoeplmpdaaGreatDoor
/- THE CELL 'sum', in the pinned program and in every row, IS THE sha256 OF THE DUMP (.gsa) THAT YtehnphoeplmpdaaGreatDoorProg.lean LOADS. Nothing in Lean hashes anything: it is a label: what it is worth is what the hold of that sum in a sandbox is worth. -/
noncomputable def Tryz.pinned : Pinned := { name := "ytehnphoeplmpdaagreatdoor", sum := "ce3bb46351ffe02ee0b6e0afdaea65d871d6affe79f44f1af6bf2ff0628598b2", checked := Tryz.checked }
namespace Rows
def none {H : Type} : Left H := { results := [], args := [] }

/- WHAT THE LISTED PACKAGE-LEVEL VARIABLES READ AS WHEN THE CALL BEGINS. Each datum BY PROGRAM (the guide's laid-datum.mjs) off the statement by which the dump's own 'gosem.cut.vars' lays the variable. In a bare row this is a premise. The card (YtehnphoeplmpdaaGreatDoorCards.lean) ties it to the program's text. -/
def laid_unicode_utf8_acceptRanges {H : Type} : DataW H := .agg [.agg [.lit (.int .u8 128), .lit (.int .u8 191)], .agg [.lit (.int .u8 160), .lit (.int .u8 191)], .agg [.lit (.int .u8 128), .lit (.int .u8 159)], .agg [.lit (.int .u8 144), .lit (.int .u8 191)], .agg [.lit (.int .u8 128), .lit (.int .u8 143)], .agg [.lit (.int .u8 0), .lit (.int .u8 0)], .agg [.lit (.int .u8 0), .lit (.int .u8 0)], .agg [.lit (.int .u8 0), .lit (.int .u8 0)], .agg [.lit (.int .u8 0), .lit (.int .u8 0)], .agg [.lit (.int .u8 0), .lit (.int .u8 0)], .agg [.lit (.int .u8 0), .lit (.int .u8 0)], .agg [.lit (.int .u8 0), .lit (.int .u8 0)], .agg [.lit (.int .u8 0), .lit (.int .u8 0)], .agg [.lit (.int .u8 0), .lit (.int .u8 0)], .agg [.lit (.int .u8 0), .lit (.int .u8 0)], .agg [.lit (.int .u8 0), .lit (.int .u8 0)]]
def laid_loop_example_g00410_impl_noWrite {H : Type} : DataW H := .agg [.lit (.int .i64 (-1)), .lit (.int .i64 0)]
def laid_loop_example_g00410_impl_tierSizes {H : Type} : DataW H := .agg [.lit (.int .i64 1), .lit (.int .i64 24), .lit (.int .i64 32)]
def laid_loop_example_g00410_impl_emptyDir {H : Type} : DataW H := .agg [.lit (.int .i64 2), .lit (.int .i64 0), .lit (.int .i64 1), .agg [.lit (.int .i64 0), .lit (.int .i64 0), .lit (.int .i64 0), .lit (.int .i64 0), .lit (.int .i64 0), .lit (.int .i64 0), .lit (.int .i64 0), .lit (.int .i64 0)]]
def laid_loop_example_g00410_impl_freeDirent {H : Type} : DataW H := .agg [.lit (.int .i64 0), .lit (.string []), .lit (.int .i64 (-1))]
/-- One of Go's own tables, pinned by name: the form's constant. -/
def laid_unicode_utf8_first : DataW Unit := Go.Pinned.utf8First
def laid_loop_example_g00410_impl_stepBounds {H : Type} : DataW H := .agg [.agg [.lit (.int .i64 0), .lit (.int .i64 0)], .agg [.lit (.int .i64 336), .lit (.int .i64 1099511627776)], .agg [.lit (.int .i64 336), .lit (.int .i64 1)], .agg [.lit (.int .i64 1), .lit (.int .i64 1)], .agg [.lit (.int .i64 32), .lit (.int .i64 1099511627776)], .agg [.lit (.int .i64 1), .lit (.int .i64 1)]]

/-- 'laws.FnExactPlanOp': WHATEVER THE INPUT: true; the input reads as it did. -/
def fnExactPlanOpSpec : ChangeSpec := { name := "fnExactPlanOp", vars := ["loop.example/g00410/impl.freeDirent", "loop.example/g00410/impl.emptyDir", "loop.example/g00410/impl.tierSizes", "loop.example/g00410/impl.noWrite"], fn := fun _ => fun
  | [d1, d2, g1, g2, g3, g4] => { results := [.lit (.bool true)], args := [d1, d2], vars := [g1, g2, g3, g4] }
  | _ => none }
def fnExactPlanOpRow : OpenClaim := { program := "ytehnphoeplmpdaagreatdoor", sum := "ce3bb46351ffe02ee0b6e0afdaea65d871d6affe79f44f1af6bf2ff0628598b2", func := "loop.example/g00410/laws.FnExactPlanOp", spec := "fnExactPlanOp", inPlace := ["internal/bytealg.CountString", "internal/bytealg.IndexByteString", "internal/bytealg.IndexString"], unfollowed := true, recurses := true, named := ["loop.example/g00410/impl.freeDirent", "loop.example/g00410/impl.emptyDir", "loop.example/g00410/impl.tierSizes", "unicode/utf8.first", "unicode/utf8.acceptRanges", "internal/bytealg.MaxLen", "loop.example/g00410/impl.noWrite"], apart := false, laid := [("unicode/utf8.acceptRanges", laid_unicode_utf8_acceptRanges), ("loop.example/g00410/impl.noWrite", laid_loop_example_g00410_impl_noWrite), ("loop.example/g00410/impl.tierSizes", laid_loop_example_g00410_impl_tierSizes), ("loop.example/g00410/impl.emptyDir", laid_loop_example_g00410_impl_emptyDir), ("loop.example/g00410/impl.freeDirent", laid_loop_example_g00410_impl_freeDirent), ("unicode/utf8.first", laid_unicode_utf8_first)] }
def FnExactPlanOpSaid : Prop := fnExactPlanOpRow.holds Tryz.pinned (OpenSpec.ofChange fnExactPlanOpSpec)

/-- ITS FALSE NEIGHBOUR: 'it returns false'. Refute it at one input. -/
def fnExactPlanOpWrong : ChangeSpec := { name := "fnExactPlanOp", vars := ["loop.example/g00410/impl.freeDirent", "loop.example/g00410/impl.emptyDir", "loop.example/g00410/impl.tierSizes", "loop.example/g00410/impl.noWrite"], fn := fun _ => fun
  | [d1, d2, g1, g2, g3, g4] => { results := [.lit (.bool false)], args := [d1, d2], vars := [g1, g2, g3, g4] }
  | _ => none }
def FnExactPlanOpWrongFalsely : Prop := fnExactPlanOpRow.holds Tryz.pinned (OpenSpec.ofChange fnExactPlanOpWrong)

/-- 'laws.FnExactStartOp': WHATEVER THE INPUT: true; the input reads as it did. -/
def fnExactStartOpSpec : ChangeSpec := { name := "fnExactStartOp", vars := ["loop.example/g00410/impl.stepBounds", "loop.example/g00410/impl.freeDirent", "loop.example/g00410/impl.emptyDir", "loop.example/g00410/impl.tierSizes", "loop.example/g00410/impl.noWrite"], fn := fun _ => fun
  | [d1, d2, g1, g2, g3, g4, g5] => { results := [.lit (.bool true)], args := [d1, d2], vars := [g1, g2, g3, g4, g5] }
  | _ => none }
def fnExactStartOpRow : OpenClaim := { program := "ytehnphoeplmpdaagreatdoor", sum := "ce3bb46351ffe02ee0b6e0afdaea65d871d6affe79f44f1af6bf2ff0628598b2", func := "loop.example/g00410/laws.FnExactStartOp", spec := "fnExactStartOp", inPlace := ["internal/bytealg.CountString", "internal/bytealg.IndexByteString", "internal/bytealg.IndexString"], unfollowed := true, recurses := true, named := ["loop.example/g00410/impl.stepBounds", "loop.example/g00410/impl.freeDirent", "loop.example/g00410/impl.emptyDir", "loop.example/g00410/impl.tierSizes", "unicode/utf8.first", "unicode/utf8.acceptRanges", "internal/bytealg.MaxLen", "loop.example/g00410/impl.noWrite"], apart := false, laid := [("unicode/utf8.acceptRanges", laid_unicode_utf8_acceptRanges), ("loop.example/g00410/impl.noWrite", laid_loop_example_g00410_impl_noWrite), ("loop.example/g00410/impl.tierSizes", laid_loop_example_g00410_impl_tierSizes), ("loop.example/g00410/impl.stepBounds", laid_loop_example_g00410_impl_stepBounds), ("loop.example/g00410/impl.emptyDir", laid_loop_example_g00410_impl_emptyDir), ("loop.example/g00410/impl.freeDirent", laid_loop_example_g00410_impl_freeDirent), ("unicode/utf8.first", laid_unicode_utf8_first)] }
def FnExactStartOpSaid : Prop := fnExactStartOpRow.holds Tryz.pinned (OpenSpec.ofChange fnExactStartOpSpec)

/-- ITS FALSE NEIGHBOUR: 'it returns false'. Refute it at one input. -/
def fnExactStartOpWrong : ChangeSpec := { name := "fnExactStartOp", vars := ["loop.example/g00410/impl.stepBounds", "loop.example/g00410/impl.freeDirent", "loop.example/g00410/impl.emptyDir", "loop.example/g00410/impl.tierSizes", "loop.example/g00410/impl.noWrite"], fn := fun _ => fun
  | [d1, d2, g1, g2, g3, g4, g5] => { results := [.lit (.bool false)], args := [d1, d2], vars := [g1, g2, g3, g4, g5] }
  | _ => none }
def FnExactStartOpWrongFalsely : Prop := fnExactStartOpRow.holds Tryz.pinned (OpenSpec.ofChange fnExactStartOpWrong)

/-- 'laws.FnExactDoOp': WHATEVER THE INPUT: true; the input reads as it did. -/
def fnExactDoOpSpec : ChangeSpec := { name := "fnExactDoOp", vars := ["loop.example/g00410/impl.stepBounds", "loop.example/g00410/impl.freeDirent", "loop.example/g00410/impl.emptyDir", "loop.example/g00410/impl.tierSizes", "loop.example/g00410/impl.noWrite"], fn := fun _ => fun
  | [d1, d2, g1, g2, g3, g4, g5] => { results := [.lit (.bool true)], args := [d1, d2], vars := [g1, g2, g3, g4, g5] }
  | _ => none }
def fnExactDoOpRow : OpenClaim := { program := "ytehnphoeplmpdaagreatdoor", sum := "ce3bb46351ffe02ee0b6e0afdaea65d871d6affe79f44f1af6bf2ff0628598b2", func := "loop.example/g00410/laws.FnExactDoOp", spec := "fnExactDoOp", inPlace := ["internal/bytealg.CountString", "internal/bytealg.IndexByteString", "internal/bytealg.IndexString"], unfollowed := true, recurses := true, named := ["loop.example/g00410/impl.stepBounds", "loop.example/g00410/impl.freeDirent", "loop.example/g00410/impl.emptyDir", "loop.example/g00410/impl.tierSizes", "unicode/utf8.first", "unicode/utf8.acceptRanges", "internal/bytealg.MaxLen", "loop.example/g00410/impl.noWrite"], apart := false, laid := [("unicode/utf8.acceptRanges", laid_unicode_utf8_acceptRanges), ("loop.example/g00410/impl.noWrite", laid_loop_example_g00410_impl_noWrite), ("loop.example/g00410/impl.tierSizes", laid_loop_example_g00410_impl_tierSizes), ("loop.example/g00410/impl.stepBounds", laid_loop_example_g00410_impl_stepBounds), ("loop.example/g00410/impl.emptyDir", laid_loop_example_g00410_impl_emptyDir), ("loop.example/g00410/impl.freeDirent", laid_loop_example_g00410_impl_freeDirent), ("unicode/utf8.first", laid_unicode_utf8_first)] }
def FnExactDoOpSaid : Prop := fnExactDoOpRow.holds Tryz.pinned (OpenSpec.ofChange fnExactDoOpSpec)

/-- ITS FALSE NEIGHBOUR: 'it returns false'. Refute it at one input. -/
def fnExactDoOpWrong : ChangeSpec := { name := "fnExactDoOp", vars := ["loop.example/g00410/impl.stepBounds", "loop.example/g00410/impl.freeDirent", "loop.example/g00410/impl.emptyDir", "loop.example/g00410/impl.tierSizes", "loop.example/g00410/impl.noWrite"], fn := fun _ => fun
  | [d1, d2, g1, g2, g3, g4, g5] => { results := [.lit (.bool false)], args := [d1, d2], vars := [g1, g2, g3, g4, g5] }
  | _ => none }
def FnExactDoOpWrongFalsely : Prop := fnExactDoOpRow.holds Tryz.pinned (OpenSpec.ofChange fnExactDoOpWrong)

/- THE SECOND FORM. 'bulk': how many values and letters a reading holds, each counted each time it is reached (what is shared counts as often as it is met; a slice's spare places count too). A statement '..UptoSaid' is the law's where the arguments, and the package variables that the reading takes, are together of bulk at most 1048576: NARROWER than '..Said'. Prove '..Said' where nothing that the law and all that it calls make is longer than what came in: it says more and counts as full. Else prove '..UptoSaid'. A law counts once. -/
mutual
def uptoBulk {H : Type} : DataW H → Nat
  | .lit (.string bytes) => bytes.length + 1
  | .lit _ => 1
  | .nil => 1
  | .ptr d => uptoBulk d + 1
  | .slice elems spare => uptoBulkAll elems + uptoBulkAll spare + 1
  | .agg parts => uptoBulkAll parts + 1
  | .iface _ d => uptoBulk d + 1
  | .map entries => uptoBulkEntries entries + 1
  | .held _ => 1
def uptoBulkAll {H : Type} : List (DataW H) → Nat
  | [] => 0
  | d :: r => uptoBulk d + uptoBulkAll r
def uptoBulkEntries {H : Type} : List (Lit × DataW H) → Nat
  | [] => 0
  | x :: r => uptoBulkEntry x + uptoBulkEntries r
def uptoBulkEntry {H : Type} : Lit × DataW H → Nat
  | (.string bytes, d) => bytes.length + uptoBulk d + 1
  | (_, d) => uptoBulk d + 1
 end
def uptoSmall : (H : Type) → List (DataW H) → Bool := fun _ ds => decide (uptoBulkAll ds ≤ 1048576)
def OpenSpec.upto (s : _root_.Go.ChangeSpec) : _root_.Go.OpenSpec := { _root_.Go.OpenSpec.ofChange s with cond := some uptoSmall }

/-- 'laws.FnExactPlanOp', WHERE WHAT IT READS IS OF BULK AT MOST 1048576: true; the input reads as it did. -/
def fnExactPlanOpUptoRow : OpenClaim := { program := "ytehnphoeplmpdaagreatdoor", sum := "ce3bb46351ffe02ee0b6e0afdaea65d871d6affe79f44f1af6bf2ff0628598b2", func := "loop.example/g00410/laws.FnExactPlanOp", spec := "fnExactPlanOp", inPlace := ["internal/bytealg.CountString", "internal/bytealg.IndexByteString", "internal/bytealg.IndexString"], unfollowed := true, recurses := true, named := ["loop.example/g00410/impl.freeDirent", "loop.example/g00410/impl.emptyDir", "loop.example/g00410/impl.tierSizes", "unicode/utf8.first", "unicode/utf8.acceptRanges", "internal/bytealg.MaxLen", "loop.example/g00410/impl.noWrite"], apart := false, laid := [("unicode/utf8.acceptRanges", laid_unicode_utf8_acceptRanges), ("loop.example/g00410/impl.noWrite", laid_loop_example_g00410_impl_noWrite), ("loop.example/g00410/impl.tierSizes", laid_loop_example_g00410_impl_tierSizes), ("loop.example/g00410/impl.emptyDir", laid_loop_example_g00410_impl_emptyDir), ("loop.example/g00410/impl.freeDirent", laid_loop_example_g00410_impl_freeDirent), ("unicode/utf8.first", laid_unicode_utf8_first)], narrowed := true }
def FnExactPlanOpUptoSaid : Prop := fnExactPlanOpUptoRow.holds Tryz.pinned (OpenSpec.upto fnExactPlanOpSpec)

/-- 'laws.FnExactStartOp', WHERE WHAT IT READS IS OF BULK AT MOST 1048576: true; the input reads as it did. -/
def fnExactStartOpUptoRow : OpenClaim := { program := "ytehnphoeplmpdaagreatdoor", sum := "ce3bb46351ffe02ee0b6e0afdaea65d871d6affe79f44f1af6bf2ff0628598b2", func := "loop.example/g00410/laws.FnExactStartOp", spec := "fnExactStartOp", inPlace := ["internal/bytealg.CountString", "internal/bytealg.IndexByteString", "internal/bytealg.IndexString"], unfollowed := true, recurses := true, named := ["loop.example/g00410/impl.stepBounds", "loop.example/g00410/impl.freeDirent", "loop.example/g00410/impl.emptyDir", "loop.example/g00410/impl.tierSizes", "unicode/utf8.first", "unicode/utf8.acceptRanges", "internal/bytealg.MaxLen", "loop.example/g00410/impl.noWrite"], apart := false, laid := [("unicode/utf8.acceptRanges", laid_unicode_utf8_acceptRanges), ("loop.example/g00410/impl.noWrite", laid_loop_example_g00410_impl_noWrite), ("loop.example/g00410/impl.tierSizes", laid_loop_example_g00410_impl_tierSizes), ("loop.example/g00410/impl.stepBounds", laid_loop_example_g00410_impl_stepBounds), ("loop.example/g00410/impl.emptyDir", laid_loop_example_g00410_impl_emptyDir), ("loop.example/g00410/impl.freeDirent", laid_loop_example_g00410_impl_freeDirent), ("unicode/utf8.first", laid_unicode_utf8_first)], narrowed := true }
def FnExactStartOpUptoSaid : Prop := fnExactStartOpUptoRow.holds Tryz.pinned (OpenSpec.upto fnExactStartOpSpec)

/-- 'laws.FnExactDoOp', WHERE WHAT IT READS IS OF BULK AT MOST 1048576: true; the input reads as it did. -/
def fnExactDoOpUptoRow : OpenClaim := { program := "ytehnphoeplmpdaagreatdoor", sum := "ce3bb46351ffe02ee0b6e0afdaea65d871d6affe79f44f1af6bf2ff0628598b2", func := "loop.example/g00410/laws.FnExactDoOp", spec := "fnExactDoOp", inPlace := ["internal/bytealg.CountString", "internal/bytealg.IndexByteString", "internal/bytealg.IndexString"], unfollowed := true, recurses := true, named := ["loop.example/g00410/impl.stepBounds", "loop.example/g00410/impl.freeDirent", "loop.example/g00410/impl.emptyDir", "loop.example/g00410/impl.tierSizes", "unicode/utf8.first", "unicode/utf8.acceptRanges", "internal/bytealg.MaxLen", "loop.example/g00410/impl.noWrite"], apart := false, laid := [("unicode/utf8.acceptRanges", laid_unicode_utf8_acceptRanges), ("loop.example/g00410/impl.noWrite", laid_loop_example_g00410_impl_noWrite), ("loop.example/g00410/impl.tierSizes", laid_loop_example_g00410_impl_tierSizes), ("loop.example/g00410/impl.stepBounds", laid_loop_example_g00410_impl_stepBounds), ("loop.example/g00410/impl.emptyDir", laid_loop_example_g00410_impl_emptyDir), ("loop.example/g00410/impl.freeDirent", laid_loop_example_g00410_impl_freeDirent), ("unicode/utf8.first", laid_unicode_utf8_first)], narrowed := true }
def FnExactDoOpUptoSaid : Prop := fnExactDoOpUptoRow.holds Tryz.pinned (OpenSpec.upto fnExactDoOpSpec)

end Rows
end Go.Proofs.YtehnphoeplmpdaaGreatDoor
