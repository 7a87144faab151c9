/-
  NARROWER THAN 'FOR EVERY INPUT', by the rows' own cells (each row's printed sentence says how): FnExactReadImage: laid · FnExactPathOK: laid · FnExactSplitPath: laid · FnExactLookup: laid · FnExactParent: laid · FnExactPathsOf: laid · FnExactBeneath: laid.
  DERIVED. THE GIVEN ROWS OF THIS SEAT. 7 by the template 'for every input the law returns true; each argument reads behind the call as it read before'; 0 by the template 'total and deterministic' (their statements: YtpljkdbeekplbaaDoorTotals.lean).
  GIVEN WITH THE SEED: the statements are not yours to turn. If you find one false, say at which input.
  Laid BY PROGRAM, IN A SANDBOX (cutbox-rows.mjs): the forced cells as the released guide's own fill.sh prints them over the translation 2525b1c984e1c515… (all of the seat's roots in one cut). By AI agents, Wed Nov 11 2026. No macro, syntax, notation, axiom, sorry.
-/
import Derived.Test.YtpljkdbeekplbaaDoorChecked
import GoSem.PinnedTables
import GoSem.Claim
import GoSem.ClaimJoined
import GoSem.ClaimMapViews
import Derived.JoinedTies
import Derived.KernelRfl
namespace Go.Proofs.YtpljkdbeekplbaaDoor
/- THE CELL 'sum', in the pinned program and in every row, IS THE sha256 OF THE DUMP (.gsa) THAT YtpljkdbeekplbaaDoorProg.lean LOADS. Nothing in Lean hashes anything: it is a label: what it is worth is what the hold of that sum in a sandbox is worth. -/
noncomputable def Tryd.pinned : Pinned := { name := "ytpljkdbeekplbaadoor", sum := "2525b1c984e1c5156df5dc70b681e7ad5f68ca4f0fb4ba4e4224cc24cb7f4646", checked := Tryd.checked }
namespace Rows
def none {H : Type} : Left H := { results := [], args := [] }

/- WHAT THE LISTED PACKAGE-LEVEL VARIABLES READ AS WHEN THE CALL BEGINS. Each datum BY PROGRAM (the guide's laid-datum.mjs) off the statement by which the dump's own 'gosem.cut.vars' lays the variable. In a bare row this is a premise. The card (YtpljkdbeekplbaaDoorCards.lean) ties it to the program's text. -/
def laid_loop_example_g00410_impl_tierSizes {H : Type} : DataW H := .agg [.lit (.int .i64 1), .lit (.int .i64 24), .lit (.int .i64 32)]
def laid_loop_example_g00410_impl_emptyDir {H : Type} : DataW H := .agg [.lit (.int .i64 2), .lit (.int .i64 0), .lit (.int .i64 1), .agg [.lit (.int .i64 0), .lit (.int .i64 0), .lit (.int .i64 0), .lit (.int .i64 0), .lit (.int .i64 0), .lit (.int .i64 0), .lit (.int .i64 0), .lit (.int .i64 0)]]
def laid_loop_example_g00410_impl_freeDirent {H : Type} : DataW H := .agg [.lit (.int .i64 0), .lit (.string []), .lit (.int .i64 (-1))]
def laid_unicode_utf8_acceptRanges {H : Type} : DataW H := .agg [.agg [.lit (.int .u8 128), .lit (.int .u8 191)], .agg [.lit (.int .u8 160), .lit (.int .u8 191)], .agg [.lit (.int .u8 128), .lit (.int .u8 159)], .agg [.lit (.int .u8 144), .lit (.int .u8 191)], .agg [.lit (.int .u8 128), .lit (.int .u8 143)], .agg [.lit (.int .u8 0), .lit (.int .u8 0)], .agg [.lit (.int .u8 0), .lit (.int .u8 0)], .agg [.lit (.int .u8 0), .lit (.int .u8 0)], .agg [.lit (.int .u8 0), .lit (.int .u8 0)], .agg [.lit (.int .u8 0), .lit (.int .u8 0)], .agg [.lit (.int .u8 0), .lit (.int .u8 0)], .agg [.lit (.int .u8 0), .lit (.int .u8 0)], .agg [.lit (.int .u8 0), .lit (.int .u8 0)], .agg [.lit (.int .u8 0), .lit (.int .u8 0)], .agg [.lit (.int .u8 0), .lit (.int .u8 0)], .agg [.lit (.int .u8 0), .lit (.int .u8 0)]]
/-- One of Go's own tables, pinned by name: the form's constant. -/
def laid_unicode_utf8_first : DataW Unit := Go.Pinned.utf8First

/-- 'laws.FnExactReadImage': WHATEVER THE INPUT: true; the input reads as it did. -/
def fnExactReadImageSpec : ChangeSpec := { name := "fnExactReadImage", vars := ["loop.example/g00410/impl.freeDirent", "loop.example/g00410/impl.emptyDir", "loop.example/g00410/impl.tierSizes"], fn := fun _ => fun
  | [d, g1, g2, g3] => { results := [.lit (.bool true)], args := [d], vars := [g1, g2, g3] }
  | _ => none }
def fnExactReadImageRow : OpenClaim := { program := "ytpljkdbeekplbaadoor", sum := "2525b1c984e1c5156df5dc70b681e7ad5f68ca4f0fb4ba4e4224cc24cb7f4646", func := "loop.example/g00410/laws.FnExactReadImage", spec := "fnExactReadImage", unfollowed := true, recurses := true, named := ["loop.example/g00410/impl.freeDirent", "loop.example/g00410/impl.emptyDir", "loop.example/g00410/impl.tierSizes"], apart := false, laid := [("loop.example/g00410/impl.tierSizes", laid_loop_example_g00410_impl_tierSizes), ("loop.example/g00410/impl.emptyDir", laid_loop_example_g00410_impl_emptyDir), ("loop.example/g00410/impl.freeDirent", laid_loop_example_g00410_impl_freeDirent)] }
def FnExactReadImageSaid : Prop := fnExactReadImageRow.holds Tryd.pinned (OpenSpec.ofChange fnExactReadImageSpec)

/-- ITS FALSE NEIGHBOUR: 'it returns false'. Refute it at one input. -/
def fnExactReadImageWrong : ChangeSpec := { name := "fnExactReadImage", vars := ["loop.example/g00410/impl.freeDirent", "loop.example/g00410/impl.emptyDir", "loop.example/g00410/impl.tierSizes"], fn := fun _ => fun
  | [d, g1, g2, g3] => { results := [.lit (.bool false)], args := [d], vars := [g1, g2, g3] }
  | _ => none }
def FnExactReadImageWrongFalsely : Prop := fnExactReadImageRow.holds Tryd.pinned (OpenSpec.ofChange fnExactReadImageWrong)

/-- 'laws.FnExactPathOK': WHATEVER THE INPUT: true; the input reads as it did. -/
def fnExactPathOKSpec : ChangeSpec := { name := "fnExactPathOK", fn := fun _ => fun
  | [d] => { results := [.lit (.bool true)], args := [d] }
  | _ => none }
def fnExactPathOKRow : OpenClaim := { program := "ytpljkdbeekplbaadoor", sum := "2525b1c984e1c5156df5dc70b681e7ad5f68ca4f0fb4ba4e4224cc24cb7f4646", func := "loop.example/g00410/laws.FnExactPathOK", spec := "fnExactPathOK", inPlace := ["internal/bytealg.CountString", "internal/bytealg.IndexByteString", "internal/bytealg.IndexString"], unfollowed := true, recurses := true, named := ["unicode/utf8.first", "unicode/utf8.acceptRanges", "internal/bytealg.MaxLen"], apart := false, laid := [("unicode/utf8.acceptRanges", laid_unicode_utf8_acceptRanges), ("unicode/utf8.first", laid_unicode_utf8_first)] }
def FnExactPathOKSaid : Prop := fnExactPathOKRow.holds Tryd.pinned (OpenSpec.ofChange fnExactPathOKSpec)

/-- ITS FALSE NEIGHBOUR: 'it returns false'. Refute it at one input. -/
def fnExactPathOKWrong : ChangeSpec := { name := "fnExactPathOK", fn := fun _ => fun
  | [d] => { results := [.lit (.bool false)], args := [d] }
  | _ => none }
def FnExactPathOKWrongFalsely : Prop := fnExactPathOKRow.holds Tryd.pinned (OpenSpec.ofChange fnExactPathOKWrong)

/-- 'laws.FnExactSplitPath': WHATEVER THE INPUT: true; the input reads as it did. -/
def fnExactSplitPathSpec : ChangeSpec := { name := "fnExactSplitPath", fn := fun _ => fun
  | [d] => { results := [.lit (.bool true)], args := [d] }
  | _ => none }
def fnExactSplitPathRow : OpenClaim := { program := "ytpljkdbeekplbaadoor", sum := "2525b1c984e1c5156df5dc70b681e7ad5f68ca4f0fb4ba4e4224cc24cb7f4646", func := "loop.example/g00410/laws.FnExactSplitPath", spec := "fnExactSplitPath", inPlace := ["internal/bytealg.CountString", "internal/bytealg.IndexByteString", "internal/bytealg.IndexString"], unfollowed := true, recurses := true, named := ["unicode/utf8.first", "unicode/utf8.acceptRanges", "internal/bytealg.MaxLen"], apart := false, laid := [("unicode/utf8.acceptRanges", laid_unicode_utf8_acceptRanges), ("unicode/utf8.first", laid_unicode_utf8_first)] }
def FnExactSplitPathSaid : Prop := fnExactSplitPathRow.holds Tryd.pinned (OpenSpec.ofChange fnExactSplitPathSpec)

/-- ITS FALSE NEIGHBOUR: 'it returns false'. Refute it at one input. -/
def fnExactSplitPathWrong : ChangeSpec := { name := "fnExactSplitPath", fn := fun _ => fun
  | [d] => { results := [.lit (.bool false)], args := [d] }
  | _ => none }
def FnExactSplitPathWrongFalsely : Prop := fnExactSplitPathRow.holds Tryd.pinned (OpenSpec.ofChange fnExactSplitPathWrong)

/-- 'laws.FnExactLookup': WHATEVER THE INPUT: true; the input reads as it did. -/
def fnExactLookupSpec : ChangeSpec := { name := "fnExactLookup", vars := ["loop.example/g00410/impl.emptyDir", "loop.example/g00410/impl.tierSizes", "loop.example/g00410/impl.freeDirent"], fn := fun _ => fun
  | [d1, d2, g1, g2, g3] => { results := [.lit (.bool true)], args := [d1, d2], vars := [g1, g2, g3] }
  | _ => none }
def fnExactLookupRow : OpenClaim := { program := "ytpljkdbeekplbaadoor", sum := "2525b1c984e1c5156df5dc70b681e7ad5f68ca4f0fb4ba4e4224cc24cb7f4646", func := "loop.example/g00410/laws.FnExactLookup", spec := "fnExactLookup", inPlace := ["internal/bytealg.CountString", "internal/bytealg.IndexByteString", "internal/bytealg.IndexString"], unfollowed := true, recurses := true, named := ["unicode/utf8.first", "unicode/utf8.acceptRanges", "internal/bytealg.MaxLen", "loop.example/g00410/impl.emptyDir", "loop.example/g00410/impl.tierSizes", "loop.example/g00410/impl.freeDirent"], apart := false, laid := [("unicode/utf8.acceptRanges", laid_unicode_utf8_acceptRanges), ("loop.example/g00410/impl.tierSizes", laid_loop_example_g00410_impl_tierSizes), ("loop.example/g00410/impl.emptyDir", laid_loop_example_g00410_impl_emptyDir), ("loop.example/g00410/impl.freeDirent", laid_loop_example_g00410_impl_freeDirent), ("unicode/utf8.first", laid_unicode_utf8_first)] }
def FnExactLookupSaid : Prop := fnExactLookupRow.holds Tryd.pinned (OpenSpec.ofChange fnExactLookupSpec)

/-- ITS FALSE NEIGHBOUR: 'it returns false'. Refute it at one input. -/
def fnExactLookupWrong : ChangeSpec := { name := "fnExactLookup", vars := ["loop.example/g00410/impl.emptyDir", "loop.example/g00410/impl.tierSizes", "loop.example/g00410/impl.freeDirent"], fn := fun _ => fun
  | [d1, d2, g1, g2, g3] => { results := [.lit (.bool false)], args := [d1, d2], vars := [g1, g2, g3] }
  | _ => none }
def FnExactLookupWrongFalsely : Prop := fnExactLookupRow.holds Tryd.pinned (OpenSpec.ofChange fnExactLookupWrong)

/-- 'laws.FnExactParent': WHATEVER THE INPUT: true; the input reads as it did. -/
def fnExactParentSpec : ChangeSpec := { name := "fnExactParent", vars := ["loop.example/g00410/impl.emptyDir", "loop.example/g00410/impl.tierSizes", "loop.example/g00410/impl.freeDirent"], fn := fun _ => fun
  | [d1, d2, g1, g2, g3] => { results := [.lit (.bool true)], args := [d1, d2], vars := [g1, g2, g3] }
  | _ => none }
def fnExactParentRow : OpenClaim := { program := "ytpljkdbeekplbaadoor", sum := "2525b1c984e1c5156df5dc70b681e7ad5f68ca4f0fb4ba4e4224cc24cb7f4646", func := "loop.example/g00410/laws.FnExactParent", spec := "fnExactParent", inPlace := ["internal/bytealg.CountString", "internal/bytealg.IndexByteString", "internal/bytealg.IndexString"], unfollowed := true, recurses := true, named := ["unicode/utf8.first", "unicode/utf8.acceptRanges", "internal/bytealg.MaxLen", "loop.example/g00410/impl.emptyDir", "loop.example/g00410/impl.tierSizes", "loop.example/g00410/impl.freeDirent"], apart := false, laid := [("unicode/utf8.acceptRanges", laid_unicode_utf8_acceptRanges), ("loop.example/g00410/impl.tierSizes", laid_loop_example_g00410_impl_tierSizes), ("loop.example/g00410/impl.emptyDir", laid_loop_example_g00410_impl_emptyDir), ("loop.example/g00410/impl.freeDirent", laid_loop_example_g00410_impl_freeDirent), ("unicode/utf8.first", laid_unicode_utf8_first)] }
def FnExactParentSaid : Prop := fnExactParentRow.holds Tryd.pinned (OpenSpec.ofChange fnExactParentSpec)

/-- ITS FALSE NEIGHBOUR: 'it returns false'. Refute it at one input. -/
def fnExactParentWrong : ChangeSpec := { name := "fnExactParent", vars := ["loop.example/g00410/impl.emptyDir", "loop.example/g00410/impl.tierSizes", "loop.example/g00410/impl.freeDirent"], fn := fun _ => fun
  | [d1, d2, g1, g2, g3] => { results := [.lit (.bool false)], args := [d1, d2], vars := [g1, g2, g3] }
  | _ => none }
def FnExactParentWrongFalsely : Prop := fnExactParentRow.holds Tryd.pinned (OpenSpec.ofChange fnExactParentWrong)

/-- 'laws.FnExactPathsOf': WHATEVER THE INPUT: true; the input reads as it did. -/
def fnExactPathsOfSpec : ChangeSpec := { name := "fnExactPathsOf", vars := ["loop.example/g00410/impl.emptyDir", "loop.example/g00410/impl.tierSizes", "loop.example/g00410/impl.freeDirent"], fn := fun _ => fun
  | [d, g1, g2, g3] => { results := [.lit (.bool true)], args := [d], vars := [g1, g2, g3] }
  | _ => none }
def fnExactPathsOfRow : OpenClaim := { program := "ytpljkdbeekplbaadoor", sum := "2525b1c984e1c5156df5dc70b681e7ad5f68ca4f0fb4ba4e4224cc24cb7f4646", func := "loop.example/g00410/laws.FnExactPathsOf", spec := "fnExactPathsOf", inPlace := ["internal/bytealg.abigen_runtime_cmpstring"], unfollowed := true, recurses := true, named := ["loop.example/g00410/impl.emptyDir", "loop.example/g00410/impl.tierSizes", "loop.example/g00410/impl.freeDirent"], apart := false, laid := [("loop.example/g00410/impl.tierSizes", laid_loop_example_g00410_impl_tierSizes), ("loop.example/g00410/impl.emptyDir", laid_loop_example_g00410_impl_emptyDir), ("loop.example/g00410/impl.freeDirent", laid_loop_example_g00410_impl_freeDirent)] }
def FnExactPathsOfSaid : Prop := fnExactPathsOfRow.holds Tryd.pinned (OpenSpec.ofChange fnExactPathsOfSpec)

/-- ITS FALSE NEIGHBOUR: 'it returns false'. Refute it at one input. -/
def fnExactPathsOfWrong : ChangeSpec := { name := "fnExactPathsOf", vars := ["loop.example/g00410/impl.emptyDir", "loop.example/g00410/impl.tierSizes", "loop.example/g00410/impl.freeDirent"], fn := fun _ => fun
  | [d, g1, g2, g3] => { results := [.lit (.bool false)], args := [d], vars := [g1, g2, g3] }
  | _ => none }
def FnExactPathsOfWrongFalsely : Prop := fnExactPathsOfRow.holds Tryd.pinned (OpenSpec.ofChange fnExactPathsOfWrong)

/-- 'laws.FnExactBeneath': WHATEVER THE INPUT: true; the input reads as it did. -/
def fnExactBeneathSpec : ChangeSpec := { name := "fnExactBeneath", vars := ["loop.example/g00410/impl.emptyDir", "loop.example/g00410/impl.tierSizes", "loop.example/g00410/impl.freeDirent"], fn := fun _ => fun
  | [d1, d2, d3, g1, g2, g3] => { results := [.lit (.bool true)], args := [d1, d2, d3], vars := [g1, g2, g3] }
  | _ => none }
def fnExactBeneathRow : OpenClaim := { program := "ytpljkdbeekplbaadoor", sum := "2525b1c984e1c5156df5dc70b681e7ad5f68ca4f0fb4ba4e4224cc24cb7f4646", func := "loop.example/g00410/laws.FnExactBeneath", spec := "fnExactBeneath", unfollowed := true, recurses := true, named := ["loop.example/g00410/impl.emptyDir", "loop.example/g00410/impl.tierSizes", "loop.example/g00410/impl.freeDirent"], apart := false, laid := [("loop.example/g00410/impl.tierSizes", laid_loop_example_g00410_impl_tierSizes), ("loop.example/g00410/impl.emptyDir", laid_loop_example_g00410_impl_emptyDir), ("loop.example/g00410/impl.freeDirent", laid_loop_example_g00410_impl_freeDirent)] }
def FnExactBeneathSaid : Prop := fnExactBeneathRow.holds Tryd.pinned (OpenSpec.ofChange fnExactBeneathSpec)

/-- ITS FALSE NEIGHBOUR: 'it returns false'. Refute it at one input. -/
def fnExactBeneathWrong : ChangeSpec := { name := "fnExactBeneath", vars := ["loop.example/g00410/impl.emptyDir", "loop.example/g00410/impl.tierSizes", "loop.example/g00410/impl.freeDirent"], fn := fun _ => fun
  | [d1, d2, d3, g1, g2, g3] => { results := [.lit (.bool false)], args := [d1, d2, d3], vars := [g1, g2, g3] }
  | _ => none }
def FnExactBeneathWrongFalsely : Prop := fnExactBeneathRow.holds Tryd.pinned (OpenSpec.ofChange fnExactBeneathWrong)

/- THE SECOND FORM. 'bulk': how many values and letters a reading holds, each counted each time it is reached (what is shared counts as often as it is met; a slice's spare places count too). A statement '..UptoSaid' is the law's where the arguments, and the package variables that the reading takes, are together of bulk at most 1048576: NARROWER than '..Said'. Prove '..Said' where nothing that the law and all that it calls make is longer than what came in: it says more and counts as full. Else prove '..UptoSaid'. A law counts once. -/
mutual
def uptoBulk {H : Type} : DataW H → Nat
  | .lit (.string bytes) => bytes.length + 1
  | .lit _ => 1
  | .nil => 1
  | .ptr d => uptoBulk d + 1
  | .slice elems spare => uptoBulkAll elems + uptoBulkAll spare + 1
  | .agg parts => uptoBulkAll parts + 1
  | .iface _ d => uptoBulk d + 1
  | .map entries => uptoBulkEntries entries + 1
  | .held _ => 1
def uptoBulkAll {H : Type} : List (DataW H) → Nat
  | [] => 0
  | d :: r => uptoBulk d + uptoBulkAll r
def uptoBulkEntries {H : Type} : List (Lit × DataW H) → Nat
  | [] => 0
  | x :: r => uptoBulkEntry x + uptoBulkEntries r
def uptoBulkEntry {H : Type} : Lit × DataW H → Nat
  | (.string bytes, d) => bytes.length + uptoBulk d + 1
  | (_, d) => uptoBulk d + 1
 end
def uptoSmall : (H : Type) → List (DataW H) → Bool := fun _ ds => decide (uptoBulkAll ds ≤ 1048576)
def OpenSpec.upto (s : _root_.Go.ChangeSpec) : _root_.Go.OpenSpec := { _root_.Go.OpenSpec.ofChange s with cond := some uptoSmall }

/-- 'laws.FnExactReadImage', WHERE WHAT IT READS IS OF BULK AT MOST 1048576: true; the input reads as it did. -/
def fnExactReadImageUptoRow : OpenClaim := { program := "ytpljkdbeekplbaadoor", sum := "2525b1c984e1c5156df5dc70b681e7ad5f68ca4f0fb4ba4e4224cc24cb7f4646", func := "loop.example/g00410/laws.FnExactReadImage", spec := "fnExactReadImage", unfollowed := true, recurses := true, named := ["loop.example/g00410/impl.freeDirent", "loop.example/g00410/impl.emptyDir", "loop.example/g00410/impl.tierSizes"], apart := false, laid := [("loop.example/g00410/impl.tierSizes", laid_loop_example_g00410_impl_tierSizes), ("loop.example/g00410/impl.emptyDir", laid_loop_example_g00410_impl_emptyDir), ("loop.example/g00410/impl.freeDirent", laid_loop_example_g00410_impl_freeDirent)], narrowed := true }
def FnExactReadImageUptoSaid : Prop := fnExactReadImageUptoRow.holds Tryd.pinned (OpenSpec.upto fnExactReadImageSpec)

/-- 'laws.FnExactPathOK', WHERE WHAT IT READS IS OF BULK AT MOST 1048576: true; the input reads as it did. -/
def fnExactPathOKUptoRow : OpenClaim := { program := "ytpljkdbeekplbaadoor", sum := "2525b1c984e1c5156df5dc70b681e7ad5f68ca4f0fb4ba4e4224cc24cb7f4646", func := "loop.example/g00410/laws.FnExactPathOK", spec := "fnExactPathOK", inPlace := ["internal/bytealg.CountString", "internal/bytealg.IndexByteString", "internal/bytealg.IndexString"], unfollowed := true, recurses := true, named := ["unicode/utf8.first", "unicode/utf8.acceptRanges", "internal/bytealg.MaxLen"], apart := false, laid := [("unicode/utf8.acceptRanges", laid_unicode_utf8_acceptRanges), ("unicode/utf8.first", laid_unicode_utf8_first)], narrowed := true }
def FnExactPathOKUptoSaid : Prop := fnExactPathOKUptoRow.holds Tryd.pinned (OpenSpec.upto fnExactPathOKSpec)

/-- 'laws.FnExactSplitPath', WHERE WHAT IT READS IS OF BULK AT MOST 1048576: true; the input reads as it did. -/
def fnExactSplitPathUptoRow : OpenClaim := { program := "ytpljkdbeekplbaadoor", sum := "2525b1c984e1c5156df5dc70b681e7ad5f68ca4f0fb4ba4e4224cc24cb7f4646", func := "loop.example/g00410/laws.FnExactSplitPath", spec := "fnExactSplitPath", inPlace := ["internal/bytealg.CountString", "internal/bytealg.IndexByteString", "internal/bytealg.IndexString"], unfollowed := true, recurses := true, named := ["unicode/utf8.first", "unicode/utf8.acceptRanges", "internal/bytealg.MaxLen"], apart := false, laid := [("unicode/utf8.acceptRanges", laid_unicode_utf8_acceptRanges), ("unicode/utf8.first", laid_unicode_utf8_first)], narrowed := true }
def FnExactSplitPathUptoSaid : Prop := fnExactSplitPathUptoRow.holds Tryd.pinned (OpenSpec.upto fnExactSplitPathSpec)

/-- 'laws.FnExactLookup', WHERE WHAT IT READS IS OF BULK AT MOST 1048576: true; the input reads as it did. -/
def fnExactLookupUptoRow : OpenClaim := { program := "ytpljkdbeekplbaadoor", sum := "2525b1c984e1c5156df5dc70b681e7ad5f68ca4f0fb4ba4e4224cc24cb7f4646", func := "loop.example/g00410/laws.FnExactLookup", spec := "fnExactLookup", inPlace := ["internal/bytealg.CountString", "internal/bytealg.IndexByteString", "internal/bytealg.IndexString"], unfollowed := true, recurses := true, named := ["unicode/utf8.first", "unicode/utf8.acceptRanges", "internal/bytealg.MaxLen", "loop.example/g00410/impl.emptyDir", "loop.example/g00410/impl.tierSizes", "loop.example/g00410/impl.freeDirent"], apart := false, laid := [("unicode/utf8.acceptRanges", laid_unicode_utf8_acceptRanges), ("loop.example/g00410/impl.tierSizes", laid_loop_example_g00410_impl_tierSizes), ("loop.example/g00410/impl.emptyDir", laid_loop_example_g00410_impl_emptyDir), ("loop.example/g00410/impl.freeDirent", laid_loop_example_g00410_impl_freeDirent), ("unicode/utf8.first", laid_unicode_utf8_first)], narrowed := true }
def FnExactLookupUptoSaid : Prop := fnExactLookupUptoRow.holds Tryd.pinned (OpenSpec.upto fnExactLookupSpec)

/-- 'laws.FnExactParent', WHERE WHAT IT READS IS OF BULK AT MOST 1048576: true; the input reads as it did. -/
def fnExactParentUptoRow : OpenClaim := { program := "ytpljkdbeekplbaadoor", sum := "2525b1c984e1c5156df5dc70b681e7ad5f68ca4f0fb4ba4e4224cc24cb7f4646", func := "loop.example/g00410/laws.FnExactParent", spec := "fnExactParent", inPlace := ["internal/bytealg.CountString", "internal/bytealg.IndexByteString", "internal/bytealg.IndexString"], unfollowed := true, recurses := true, named := ["unicode/utf8.first", "unicode/utf8.acceptRanges", "internal/bytealg.MaxLen", "loop.example/g00410/impl.emptyDir", "loop.example/g00410/impl.tierSizes", "loop.example/g00410/impl.freeDirent"], apart := false, laid := [("unicode/utf8.acceptRanges", laid_unicode_utf8_acceptRanges), ("loop.example/g00410/impl.tierSizes", laid_loop_example_g00410_impl_tierSizes), ("loop.example/g00410/impl.emptyDir", laid_loop_example_g00410_impl_emptyDir), ("loop.example/g00410/impl.freeDirent", laid_loop_example_g00410_impl_freeDirent), ("unicode/utf8.first", laid_unicode_utf8_first)], narrowed := true }
def FnExactParentUptoSaid : Prop := fnExactParentUptoRow.holds Tryd.pinned (OpenSpec.upto fnExactParentSpec)

/-- 'laws.FnExactPathsOf', WHERE WHAT IT READS IS OF BULK AT MOST 1048576: true; the input reads as it did. -/
def fnExactPathsOfUptoRow : OpenClaim := { program := "ytpljkdbeekplbaadoor", sum := "2525b1c984e1c5156df5dc70b681e7ad5f68ca4f0fb4ba4e4224cc24cb7f4646", func := "loop.example/g00410/laws.FnExactPathsOf", spec := "fnExactPathsOf", inPlace := ["internal/bytealg.abigen_runtime_cmpstring"], unfollowed := true, recurses := true, named := ["loop.example/g00410/impl.emptyDir", "loop.example/g00410/impl.tierSizes", "loop.example/g00410/impl.freeDirent"], apart := false, laid := [("loop.example/g00410/impl.tierSizes", laid_loop_example_g00410_impl_tierSizes), ("loop.example/g00410/impl.emptyDir", laid_loop_example_g00410_impl_emptyDir), ("loop.example/g00410/impl.freeDirent", laid_loop_example_g00410_impl_freeDirent)], narrowed := true }
def FnExactPathsOfUptoSaid : Prop := fnExactPathsOfUptoRow.holds Tryd.pinned (OpenSpec.upto fnExactPathsOfSpec)

/-- 'laws.FnExactBeneath', WHERE WHAT IT READS IS OF BULK AT MOST 1048576: true; the input reads as it did. -/
def fnExactBeneathUptoRow : OpenClaim := { program := "ytpljkdbeekplbaadoor", sum := "2525b1c984e1c5156df5dc70b681e7ad5f68ca4f0fb4ba4e4224cc24cb7f4646", func := "loop.example/g00410/laws.FnExactBeneath", spec := "fnExactBeneath", unfollowed := true, recurses := true, named := ["loop.example/g00410/impl.emptyDir", "loop.example/g00410/impl.tierSizes", "loop.example/g00410/impl.freeDirent"], apart := false, laid := [("loop.example/g00410/impl.tierSizes", laid_loop_example_g00410_impl_tierSizes), ("loop.example/g00410/impl.emptyDir", laid_loop_example_g00410_impl_emptyDir), ("loop.example/g00410/impl.freeDirent", laid_loop_example_g00410_impl_freeDirent)], narrowed := true }
def FnExactBeneathUptoSaid : Prop := fnExactBeneathUptoRow.holds Tryd.pinned (OpenSpec.upto fnExactBeneathSpec)

end Rows
end Go.Proofs.YtpljkdbeekplbaaDoor
