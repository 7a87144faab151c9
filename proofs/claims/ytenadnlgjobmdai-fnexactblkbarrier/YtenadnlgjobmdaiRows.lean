/-
  No cell of these rows narrows 'for every input' (looked for: loops, veiled, ifaces, maps, wideKeys, modest, calm, conditions, laid).
  DERIVED. THE GIVEN ROWS OF THIS SEAT. 5 by the template 'for every input the law returns true; each argument reads behind the call as it read before'; 0 by the template 'total and deterministic' (their statements: YtenadnlgjobmdaiTotals.lean).
  GIVEN WITH THE SEED: the statements are not yours to turn. If you find one false, say at which input.
  Laid BY PROGRAM, IN A SANDBOX (cutbox-rows.mjs): the forced cells as the released guide's own fill.sh prints them over the translation fa2d83db05d337f6… (all of the seat's roots in one cut). By AI agents, Wed Nov 11 2026. No macro, syntax, notation, axiom, sorry.
-/
import Derived.Test.YtenadnlgjobmdaiChecked
import GoSem.Claim
import GoSem.ClaimJoined
import GoSem.ClaimMapViews
import Derived.JoinedTies
import Derived.KernelRfl
namespace Go.Proofs.Ytenadnlgjobmdai
/- THE CELL 'sum', in the pinned program and in every row, IS THE sha256 OF THE DUMP (.gsa) THAT YtenadnlgjobmdaiProg.lean LOADS. Nothing in Lean hashes anything: it is a label: what it is worth is what the hold of that sum in a sandbox is worth. -/
noncomputable def Try.pinned : Pinned := { name := "ytenadnlgjobmdai", sum := "fa2d83db05d337f61903be8581573b3ba480e971092f16a7d84dd558b4987966", checked := Try.checked }
namespace Rows
def none {H : Type} : Left H := { results := [], args := [] }

/-- 'laws.FnExactPmUnsure': WHATEVER THE INPUT: true; the input reads as it did. -/
def fnExactPmUnsureSpec : ChangeSpec := { name := "fnExactPmUnsure", fn := fun _ => fun
  | [d] => { results := [.lit (.bool true)], args := [d] }
  | _ => none }
def fnExactPmUnsureRow : OpenClaim := { program := "ytenadnlgjobmdai", sum := "fa2d83db05d337f61903be8581573b3ba480e971092f16a7d84dd558b4987966", func := "loop.example/g00410/laws.FnExactPmUnsure", spec := "fnExactPmUnsure", unfollowed := true, recurses := true, apart := false }
def FnExactPmUnsureSaid : Prop := fnExactPmUnsureRow.holds Try.pinned (OpenSpec.ofChange fnExactPmUnsureSpec)

/-- ITS FALSE NEIGHBOUR: 'it returns false'. Refute it at one input. -/
def fnExactPmUnsureWrong : ChangeSpec := { name := "fnExactPmUnsure", fn := fun _ => fun
  | [d] => { results := [.lit (.bool false)], args := [d] }
  | _ => none }
def FnExactPmUnsureWrongFalsely : Prop := fnExactPmUnsureRow.holds Try.pinned (OpenSpec.ofChange fnExactPmUnsureWrong)

/-- 'laws.FnExactPmSeen': WHATEVER THE INPUT: true; the input reads as it did. -/
def fnExactPmSeenSpec : ChangeSpec := { name := "fnExactPmSeen", fn := fun _ => fun
  | [d] => { results := [.lit (.bool true)], args := [d] }
  | _ => none }
def fnExactPmSeenRow : OpenClaim := { program := "ytenadnlgjobmdai", sum := "fa2d83db05d337f61903be8581573b3ba480e971092f16a7d84dd558b4987966", func := "loop.example/g00410/laws.FnExactPmSeen", spec := "fnExactPmSeen", unfollowed := true, recurses := true, apart := false }
def FnExactPmSeenSaid : Prop := fnExactPmSeenRow.holds Try.pinned (OpenSpec.ofChange fnExactPmSeenSpec)

/-- ITS FALSE NEIGHBOUR: 'it returns false'. Refute it at one input. -/
def fnExactPmSeenWrong : ChangeSpec := { name := "fnExactPmSeen", fn := fun _ => fun
  | [d] => { results := [.lit (.bool false)], args := [d] }
  | _ => none }
def FnExactPmSeenWrongFalsely : Prop := fnExactPmSeenRow.holds Try.pinned (OpenSpec.ofChange fnExactPmSeenWrong)

/-- 'laws.FnExactBlkOK': WHATEVER THE INPUT: true; the input reads as it did. -/
def fnExactBlkOKSpec : ChangeSpec := { name := "fnExactBlkOK", fn := fun _ => fun
  | [d] => { results := [.lit (.bool true)], args := [d] }
  | _ => none }
def fnExactBlkOKRow : OpenClaim := { program := "ytenadnlgjobmdai", sum := "fa2d83db05d337f61903be8581573b3ba480e971092f16a7d84dd558b4987966", func := "loop.example/g00410/laws.FnExactBlkOK", spec := "fnExactBlkOK", unfollowed := true, recurses := true, apart := false }
def FnExactBlkOKSaid : Prop := fnExactBlkOKRow.holds Try.pinned (OpenSpec.ofChange fnExactBlkOKSpec)

/-- ITS FALSE NEIGHBOUR: 'it returns false'. Refute it at one input. -/
def fnExactBlkOKWrong : ChangeSpec := { name := "fnExactBlkOK", fn := fun _ => fun
  | [d] => { results := [.lit (.bool false)], args := [d] }
  | _ => none }
def FnExactBlkOKWrongFalsely : Prop := fnExactBlkOKRow.holds Try.pinned (OpenSpec.ofChange fnExactBlkOKWrong)

/-- 'laws.FnExactBlkWrite': WHATEVER THE INPUT: true; the input reads as it did. -/
def fnExactBlkWriteSpec : ChangeSpec := { name := "fnExactBlkWrite", fn := fun _ => fun
  | [d1, d2, d3] => { results := [.lit (.bool true)], args := [d1, d2, d3] }
  | _ => none }
def fnExactBlkWriteRow : OpenClaim := { program := "ytenadnlgjobmdai", sum := "fa2d83db05d337f61903be8581573b3ba480e971092f16a7d84dd558b4987966", func := "loop.example/g00410/laws.FnExactBlkWrite", spec := "fnExactBlkWrite", unfollowed := true, recurses := true, apart := false }
def FnExactBlkWriteSaid : Prop := fnExactBlkWriteRow.holds Try.pinned (OpenSpec.ofChange fnExactBlkWriteSpec)

/-- ITS FALSE NEIGHBOUR: 'it returns false'. Refute it at one input. -/
def fnExactBlkWriteWrong : ChangeSpec := { name := "fnExactBlkWrite", fn := fun _ => fun
  | [d1, d2, d3] => { results := [.lit (.bool false)], args := [d1, d2, d3] }
  | _ => none }
def FnExactBlkWriteWrongFalsely : Prop := fnExactBlkWriteRow.holds Try.pinned (OpenSpec.ofChange fnExactBlkWriteWrong)

/-- 'laws.FnExactBlkBarrier': WHATEVER THE INPUT: true; the input reads as it did. -/
def fnExactBlkBarrierSpec : ChangeSpec := { name := "fnExactBlkBarrier", fn := fun _ => fun
  | [d] => { results := [.lit (.bool true)], args := [d] }
  | _ => none }
def fnExactBlkBarrierRow : OpenClaim := { program := "ytenadnlgjobmdai", sum := "fa2d83db05d337f61903be8581573b3ba480e971092f16a7d84dd558b4987966", func := "loop.example/g00410/laws.FnExactBlkBarrier", spec := "fnExactBlkBarrier", unfollowed := true, recurses := true, apart := false }
def FnExactBlkBarrierSaid : Prop := fnExactBlkBarrierRow.holds Try.pinned (OpenSpec.ofChange fnExactBlkBarrierSpec)

/-- ITS FALSE NEIGHBOUR: 'it returns false'. Refute it at one input. -/
def fnExactBlkBarrierWrong : ChangeSpec := { name := "fnExactBlkBarrier", fn := fun _ => fun
  | [d] => { results := [.lit (.bool false)], args := [d] }
  | _ => none }
def FnExactBlkBarrierWrongFalsely : Prop := fnExactBlkBarrierRow.holds Try.pinned (OpenSpec.ofChange fnExactBlkBarrierWrong)

/- THE SECOND FORM. 'bulk': how many values and letters a reading holds, each counted each time it is reached (what is shared counts as often as it is met; a slice's spare places count too). A statement '..UptoSaid' is the law's where the arguments, and the package variables that the reading takes, are together of bulk at most 1048576: NARROWER than '..Said'. Prove '..Said' where nothing that the law and all that it calls make is longer than what came in: it says more and counts as full. Else prove '..UptoSaid'. A law counts once. -/
mutual
def uptoBulk {H : Type} : DataW H → Nat
  | .lit (.string bytes) => bytes.length + 1
  | .lit _ => 1
  | .nil => 1
  | .ptr d => uptoBulk d + 1
  | .slice elems spare => uptoBulkAll elems + uptoBulkAll spare + 1
  | .agg parts => uptoBulkAll parts + 1
  | .iface _ d => uptoBulk d + 1
  | .map entries => uptoBulkEntries entries + 1
  | .held _ => 1
def uptoBulkAll {H : Type} : List (DataW H) → Nat
  | [] => 0
  | d :: r => uptoBulk d + uptoBulkAll r
def uptoBulkEntries {H : Type} : List (Lit × DataW H) → Nat
  | [] => 0
  | x :: r => uptoBulkEntry x + uptoBulkEntries r
def uptoBulkEntry {H : Type} : Lit × DataW H → Nat
  | (.string bytes, d) => bytes.length + uptoBulk d + 1
  | (_, d) => uptoBulk d + 1
 end
def uptoSmall : (H : Type) → List (DataW H) → Bool := fun _ ds => decide (uptoBulkAll ds ≤ 1048576)
def OpenSpec.upto (s : _root_.Go.ChangeSpec) : _root_.Go.OpenSpec := { _root_.Go.OpenSpec.ofChange s with cond := some uptoSmall }

/-- 'laws.FnExactPmUnsure', WHERE WHAT IT READS IS OF BULK AT MOST 1048576: true; the input reads as it did. -/
def fnExactPmUnsureUptoRow : OpenClaim := { program := "ytenadnlgjobmdai", sum := "fa2d83db05d337f61903be8581573b3ba480e971092f16a7d84dd558b4987966", func := "loop.example/g00410/laws.FnExactPmUnsure", spec := "fnExactPmUnsure", unfollowed := true, recurses := true, apart := false, narrowed := true }
def FnExactPmUnsureUptoSaid : Prop := fnExactPmUnsureUptoRow.holds Try.pinned (OpenSpec.upto fnExactPmUnsureSpec)

/-- 'laws.FnExactPmSeen', WHERE WHAT IT READS IS OF BULK AT MOST 1048576: true; the input reads as it did. -/
def fnExactPmSeenUptoRow : OpenClaim := { program := "ytenadnlgjobmdai", sum := "fa2d83db05d337f61903be8581573b3ba480e971092f16a7d84dd558b4987966", func := "loop.example/g00410/laws.FnExactPmSeen", spec := "fnExactPmSeen", unfollowed := true, recurses := true, apart := false, narrowed := true }
def FnExactPmSeenUptoSaid : Prop := fnExactPmSeenUptoRow.holds Try.pinned (OpenSpec.upto fnExactPmSeenSpec)

/-- 'laws.FnExactBlkOK', WHERE WHAT IT READS IS OF BULK AT MOST 1048576: true; the input reads as it did. -/
def fnExactBlkOKUptoRow : OpenClaim := { program := "ytenadnlgjobmdai", sum := "fa2d83db05d337f61903be8581573b3ba480e971092f16a7d84dd558b4987966", func := "loop.example/g00410/laws.FnExactBlkOK", spec := "fnExactBlkOK", unfollowed := true, recurses := true, apart := false, narrowed := true }
def FnExactBlkOKUptoSaid : Prop := fnExactBlkOKUptoRow.holds Try.pinned (OpenSpec.upto fnExactBlkOKSpec)

/-- 'laws.FnExactBlkWrite', WHERE WHAT IT READS IS OF BULK AT MOST 1048576: true; the input reads as it did. -/
def fnExactBlkWriteUptoRow : OpenClaim := { program := "ytenadnlgjobmdai", sum := "fa2d83db05d337f61903be8581573b3ba480e971092f16a7d84dd558b4987966", func := "loop.example/g00410/laws.FnExactBlkWrite", spec := "fnExactBlkWrite", unfollowed := true, recurses := true, apart := false, narrowed := true }
def FnExactBlkWriteUptoSaid : Prop := fnExactBlkWriteUptoRow.holds Try.pinned (OpenSpec.upto fnExactBlkWriteSpec)

/-- 'laws.FnExactBlkBarrier', WHERE WHAT IT READS IS OF BULK AT MOST 1048576: true; the input reads as it did. -/
def fnExactBlkBarrierUptoRow : OpenClaim := { program := "ytenadnlgjobmdai", sum := "fa2d83db05d337f61903be8581573b3ba480e971092f16a7d84dd558b4987966", func := "loop.example/g00410/laws.FnExactBlkBarrier", spec := "fnExactBlkBarrier", unfollowed := true, recurses := true, apart := false, narrowed := true }
def FnExactBlkBarrierUptoSaid : Prop := fnExactBlkBarrierUptoRow.holds Try.pinned (OpenSpec.upto fnExactBlkBarrierSpec)

end Rows
end Go.Proofs.Ytenadnlgjobmdai
