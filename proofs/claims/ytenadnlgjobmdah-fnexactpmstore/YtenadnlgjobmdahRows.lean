/-
  No cell of these rows narrows 'for every input' (looked for: loops, veiled, ifaces, maps, wideKeys, modest, calm, conditions, laid).
  DERIVED. THE GIVEN ROWS OF THIS SEAT. 6 by the template 'for every input the law returns true; each argument reads behind the call as it read before'; 0 by the template 'total and deterministic' (their statements: YtenadnlgjobmdahTotals.lean).
  GIVEN WITH THE SEED: the statements are not yours to turn. If you find one false, say at which input.
  Laid BY PROGRAM, IN A SANDBOX (cutbox-rows.mjs): the forced cells as the released guide's own fill.sh prints them over the translation 4a922aaea40efe6d… (all of the seat's roots in one cut). By AI agents, Wed Nov 11 2026. No macro, syntax, notation, axiom, sorry.
-/
import Derived.Test.YtenadnlgjobmdahChecked
import GoSem.Claim
import GoSem.ClaimJoined
import GoSem.ClaimMapViews
import Derived.JoinedTies
import Derived.KernelRfl
namespace Go.Proofs.Ytenadnlgjobmdah
/- THE CELL 'sum', in the pinned program and in every row, IS THE sha256 OF THE DUMP (.gsa) THAT YtenadnlgjobmdahProg.lean LOADS. Nothing in Lean hashes anything: it is a label: what it is worth is what the hold of that sum in a sandbox is worth. -/
noncomputable def Try.pinned : Pinned := { name := "ytenadnlgjobmdah", sum := "4a922aaea40efe6d9572e9e7a366e9d2df5bec9703fe3e0a6a1849c3b22f6258", checked := Try.checked }
namespace Rows
def none {H : Type} : Left H := { results := [], args := [] }

/-- 'laws.FnExactPmOK': WHATEVER THE INPUT: true; the input reads as it did. -/
def fnExactPmOKSpec : ChangeSpec := { name := "fnExactPmOK", fn := fun _ => fun
  | [d] => { results := [.lit (.bool true)], args := [d] }
  | _ => none }
def fnExactPmOKRow : OpenClaim := { program := "ytenadnlgjobmdah", sum := "4a922aaea40efe6d9572e9e7a366e9d2df5bec9703fe3e0a6a1849c3b22f6258", func := "loop.example/g00410/laws.FnExactPmOK", spec := "fnExactPmOK", unfollowed := true, recurses := true, apart := false }
def FnExactPmOKSaid : Prop := fnExactPmOKRow.holds Try.pinned (OpenSpec.ofChange fnExactPmOKSpec)

/-- ITS FALSE NEIGHBOUR: 'it returns false'. Refute it at one input. -/
def fnExactPmOKWrong : ChangeSpec := { name := "fnExactPmOK", fn := fun _ => fun
  | [d] => { results := [.lit (.bool false)], args := [d] }
  | _ => none }
def FnExactPmOKWrongFalsely : Prop := fnExactPmOKRow.holds Try.pinned (OpenSpec.ofChange fnExactPmOKWrong)

/-- 'laws.FnExactPmLoad': WHATEVER THE INPUT: true; the input reads as it did. -/
def fnExactPmLoadSpec : ChangeSpec := { name := "fnExactPmLoad", fn := fun _ => fun
  | [d1, d2] => { results := [.lit (.bool true)], args := [d1, d2] }
  | _ => none }
def fnExactPmLoadRow : OpenClaim := { program := "ytenadnlgjobmdah", sum := "4a922aaea40efe6d9572e9e7a366e9d2df5bec9703fe3e0a6a1849c3b22f6258", func := "loop.example/g00410/laws.FnExactPmLoad", spec := "fnExactPmLoad", unfollowed := true, recurses := true, apart := false }
def FnExactPmLoadSaid : Prop := fnExactPmLoadRow.holds Try.pinned (OpenSpec.ofChange fnExactPmLoadSpec)

/-- ITS FALSE NEIGHBOUR: 'it returns false'. Refute it at one input. -/
def fnExactPmLoadWrong : ChangeSpec := { name := "fnExactPmLoad", fn := fun _ => fun
  | [d1, d2] => { results := [.lit (.bool false)], args := [d1, d2] }
  | _ => none }
def FnExactPmLoadWrongFalsely : Prop := fnExactPmLoadRow.holds Try.pinned (OpenSpec.ofChange fnExactPmLoadWrong)

/-- 'laws.FnExactPmStore': WHATEVER THE INPUT: true; the input reads as it did. -/
def fnExactPmStoreSpec : ChangeSpec := { name := "fnExactPmStore", fn := fun _ => fun
  | [d1, d2, d3] => { results := [.lit (.bool true)], args := [d1, d2, d3] }
  | _ => none }
def fnExactPmStoreRow : OpenClaim := { program := "ytenadnlgjobmdah", sum := "4a922aaea40efe6d9572e9e7a366e9d2df5bec9703fe3e0a6a1849c3b22f6258", func := "loop.example/g00410/laws.FnExactPmStore", spec := "fnExactPmStore", unfollowed := true, recurses := true, apart := false }
def FnExactPmStoreSaid : Prop := fnExactPmStoreRow.holds Try.pinned (OpenSpec.ofChange fnExactPmStoreSpec)

/-- ITS FALSE NEIGHBOUR: 'it returns false'. Refute it at one input. -/
def fnExactPmStoreWrong : ChangeSpec := { name := "fnExactPmStore", fn := fun _ => fun
  | [d1, d2, d3] => { results := [.lit (.bool false)], args := [d1, d2, d3] }
  | _ => none }
def FnExactPmStoreWrongFalsely : Prop := fnExactPmStoreRow.holds Try.pinned (OpenSpec.ofChange fnExactPmStoreWrong)

/-- 'laws.FnExactPmFlush': WHATEVER THE INPUT: true; the input reads as it did. -/
def fnExactPmFlushSpec : ChangeSpec := { name := "fnExactPmFlush", fn := fun _ => fun
  | [d1, d2] => { results := [.lit (.bool true)], args := [d1, d2] }
  | _ => none }
def fnExactPmFlushRow : OpenClaim := { program := "ytenadnlgjobmdah", sum := "4a922aaea40efe6d9572e9e7a366e9d2df5bec9703fe3e0a6a1849c3b22f6258", func := "loop.example/g00410/laws.FnExactPmFlush", spec := "fnExactPmFlush", unfollowed := true, recurses := true, apart := false }
def FnExactPmFlushSaid : Prop := fnExactPmFlushRow.holds Try.pinned (OpenSpec.ofChange fnExactPmFlushSpec)

/-- ITS FALSE NEIGHBOUR: 'it returns false'. Refute it at one input. -/
def fnExactPmFlushWrong : ChangeSpec := { name := "fnExactPmFlush", fn := fun _ => fun
  | [d1, d2] => { results := [.lit (.bool false)], args := [d1, d2] }
  | _ => none }
def FnExactPmFlushWrongFalsely : Prop := fnExactPmFlushRow.holds Try.pinned (OpenSpec.ofChange fnExactPmFlushWrong)

/-- 'laws.FnExactPmFence': WHATEVER THE INPUT: true; the input reads as it did. -/
def fnExactPmFenceSpec : ChangeSpec := { name := "fnExactPmFence", fn := fun _ => fun
  | [d] => { results := [.lit (.bool true)], args := [d] }
  | _ => none }
def fnExactPmFenceRow : OpenClaim := { program := "ytenadnlgjobmdah", sum := "4a922aaea40efe6d9572e9e7a366e9d2df5bec9703fe3e0a6a1849c3b22f6258", func := "loop.example/g00410/laws.FnExactPmFence", spec := "fnExactPmFence", unfollowed := true, recurses := true, apart := false }
def FnExactPmFenceSaid : Prop := fnExactPmFenceRow.holds Try.pinned (OpenSpec.ofChange fnExactPmFenceSpec)

/-- ITS FALSE NEIGHBOUR: 'it returns false'. Refute it at one input. -/
def fnExactPmFenceWrong : ChangeSpec := { name := "fnExactPmFence", fn := fun _ => fun
  | [d] => { results := [.lit (.bool false)], args := [d] }
  | _ => none }
def FnExactPmFenceWrongFalsely : Prop := fnExactPmFenceRow.holds Try.pinned (OpenSpec.ofChange fnExactPmFenceWrong)

/-- 'laws.FnExactPmCrash': WHATEVER THE INPUT: true; the input reads as it did. -/
def fnExactPmCrashSpec : ChangeSpec := { name := "fnExactPmCrash", fn := fun _ => fun
  | [d1, d2] => { results := [.lit (.bool true)], args := [d1, d2] }
  | _ => none }
def fnExactPmCrashRow : OpenClaim := { program := "ytenadnlgjobmdah", sum := "4a922aaea40efe6d9572e9e7a366e9d2df5bec9703fe3e0a6a1849c3b22f6258", func := "loop.example/g00410/laws.FnExactPmCrash", spec := "fnExactPmCrash", unfollowed := true, recurses := true, apart := false }
def FnExactPmCrashSaid : Prop := fnExactPmCrashRow.holds Try.pinned (OpenSpec.ofChange fnExactPmCrashSpec)

/-- ITS FALSE NEIGHBOUR: 'it returns false'. Refute it at one input. -/
def fnExactPmCrashWrong : ChangeSpec := { name := "fnExactPmCrash", fn := fun _ => fun
  | [d1, d2] => { results := [.lit (.bool false)], args := [d1, d2] }
  | _ => none }
def FnExactPmCrashWrongFalsely : Prop := fnExactPmCrashRow.holds Try.pinned (OpenSpec.ofChange fnExactPmCrashWrong)

/- THE SECOND FORM. 'bulk': how many values and letters a reading holds, each counted each time it is reached (what is shared counts as often as it is met; a slice's spare places count too). A statement '..UptoSaid' is the law's where the arguments, and the package variables that the reading takes, are together of bulk at most 1048576: NARROWER than '..Said'. Prove '..Said' where nothing that the law and all that it calls make is longer than what came in: it says more and counts as full. Else prove '..UptoSaid'. A law counts once. -/
mutual
def uptoBulk {H : Type} : DataW H → Nat
  | .lit (.string bytes) => bytes.length + 1
  | .lit _ => 1
  | .nil => 1
  | .ptr d => uptoBulk d + 1
  | .slice elems spare => uptoBulkAll elems + uptoBulkAll spare + 1
  | .agg parts => uptoBulkAll parts + 1
  | .iface _ d => uptoBulk d + 1
  | .map entries => uptoBulkEntries entries + 1
  | .held _ => 1
def uptoBulkAll {H : Type} : List (DataW H) → Nat
  | [] => 0
  | d :: r => uptoBulk d + uptoBulkAll r
def uptoBulkEntries {H : Type} : List (Lit × DataW H) → Nat
  | [] => 0
  | x :: r => uptoBulkEntry x + uptoBulkEntries r
def uptoBulkEntry {H : Type} : Lit × DataW H → Nat
  | (.string bytes, d) => bytes.length + uptoBulk d + 1
  | (_, d) => uptoBulk d + 1
 end
def uptoSmall : (H : Type) → List (DataW H) → Bool := fun _ ds => decide (uptoBulkAll ds ≤ 1048576)
def OpenSpec.upto (s : _root_.Go.ChangeSpec) : _root_.Go.OpenSpec := { _root_.Go.OpenSpec.ofChange s with cond := some uptoSmall }

/-- 'laws.FnExactPmOK', WHERE WHAT IT READS IS OF BULK AT MOST 1048576: true; the input reads as it did. -/
def fnExactPmOKUptoRow : OpenClaim := { program := "ytenadnlgjobmdah", sum := "4a922aaea40efe6d9572e9e7a366e9d2df5bec9703fe3e0a6a1849c3b22f6258", func := "loop.example/g00410/laws.FnExactPmOK", spec := "fnExactPmOK", unfollowed := true, recurses := true, apart := false, narrowed := true }
def FnExactPmOKUptoSaid : Prop := fnExactPmOKUptoRow.holds Try.pinned (OpenSpec.upto fnExactPmOKSpec)

/-- 'laws.FnExactPmLoad', WHERE WHAT IT READS IS OF BULK AT MOST 1048576: true; the input reads as it did. -/
def fnExactPmLoadUptoRow : OpenClaim := { program := "ytenadnlgjobmdah", sum := "4a922aaea40efe6d9572e9e7a366e9d2df5bec9703fe3e0a6a1849c3b22f6258", func := "loop.example/g00410/laws.FnExactPmLoad", spec := "fnExactPmLoad", unfollowed := true, recurses := true, apart := false, narrowed := true }
def FnExactPmLoadUptoSaid : Prop := fnExactPmLoadUptoRow.holds Try.pinned (OpenSpec.upto fnExactPmLoadSpec)

/-- 'laws.FnExactPmStore', WHERE WHAT IT READS IS OF BULK AT MOST 1048576: true; the input reads as it did. -/
def fnExactPmStoreUptoRow : OpenClaim := { program := "ytenadnlgjobmdah", sum := "4a922aaea40efe6d9572e9e7a366e9d2df5bec9703fe3e0a6a1849c3b22f6258", func := "loop.example/g00410/laws.FnExactPmStore", spec := "fnExactPmStore", unfollowed := true, recurses := true, apart := false, narrowed := true }
def FnExactPmStoreUptoSaid : Prop := fnExactPmStoreUptoRow.holds Try.pinned (OpenSpec.upto fnExactPmStoreSpec)

/-- 'laws.FnExactPmFlush', WHERE WHAT IT READS IS OF BULK AT MOST 1048576: true; the input reads as it did. -/
def fnExactPmFlushUptoRow : OpenClaim := { program := "ytenadnlgjobmdah", sum := "4a922aaea40efe6d9572e9e7a366e9d2df5bec9703fe3e0a6a1849c3b22f6258", func := "loop.example/g00410/laws.FnExactPmFlush", spec := "fnExactPmFlush", unfollowed := true, recurses := true, apart := false, narrowed := true }
def FnExactPmFlushUptoSaid : Prop := fnExactPmFlushUptoRow.holds Try.pinned (OpenSpec.upto fnExactPmFlushSpec)

/-- 'laws.FnExactPmFence', WHERE WHAT IT READS IS OF BULK AT MOST 1048576: true; the input reads as it did. -/
def fnExactPmFenceUptoRow : OpenClaim := { program := "ytenadnlgjobmdah", sum := "4a922aaea40efe6d9572e9e7a366e9d2df5bec9703fe3e0a6a1849c3b22f6258", func := "loop.example/g00410/laws.FnExactPmFence", spec := "fnExactPmFence", unfollowed := true, recurses := true, apart := false, narrowed := true }
def FnExactPmFenceUptoSaid : Prop := fnExactPmFenceUptoRow.holds Try.pinned (OpenSpec.upto fnExactPmFenceSpec)

/-- 'laws.FnExactPmCrash', WHERE WHAT IT READS IS OF BULK AT MOST 1048576: true; the input reads as it did. -/
def fnExactPmCrashUptoRow : OpenClaim := { program := "ytenadnlgjobmdah", sum := "4a922aaea40efe6d9572e9e7a366e9d2df5bec9703fe3e0a6a1849c3b22f6258", func := "loop.example/g00410/laws.FnExactPmCrash", spec := "fnExactPmCrash", unfollowed := true, recurses := true, apart := false, narrowed := true }
def FnExactPmCrashUptoSaid : Prop := fnExactPmCrashUptoRow.holds Try.pinned (OpenSpec.upto fnExactPmCrashSpec)

end Rows
end Go.Proofs.Ytenadnlgjobmdah
