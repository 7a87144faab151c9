/-
  No cell of these rows narrows 'for every input' (looked for: loops, veiled, ifaces, maps, wideKeys, modest, calm, conditions, laid).
  DERIVED. THE GIVEN ROWS OF THIS SEAT. 5 by the template 'for every input the law returns true; each argument reads behind the call as it read before'; 0 by the template 'total and deterministic' (their statements: YtfcjhhiekjbbiaaTotals.lean).
  GIVEN WITH THE SEED: the statements are not yours to turn. If you find one false, say at which input.
  Laid BY PROGRAM, IN A SANDBOX (cutbox-rows.mjs): the forced cells as the released guide's own fill.sh prints them over the translation 3a8c494b91d7f55f… (all of the seat's roots in one cut). By AI agents, Wed Nov 11 2026. No macro, syntax, notation, axiom, sorry.
-/
import Derived.Test.YtfcjhhiekjbbiaaChecked
import GoSem.Claim
import GoSem.ClaimJoined
import GoSem.ClaimMapViews
import Derived.JoinedTies
import Derived.KernelRfl
namespace Go.Proofs.Ytfcjhhiekjbbiaa
/- THE CELL 'sum', in the pinned program and in every row, IS THE sha256 OF THE DUMP (.gsa) THAT YtfcjhhiekjbbiaaProg.lean LOADS. Nothing in Lean hashes anything: it is a label: what it is worth is what the hold of that sum in a sandbox is worth. -/
noncomputable def Try.pinned : Pinned := { name := "ytfcjhhiekjbbiaa", sum := "3a8c494b91d7f55f09e77aed21634671ea9319ea4f94857648f9b7df1fd0b187", checked := Try.checked }
namespace Rows
def none {H : Type} : Left H := { results := [], args := [] }

/-- 'laws.FnHeat': WHATEVER THE INPUT: true; the input reads as it did. -/
def fnHeatSpec : ChangeSpec := { name := "fnHeat", fn := fun _ => fun
  | [d1, d2] => { results := [.lit (.bool true)], args := [d1, d2] }
  | _ => none }
def fnHeatRow : OpenClaim := { program := "ytfcjhhiekjbbiaa", sum := "3a8c494b91d7f55f09e77aed21634671ea9319ea4f94857648f9b7df1fd0b187", func := "loop.example/g00410/laws.FnHeat", spec := "fnHeat", unfollowed := true, recurses := true, apart := false }
def FnHeatSaid : Prop := fnHeatRow.holds Try.pinned (OpenSpec.ofChange fnHeatSpec)

/-- ITS FALSE NEIGHBOUR: 'it returns false'. Refute it at one input. -/
def fnHeatWrong : ChangeSpec := { name := "fnHeat", fn := fun _ => fun
  | [d1, d2] => { results := [.lit (.bool false)], args := [d1, d2] }
  | _ => none }
def FnHeatWrongFalsely : Prop := fnHeatRow.holds Try.pinned (OpenSpec.ofChange fnHeatWrong)

/-- 'laws.FnExactNewHeat': WHATEVER THE INPUT: true; the input reads as it did. -/
def fnExactNewHeatSpec : ChangeSpec := { name := "fnExactNewHeat", fn := fun _ => fun
  | [] => { results := [.lit (.bool true)], args := [] }
  | _ => none }
def fnExactNewHeatRow : OpenClaim := { program := "ytfcjhhiekjbbiaa", sum := "3a8c494b91d7f55f09e77aed21634671ea9319ea4f94857648f9b7df1fd0b187", func := "loop.example/g00410/laws.FnExactNewHeat", spec := "fnExactNewHeat", apart := false }
def FnExactNewHeatSaid : Prop := fnExactNewHeatRow.holds Try.pinned (OpenSpec.ofChange fnExactNewHeatSpec)

/-- ITS FALSE NEIGHBOUR: 'it returns false'. Refute it at one input. -/
def fnExactNewHeatWrong : ChangeSpec := { name := "fnExactNewHeat", fn := fun _ => fun
  | [] => { results := [.lit (.bool false)], args := [] }
  | _ => none }
def FnExactNewHeatWrongFalsely : Prop := fnExactNewHeatRow.holds Try.pinned (OpenSpec.ofChange fnExactNewHeatWrong)

/-- 'laws.FnExactHeatOK': WHATEVER THE INPUT: true; the input reads as it did. -/
def fnExactHeatOKSpec : ChangeSpec := { name := "fnExactHeatOK", fn := fun _ => fun
  | [d] => { results := [.lit (.bool true)], args := [d] }
  | _ => none }
def fnExactHeatOKRow : OpenClaim := { program := "ytfcjhhiekjbbiaa", sum := "3a8c494b91d7f55f09e77aed21634671ea9319ea4f94857648f9b7df1fd0b187", func := "loop.example/g00410/laws.FnExactHeatOK", spec := "fnExactHeatOK", unfollowed := true, recurses := true, apart := false }
def FnExactHeatOKSaid : Prop := fnExactHeatOKRow.holds Try.pinned (OpenSpec.ofChange fnExactHeatOKSpec)

/-- ITS FALSE NEIGHBOUR: 'it returns false'. Refute it at one input. -/
def fnExactHeatOKWrong : ChangeSpec := { name := "fnExactHeatOK", fn := fun _ => fun
  | [d] => { results := [.lit (.bool false)], args := [d] }
  | _ => none }
def FnExactHeatOKWrongFalsely : Prop := fnExactHeatOKRow.holds Try.pinned (OpenSpec.ofChange fnExactHeatOKWrong)

/-- 'laws.FnExactTouch': WHATEVER THE INPUT: true; the input reads as it did. -/
def fnExactTouchSpec : ChangeSpec := { name := "fnExactTouch", fn := fun _ => fun
  | [d1, d2, d3] => { results := [.lit (.bool true)], args := [d1, d2, d3] }
  | _ => none }
def fnExactTouchRow : OpenClaim := { program := "ytfcjhhiekjbbiaa", sum := "3a8c494b91d7f55f09e77aed21634671ea9319ea4f94857648f9b7df1fd0b187", func := "loop.example/g00410/laws.FnExactTouch", spec := "fnExactTouch", unfollowed := true, recurses := true, apart := false }
def FnExactTouchSaid : Prop := fnExactTouchRow.holds Try.pinned (OpenSpec.ofChange fnExactTouchSpec)

/-- ITS FALSE NEIGHBOUR: 'it returns false'. Refute it at one input. -/
def fnExactTouchWrong : ChangeSpec := { name := "fnExactTouch", fn := fun _ => fun
  | [d1, d2, d3] => { results := [.lit (.bool false)], args := [d1, d2, d3] }
  | _ => none }
def FnExactTouchWrongFalsely : Prop := fnExactTouchRow.holds Try.pinned (OpenSpec.ofChange fnExactTouchWrong)

/-- 'laws.FnExactDecay': WHATEVER THE INPUT: true; the input reads as it did. -/
def fnExactDecaySpec : ChangeSpec := { name := "fnExactDecay", fn := fun _ => fun
  | [d] => { results := [.lit (.bool true)], args := [d] }
  | _ => none }
def fnExactDecayRow : OpenClaim := { program := "ytfcjhhiekjbbiaa", sum := "3a8c494b91d7f55f09e77aed21634671ea9319ea4f94857648f9b7df1fd0b187", func := "loop.example/g00410/laws.FnExactDecay", spec := "fnExactDecay", unfollowed := true, recurses := true, apart := false }
def FnExactDecaySaid : Prop := fnExactDecayRow.holds Try.pinned (OpenSpec.ofChange fnExactDecaySpec)

/-- ITS FALSE NEIGHBOUR: 'it returns false'. Refute it at one input. -/
def fnExactDecayWrong : ChangeSpec := { name := "fnExactDecay", fn := fun _ => fun
  | [d] => { results := [.lit (.bool false)], args := [d] }
  | _ => none }
def FnExactDecayWrongFalsely : Prop := fnExactDecayRow.holds Try.pinned (OpenSpec.ofChange fnExactDecayWrong)

/- THE SECOND FORM. 'bulk': how many values and letters a reading holds, each counted each time it is reached (what is shared counts as often as it is met; a slice's spare places count too). A statement '..UptoSaid' is the law's where the arguments, and the package variables that the reading takes, are together of bulk at most 1048576: NARROWER than '..Said'. Prove '..Said' where nothing that the law and all that it calls make is longer than what came in: it says more and counts as full. Else prove '..UptoSaid'. A law counts once. -/
mutual
def uptoBulk {H : Type} : DataW H → Nat
  | .lit (.string bytes) => bytes.length + 1
  | .lit _ => 1
  | .nil => 1
  | .ptr d => uptoBulk d + 1
  | .slice elems spare => uptoBulkAll elems + uptoBulkAll spare + 1
  | .agg parts => uptoBulkAll parts + 1
  | .iface _ d => uptoBulk d + 1
  | .map entries => uptoBulkEntries entries + 1
  | .held _ => 1
def uptoBulkAll {H : Type} : List (DataW H) → Nat
  | [] => 0
  | d :: r => uptoBulk d + uptoBulkAll r
def uptoBulkEntries {H : Type} : List (Lit × DataW H) → Nat
  | [] => 0
  | x :: r => uptoBulkEntry x + uptoBulkEntries r
def uptoBulkEntry {H : Type} : Lit × DataW H → Nat
  | (.string bytes, d) => bytes.length + uptoBulk d + 1
  | (_, d) => uptoBulk d + 1
 end
def uptoSmall : (H : Type) → List (DataW H) → Bool := fun _ ds => decide (uptoBulkAll ds ≤ 1048576)
def OpenSpec.upto (s : _root_.Go.ChangeSpec) : _root_.Go.OpenSpec := { _root_.Go.OpenSpec.ofChange s with cond := some uptoSmall }

/-- 'laws.FnHeat', WHERE WHAT IT READS IS OF BULK AT MOST 1048576: true; the input reads as it did. -/
def fnHeatUptoRow : OpenClaim := { program := "ytfcjhhiekjbbiaa", sum := "3a8c494b91d7f55f09e77aed21634671ea9319ea4f94857648f9b7df1fd0b187", func := "loop.example/g00410/laws.FnHeat", spec := "fnHeat", unfollowed := true, recurses := true, apart := false, narrowed := true }
def FnHeatUptoSaid : Prop := fnHeatUptoRow.holds Try.pinned (OpenSpec.upto fnHeatSpec)

/-- 'laws.FnExactNewHeat', WHERE WHAT IT READS IS OF BULK AT MOST 1048576: true; the input reads as it did. -/
def fnExactNewHeatUptoRow : OpenClaim := { program := "ytfcjhhiekjbbiaa", sum := "3a8c494b91d7f55f09e77aed21634671ea9319ea4f94857648f9b7df1fd0b187", func := "loop.example/g00410/laws.FnExactNewHeat", spec := "fnExactNewHeat", apart := false, narrowed := true }
def FnExactNewHeatUptoSaid : Prop := fnExactNewHeatUptoRow.holds Try.pinned (OpenSpec.upto fnExactNewHeatSpec)

/-- 'laws.FnExactHeatOK', WHERE WHAT IT READS IS OF BULK AT MOST 1048576: true; the input reads as it did. -/
def fnExactHeatOKUptoRow : OpenClaim := { program := "ytfcjhhiekjbbiaa", sum := "3a8c494b91d7f55f09e77aed21634671ea9319ea4f94857648f9b7df1fd0b187", func := "loop.example/g00410/laws.FnExactHeatOK", spec := "fnExactHeatOK", unfollowed := true, recurses := true, apart := false, narrowed := true }
def FnExactHeatOKUptoSaid : Prop := fnExactHeatOKUptoRow.holds Try.pinned (OpenSpec.upto fnExactHeatOKSpec)

/-- 'laws.FnExactTouch', WHERE WHAT IT READS IS OF BULK AT MOST 1048576: true; the input reads as it did. -/
def fnExactTouchUptoRow : OpenClaim := { program := "ytfcjhhiekjbbiaa", sum := "3a8c494b91d7f55f09e77aed21634671ea9319ea4f94857648f9b7df1fd0b187", func := "loop.example/g00410/laws.FnExactTouch", spec := "fnExactTouch", unfollowed := true, recurses := true, apart := false, narrowed := true }
def FnExactTouchUptoSaid : Prop := fnExactTouchUptoRow.holds Try.pinned (OpenSpec.upto fnExactTouchSpec)

/-- 'laws.FnExactDecay', WHERE WHAT IT READS IS OF BULK AT MOST 1048576: true; the input reads as it did. -/
def fnExactDecayUptoRow : OpenClaim := { program := "ytfcjhhiekjbbiaa", sum := "3a8c494b91d7f55f09e77aed21634671ea9319ea4f94857648f9b7df1fd0b187", func := "loop.example/g00410/laws.FnExactDecay", spec := "fnExactDecay", unfollowed := true, recurses := true, apart := false, narrowed := true }
def FnExactDecayUptoSaid : Prop := fnExactDecayUptoRow.holds Try.pinned (OpenSpec.upto fnExactDecaySpec)

end Rows
end Go.Proofs.Ytfcjhhiekjbbiaa
