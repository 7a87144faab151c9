/- Several texts laid together: NdC, TrD, CrashSE. -/
import Derived.Test.YtlkmnpanddchdaaZBE
import Derived.Test.YtlkmnpanddchdaaMem
import Derived.Deep.RegionHeld3
import Derived.Deep.DeepCutAuto
import Derived.Orders
import Derived.Test.YtlkmnpanddchdaaZAZ
import Derived.Test.YtlkmnpanddchdaaWord
import Derived.Laws.CopyOwn
import Derived.Laws.Cover3
import Derived.Test.YtlkmnpanddchdaaZAS
import Derived.BigRegion
import Derived.Deep.RegionLaw
namespace Go.Proofs.Ytlkmnpanddchdaa
open Go.RowKit

/-- What is known of new devices when some of the operations are done. -/
structure NdF (w0 : World) (d : Nat → Bool) (wx : World) (x1 x2 x3 x4 x5 x6 x7 x8 : Value) : Prop where
  b : Below w0.heap.size w0 wx
  f0 : d 0 = true → ∃ b, x2 = .slice (some ⟨b, 0, none⟩) 336 336 ∧ wx.heap[b]? = some (.cells n336 3 (0, 0)) ∧ w0.heap.size ≤ b
  f1 : d 1 = true → ∃ q, x3 = .slice q 0 0
  f2 : d 2 = true → d 0 = true ∧ d 1 = true ∧ x4 = .agg #[x2, x3]
  f3 : d 3 = true → ∃ b, x5 = .slice (some ⟨b, 0, none⟩) 32 32 ∧ wx.heap[b]? = some (.cells n32 3 (0, 0)) ∧ w0.heap.size ≤ b
  f4 : d 4 = true → ∃ q, x6 = .slice q 0 0
  f5 : d 5 = true → d 3 = true ∧ d 4 = true ∧ x7 = .agg #[x5, x6]
  f6 : d 6 = true → d 2 = true ∧ d 5 = true ∧ x8 = .agg #[x2, x3, x5, x6]
  f7 : d 7 = true → ∃ b, x1 = .pointer (some ⟨b, 0, none⟩) ∧ w0.heap.size ≤ b ∧ (d 8 = false → wx.heap[b]? = some (.cells #[.slice none 0 0, .slice none 0 0, .slice none 0 0, .slice none 0 0] 42 (0, 0))) ∧ (d 8 = true → wx.heap[b]? = some (.cells #[x2, x3, x5, x6] 42 (0, 0)))
  f8 : d 8 = true → d 6 = true ∧ d 7 = true
/-- The same, when one more is done that touches nothing known. -/
theorem NdF.alloc {w0 wx : World} {d : Nat → Bool} {x1 x2 x3 x4 x5 x6 x7 x8 : Value} (h : NdF w0 d wx x1 x2 x3 x4 x5 x6 x7 x8) (o : Obj) : NdF w0 d (wx.alloc o) x1 x2 x3 x4 x5 x6 x7 x8 :=
  ⟨h.b.alloc h.b.size o, fun q => let ⟨b, e, g, z⟩ := h.f0 q; ⟨b, e, at_old g, z⟩, h.f1, h.f2, fun q => let ⟨b, e, g, z⟩ := h.f3 q; ⟨b, e, at_old g, z⟩, h.f4, h.f5, h.f6,
    fun q => let ⟨b, e, z, g1, g2⟩ := h.f7 q; ⟨b, e, z, fun r => at_old (g1 r), fun r => at_old (g2 r)⟩, h.f8⟩
theorem NdF.drew {w0 wx : World} {d : Nat → Bool} {x1 x2 x3 x4 x5 x6 x7 x8 : Value} (h : NdF w0 d wx x1 x2 x3 x4 x5 x6 x7 x8) : NdF w0 d wx.drew x1 x2 x3 x4 x5 x6 x7 x8 :=
  ⟨h.b.drew, h.f0, h.f1, h.f2, h.f3, h.f4, h.f5, h.f6, h.f7, h.f8⟩
section
variable {w0 wx : World} {d : Nat → Bool} {x1 x2 x3 x4 x5 x6 x7 x8 : Value}
end
end Go.Proofs.Ytlkmnpanddchdaa

namespace Go.Proofs.Ytlkmnpanddchdaa
open Go.RowKit

@[go_sem] theorem eqlNilInt (a : Option Addr) (l c : Nat) (w : World) : (binOp .eql 22 (.slice a l c) (.slice none 0 0)).run Try.prog w = .ok (.bool a.isNone) w := by
  simp only [binOp]
  simp [run_equal_slice_nil w 22 3 a l c Try.underlying22]

end Go.Proofs.Ytlkmnpanddchdaa

namespace Go.Proofs.Ytlkmnpanddchdaa
open Go.RowKit

/-- In the midst of the model's crash: the words so far, the writes, the places. -/
structure CrIE (w wr : World) (n : Nat) (X : List Int) (ps : List Se) (us : List Int) (lo hi hi2 : Nat) (vW vP vU : Value) : Prop where
  words : Row wr 3 1 lo hi vW n (ints X)
  pend : Row wr 96 2 lo hi vP ps.length (ses ps)
  plc : Row wr 3 1 hi hi2 vU us.length (ints us)
  box : wr.heap[w.heap.size]? = some (.cells #[vW, vP] 40 (0, 0))
  res : wr.heap[w.heap.size + 1]? = some (.cells #[.slice none 0 0, .slice none 0 0] 40 (0, 0))
  below : Below w.heap.size w wr
  size : hi2 ≤ wr.heap.size

theorem CrIE.drew {w wr : World} {n : Nat} {X : List Int} {ps : List Se} {us : List Int} {lo hi hi2 : Nat} {vW vP vU : Value} (h : CrIE w wr n X ps us lo hi hi2 vW vP vU) : CrIE w wr.drew n X ps us lo hi hi2 vW vP vU := by
  obtain ⟨h1, h2, h3, h4, h5, h6, h7⟩ := h
  exact ⟨h1.same (fun _ _ _ => rfl), h2.same (fun _ _ _ => rfl), h3.same (fun _ _ _ => rfl), h4, h5, h6.drew, h7⟩
end Go.Proofs.Ytlkmnpanddchdaa
