/- What is kept, drawn; a word, drawn; the choices of a law. -/
import Derived.Test.YtfcjhhiekjbbiaaDraw
namespace Go.Proofs.Ytfcjhhiekjbbiaa
open Go.RowKit

set_option maxRecDepth 100000 in
/-- A source is made. -/
theorem l00Source_any (v : Value) (bs : List Int) (w : World) (h : RdB w v bs) (hl : bs.length ≤ 1048576) :
    Calls Try.prog 23 #[v] w fun e w' => e = .returned (.pointer (some ⟨w.heap.size, 0, none⟩)) ∧ SrcE w w' w.heap.size v bs 0 ((bs.length : Int) % 1000) ∧ Below w.heap.size w w' := by
  have H := hideIt h
  obtain ⟨aC, cC, rfl, _⟩ := h.shape
  clear h
  have hm : (0 : Int) ≤ (bs.length : Int) := by omega
  go_enter Try.func23, Try.ntmps23
  go_wp2
  go_ret
  refine ⟨rfl, ⟨⟨H.out, hl, Nat.le_refl _, (Below.refl _ _).alloc (Nat.le_refl _) _, by simp, 0, (bs.length : Int) % 1000, by omega, by omega, by omega, by omega, at_new rfl⟩, by omega, by omega, at_new rfl⟩, (Below.refl _ _).alloc (Nat.le_refl _) _⟩

end Go.Proofs.Ytfcjhhiekjbbiaa
