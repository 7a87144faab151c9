/- Numbers base 27: the digits of a number, and the number of digits; names and their numbers: mathematics. -/
import Derived.WalkKit
namespace Go.Proofs.Ytfcjhhiekjbbiaa

/-- The digits of a number base 27, the first one first. -/
def digs (n : Nat) : List Nat := if _h : n = 0 then [] else digs (n / 27) ++ [n % 27]
termination_by n
decreasing_by omega
/-- In the midst of reading digits: m is left, ds are read. -/
structure Dg (n m : Nat) (ds : List Nat) : Prop where
  eq : digs n = digs m ++ ds
  ok : ∀ d ∈ ds, 1 ≤ d ∧ d < 27
theorem Dg.len {n m : Nat} {ds : List Nat} (h : Dg n m ds) : ds.length ≤ (digs n).length := by rw [h.eq]; simp
end Go.Proofs.Ytfcjhhiekjbbiaa
