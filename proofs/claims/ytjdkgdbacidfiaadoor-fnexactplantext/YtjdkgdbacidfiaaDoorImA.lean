/- Inodes and entries as the laws hand them on: mathematics and the helpers over one of them. -/
import Derived.Test.YtjdkgdbacidfiaaDoorZAB
import Derived.BigQuiet
import Derived.Deep.QuietTactic
namespace Go.Proofs.YtjdkgdbacidfiaaDoor
open Go.RowKit
theorem eight_at {w : World} {b : Nat} {t : TypeId} {xs : List Value} (h : w.heap[b]? = some (.cells xs.toArray t (0, 0))) (j : Nat) : w.cell? ⟨b, j, none⟩ = xs[j]? ∧ w.frozen? ⟨b, j, none⟩ = false := by
  simp [World.cell?, World.frozen?, h]
end Go.Proofs.YtjdkgdbacidfiaaDoor
