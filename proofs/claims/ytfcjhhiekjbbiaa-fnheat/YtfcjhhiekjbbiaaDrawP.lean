/- A memory, drawn. -/
import Derived.Test.YtfcjhhiekjbbiaaDrawK
import Derived.Test.YtfcjhhiekjbbiaaPm
import Derived.Test.YtfcjhhiekjbbiaaIntS
import Derived.Deep.RegionWith
import Derived.BigRegion
import Derived.Deep.DeepCutAuto
import Derived.Deep.RegionLaw
namespace Go.Proofs.Ytfcjhhiekjbbiaa
open Go.RowKit

/-- A memory that the document allows, with at most n stores. -/
structure PmP (ws : List Int) (ps : List St) (n : Nat) : Prop where
  len : ws.length = 336
  few : ps.length ≤ n
  word : ∀ z ∈ ws, 0 ≤ z ∧ z < 1099511627776
  store : ∀ p ∈ ps, (0 ≤ p.at_ ∧ p.at_ < 336) ∧ 0 ≤ p.val ∧ p.val < 1099511627776
  ord : ps.Pairwise (fun p q => p.at_ = q.at_ → q.fl = true → p.fl = true)
theorem PmP.at {ws : List Int} {ps : List St} {n : Nat} (h : PmP ws ps n) : ∀ j (hj : j < ps.length), 0 ≤ ps[j].at_ ∧ ps[j].at_ < 336 := fun _ hj => (h.store _ (List.getElem_mem hj)).1
theorem PmP.zero : PmP (List.replicate 336 0) [] 0 :=
  ⟨List.length_replicate .., Nat.le_refl _, fun z hz => by obtain ⟨_, rfl⟩ := List.mem_replicate.1 hz; omega, fun p hp => by simp at hp, List.Pairwise.nil⟩

end Go.Proofs.Ytfcjhhiekjbbiaa
