/- Several texts laid together: MtA, DtE. -/
import Derived.Test.YtkchiplcjlgflaaGreatDoorZAD
import Derived.Test.YtkchiplcjlgflaaGreatDoorDgA
import Derived.Test.YtkchiplcjlgflaaGreatDoorOrdT
import Derived.Lib.Join
import Derived.Deep.RegionHeld3
namespace Go.Proofs.YtkchiplcjlgflaaGreatDoor
open Go.RowKit
def joinB (ws : List ByteArray) : ByteArray := ⟨(Lib.join (ws.map (·.data.toList)) [32]).toArray⟩
theorem it_size1 {z : Int} (h0 : 0 ≤ z) (h1 : z ≤ 9223372036854775807) : (itT z).size ≤ 20 := by
  obtain ⟨n, rfl⟩ : ∃ n : Nat, z = (n : Int) := ⟨z.toNat, by omega⟩
  rw [it_nat]
  exact dg_len 19 n (by omega)
end Go.Proofs.YtkchiplcjlgflaaGreatDoor

namespace Go.Proofs.YtkchiplcjlgflaaGreatDoor
open Go.RowKit
def opB (k : Int) (p t : ByteArray) (g x : Int) : Bool := decide ((1 ≤ k ∧ k ≤ 10) ∧ p.size ≤ 65536 ∧ t.size ≤ 65536 ∧ (k = 4 ∨ k = 5 ∨ t.size = 0) ∧ (k = 6 ∨ x = 0) ∧ ((6 ≤ k ∧ k ≤ 8) ∨ g = 0))
end Go.Proofs.YtkchiplcjlgflaaGreatDoor
