/- An operation is read: what it is, as mathematics. -/
import Derived.Test.YtkchiplcjlgflaaGreatDoorRoC
import Derived.Test.YtkchiplcjlgflaaGreatDoorOtA
namespace Go.Proofs.YtkchiplcjlgflaaGreatDoor
open Go.RowKit
def kdTo (s : ByteArray) : Nat → Nat
  | 0 => 0
  | i + 1 => if 1 ≤ i ∧ kwT i = s then i else kdTo s i
def kdOf (s : ByteArray) : Nat := kdTo s 11
theorem kdTo_le (s : ByteArray) : ∀ i, kdTo s i ≤ i - 1
  | 0 => Nat.le_refl _
  | i + 1 => by
    unfold kdTo
    split
    · omega
    · have := kdTo_le s i
      omega
def hrO (k : Nat) (ws : List ByteArray) : Option (ByteArray × ByteArray × Nat × Nat) :=
  if k = 0 then none
  else if k = 4 ∨ k = 5 then (if ws.length = 3 then some (ws.getD 1 ⟨#[]⟩, ws.getD 2 ⟨#[]⟩, 0, 0) else none)
  else if k = 6 then (if ws.length = 4 then (numP (ws.getD 2 ⟨#[]⟩)).bind fun g => (numP (ws.getD 3 ⟨#[]⟩)).map fun x => (ws.getD 1 ⟨#[]⟩, ⟨#[]⟩, g, x) else none)
  else if k = 7 ∨ k = 8 then (if ws.length = 3 then (numP (ws.getD 2 ⟨#[]⟩)).map fun g => (ws.getD 1 ⟨#[]⟩, ⟨#[]⟩, g, 0) else none)
  else (if ws.length = 2 then some (ws.getD 1 ⟨#[]⟩, ⟨#[]⟩, 0, 0) else none)
def rdW (ws : List ByteArray) : Option (Nat × ByteArray × ByteArray × Nat × Nat) :=
  (hrO (kdOf (ws.getD 0 ⟨#[]⟩)) ws).bind fun (p, t, g, x) => if otB (kdOf (ws.getD 0 ⟨#[]⟩)) p t g x = true then some (kdOf (ws.getD 0 ⟨#[]⟩), p, t, g, x) else none
end Go.Proofs.YtkchiplcjlgflaaGreatDoor
