/- An operation is read: what the words tell, as facts. -/
import Derived.Test.YtjkdmhdehihcbaaGreatDoorZBB
namespace Go.Proofs.YtjkdmhdehihcbaaGreatDoor
open Go.RowKit
abbrev wa (ws : List ByteArray) (i : Nat) : ByteArray := ws.getD i ⟨#[]⟩
theorem rdW_none {ws : List ByteArray} (h : hrO (kdOf (wa ws 0)) ws = none) : rdW ws = none := by
  unfold rdW
  rw [h]
  rfl
theorem rd_of {ws : List ByteArray} {p t : ByteArray} {g x : Nat} (h : hrO (kdOf (wa ws 0)) ws = some (p, t, g, x)) : rdW ws = if otB (kdOf (wa ws 0)) p t g x = true then some (kdOf (wa ws 0), p, t, g, x) else none := by
  unfold rdW
  rw [h]
  rfl
theorem rd_zero {ws : List ByteArray} (h : kdOf (wa ws 0) = 0) : rdW ws = none := rdW_none (by unfold hrO; rw [if_pos h])
theorem hr_link {k : Nat} {ws : List ByteArray} (h : k = 4 ∨ k = 5) : hrO k ws = if ws.length = 3 then some (wa ws 1, wa ws 2, 0, 0) else none := by
  unfold hrO
  rw [if_neg (by omega), if_pos h]
theorem hr_write {k : Nat} {ws : List ByteArray} (h : k = 6) : hrO k ws = if ws.length = 4 then (numP (wa ws 2)).bind fun g => (numP (wa ws 3)).map fun x => (wa ws 1, ⟨#[]⟩, g, x) else none := by
  unfold hrO
  rw [if_neg (by omega), if_neg (by omega), if_pos h]
theorem hr_page {k : Nat} {ws : List ByteArray} (h : k = 7 ∨ k = 8) : hrO k ws = if ws.length = 3 then (numP (wa ws 2)).map fun g => (wa ws 1, ⟨#[]⟩, g, 0) else none := by
  unfold hrO
  rw [if_neg (by omega), if_neg (by omega), if_neg (by omega), if_pos h]
theorem hr_else {k : Nat} {ws : List ByteArray} (h0 : k ≠ 0) (h1 : ¬ (k = 4 ∨ k = 5)) (h2 : ¬ k = 6) (h3 : ¬ (k = 7 ∨ k = 8)) : hrO k ws = if ws.length = 2 then some (wa ws 1, ⟨#[]⟩, 0, 0) else none := by
  unfold hrO
  rw [if_neg h0, if_neg h1, if_neg h2, if_neg h3]
theorem rd_badnum {ws : List ByteArray} {j : Nat} (hk : ¬ (kdOf (wa ws 0) = 4 ∨ kdOf (wa ws 0) = 5)) (h2 : 2 ≤ j) (hj : j < ws.length) (h : numP (wa ws j) = none) : rdW ws = none := by
  apply rdW_none
  by_cases k0 : kdOf (wa ws 0) = 0
  · unfold hrO; rw [if_pos k0]
  by_cases k6 : kdOf (wa ws 0) = 6
  · rw [hr_write k6]
    split
    · rcases (show j = 2 ∨ j = 3 by omega) with rfl | rfl
      · rw [h]; rfl
      · rw [h]; cases numP (wa ws 2) <;> rfl
    · rfl
  by_cases k7 : kdOf (wa ws 0) = 7 ∨ kdOf (wa ws 0) = 8
  · rw [hr_page k7]
    split
    · obtain rfl : j = 2 := by omega
      rw [h]; rfl
    · rfl
  rw [hr_else k0 hk k6 k7, if_neg (by omega)]
end Go.Proofs.YtjkdmhdehihcbaaGreatDoor
