/- The words of the codes: the program's table and the model's list give one word for each number, and one number for each word. -/
import Derived.Test.YtbibjfoimncemagDoorRows
import Derived.WalkKit
import Derived.WalkSpells
import Derived.Lib.LaidTab
namespace Go.Proofs.YtbibjfoimncemagDoor
open Go.RowKit

def words : List ByteArray := [⟨#[111, 107]⟩, ⟨#[98, 97, 100]⟩, ⟨#[108, 111, 110, 103]⟩, ⟨#[102, 111, 114, 109]⟩, ⟨#[114, 97, 110, 103, 101]⟩, ⟨#[110, 111, 110, 101]⟩, ⟨#[109, 97, 110, 121]⟩, ⟨#[102, 117, 108, 108]⟩, ⟨#[116, 119, 105, 99, 101]⟩, ⟨#[100, 105, 114]⟩, ⟨#[110, 111, 100, 105, 114]⟩, ⟨#[110, 111, 116, 101, 109, 112, 116, 121]⟩, ⟨#[110, 97, 109, 101]⟩, ⟨#[108, 111, 111, 112]⟩, ⟨#[112, 108, 97, 99, 101]⟩, ⟨#[98, 117, 115, 121]⟩, ⟨#[105, 100, 108, 101]⟩, ⟨#[111, 114, 100, 101, 114]⟩, ⟨#[108, 105, 110, 107, 115]⟩, ⟨#[114, 111, 111, 116]⟩]
def wordAt (c : Int) : ByteArray := if 0 ≤ c ∧ c < 20 then words.getD c.toNat ByteArray.empty else ByteArray.empty

theorem wordAt_out {c : Int} (h : c < 0 ∨ 20 ≤ c) : wordAt c = ⟨#[]⟩ := by
  unfold wordAt
  rw [if_neg (by omega)]; rfl

theorem ret_string {a b : ByteArray} (h : a = b) : Ending.returned (.string a) = .returned (.string b) := by rw [h]

set_option maxHeartbeats 4000000 in
theorem f5_any (c : Int) (w : World) : Calls Tryd.prog 5 #[.int .i64 c] w fun e w' => e = .returned (.string (wordAt c)) ∧ Below w.heap.size w w' := by
  by_cases h1 : c < 0
  · rw [wordAt_out (.inl h1)]
    go_enter Tryd.func5, Tryd.ntmps5
    go_wp2
    go_ret
    exact ⟨rfl, (Below.refl _ _).alloc (Nat.le_refl _) _⟩
  by_cases h2 : 20 ≤ c
  · rw [wordAt_out (.inr h2)]
    go_enter Tryd.func5, Tryd.ntmps5
    go_wp2
    go_ret
    exact ⟨rfl, (Below.refl _ _).alloc (Nat.le_refl _) _⟩
  obtain ⟨k, rfl⟩ := Int.eq_ofNat_of_zero_le (show 0 ≤ c by omega)
  rcases (show k = 0 ∨ k = 1 ∨ k = 2 ∨ k = 3 ∨ k = 4 ∨ k = 5 ∨ k = 6 ∨ k = 7 ∨ k = 8 ∨ k = 9 ∨ k = 10 ∨ k = 11 ∨ k = 12 ∨ k = 13 ∨ k = 14 ∨ k = 15 ∨ k = 16 ∨ k = 17 ∨ k = 18 ∨ k = 19 from by omega) with rfl | rfl | rfl | rfl | rfl | rfl | rfl | rfl | rfl | rfl | rfl | rfl | rfl | rfl | rfl | rfl | rfl | rfl | rfl | rfl
  all_goals
    clear h1 h2
    go_enter Tryd.func5, Tryd.ntmps5
    go_wp2
    go_ret
    exact ⟨rfl, (Below.refl _ _).alloc (Nat.le_refl _) _⟩
end Go.Proofs.YtbibjfoimncemagDoor
