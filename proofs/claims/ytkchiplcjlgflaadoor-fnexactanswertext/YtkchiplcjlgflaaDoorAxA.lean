/- The cwL of the codes: by the model and by the program. -/
import Derived.Test.YtkchiplcjlgflaaDoorRows
import Derived.WalkKit
import Derived.WalkSpells
import Derived.Lib.LaidTab
namespace Go.Proofs.YtkchiplcjlgflaaDoor
open Go.RowKit
def cwL : List ByteArray := [⟨#[111, 107]⟩, ⟨#[98, 97, 100]⟩, ⟨#[108, 111, 110, 103]⟩, ⟨#[102, 111, 114, 109]⟩, ⟨#[114, 97, 110, 103, 101]⟩, ⟨#[110, 111, 110, 101]⟩, ⟨#[109, 97, 110, 121]⟩, ⟨#[102, 117, 108, 108]⟩, ⟨#[116, 119, 105, 99, 101]⟩, ⟨#[100, 105, 114]⟩, ⟨#[110, 111, 100, 105, 114]⟩, ⟨#[110, 111, 116, 101, 109, 112, 116, 121]⟩, ⟨#[110, 97, 109, 101]⟩, ⟨#[108, 111, 111, 112]⟩, ⟨#[112, 108, 97, 99, 101]⟩, ⟨#[98, 117, 115, 121]⟩, ⟨#[105, 100, 108, 101]⟩, ⟨#[111, 114, 100, 101, 114]⟩, ⟨#[108, 105, 110, 107, 115]⟩, ⟨#[114, 111, 111, 116]⟩]
def cwT (c : Int) : ByteArray := if 0 ≤ c ∧ c < 20 then cwL.getD c.toNat ByteArray.empty else ByteArray.empty
theorem cwT_out {c : Int} (h : c < 0 ∨ 20 ≤ c) : cwT c = ⟨#[]⟩ := by
  unfold cwT
  rw [if_neg (by omega)]; rfl
set_option maxHeartbeats 4000000 in
theorem specCodeWord_any (c : Int) (w : World) : Calls Tryd.prog 24 #[.int .i64 c] w fun e w' => e = .returned (.string (cwT c)) ∧ Below w.heap.size w w' := by
  by_cases h1 : c < 0
  · rw [cwT_out (.inl h1)]
    go_enter Tryd.func24, Tryd.ntmps24
    go_wp2
    go_ret
    exact ⟨rfl, (Below.refl _ _).alloc (Nat.le_refl _) _⟩
  by_cases h2 : 20 ≤ c
  · rw [cwT_out (.inr h2)]
    go_enter Tryd.func24, Tryd.ntmps24
    go_wp2
    go_ret
    exact ⟨rfl, (Below.refl _ _).alloc (Nat.le_refl _) _⟩
  obtain ⟨k, rfl⟩ := Int.eq_ofNat_of_zero_le (show 0 ≤ c by omega)
  rcases (show k = 0 ∨ k = 1 ∨ k = 2 ∨ k = 3 ∨ k = 4 ∨ k = 5 ∨ k = 6 ∨ k = 7 ∨ k = 8 ∨ k = 9 ∨ k = 10 ∨ k = 11 ∨ k = 12 ∨ k = 13 ∨ k = 14 ∨ k = 15 ∨ k = 16 ∨ k = 17 ∨ k = 18 ∨ k = 19 from by omega) with rfl | rfl | rfl | rfl | rfl | rfl | rfl | rfl | rfl | rfl | rfl | rfl | rfl | rfl | rfl | rfl | rfl | rfl | rfl | rfl
  all_goals
    clear h1 h2
    go_enter Tryd.func24, Tryd.ntmps24
    go_wp2
    go_ret
    exact ⟨rfl, (Below.refl _ _).alloc (Nat.le_refl _) _⟩
def cwA : Array Value := (cwL.map Value.string).toArray
theorem cwA_at (k : Nat) (hk : k < 20) : cwA[k]? = some (.string (cwT (k : Int))) := by
  rcases (show k = 0 ∨ k = 1 ∨ k = 2 ∨ k = 3 ∨ k = 4 ∨ k = 5 ∨ k = 6 ∨ k = 7 ∨ k = 8 ∨ k = 9 ∨ k = 10 ∨ k = 11 ∨ k = 12 ∨ k = 13 ∨ k = 14 ∨ k = 15 ∨ k = 16 ∨ k = 17 ∨ k = 18 ∨ k = 19 from by omega) with rfl | rfl | rfl | rfl | rfl | rfl | rfl | rfl | rfl | rfl | rfl | rfl | rfl | rfl | rfl | rfl | rfl | rfl | rfl | rfl
  all_goals kernel_rfl
def CW (w : World) : Prop := ∃ t fr, w.heap[0]? = some (.cells cwA t fr)
theorem CW.lt {w : World} (h : CW w) : 0 < w.heap.size := by
  obtain ⟨t, fr, h⟩ := h
  exact (Array.getElem?_eq_some_iff.1 h).1
theorem CW.later {w w' : World} {B : Nat} (h : CW w) (hB : 0 < B) (hb : Below B w w') : CW w' := by
  obtain ⟨t, fr, h⟩ := h
  exact ⟨t, fr, (hb.block _ hB).trans h⟩
theorem CW.cell {w : World} (h : CW w) (k : Nat) (hk : k < 20) : w.cell? ⟨0, k, none⟩ = some (.string (cwT (k : Int))) := by
  obtain ⟨t, fr, h⟩ := h
  simp [World.cell?, h, cwA_at k hk]
set_option maxHeartbeats 1000000 in
theorem implCodeWord_any (c : Int) (w : World) (hT : CW w) : Calls Tryd.prog 20 #[.int .i64 c] w fun e w' => e = .returned (.string (cwT c)) ∧ w' = w := by
  by_cases h1 : c < 0
  · rw [cwT_out (.inl h1)]
    go_enter Tryd.func20, Tryd.ntmps20
    go_wp2
    go_ret
    exact ⟨rfl, rfl⟩
  by_cases h2 : 20 ≤ c
  · rw [cwT_out (.inr h2)]
    go_enter Tryd.func20, Tryd.ntmps20
    go_wp2
    go_ret
    exact ⟨rfl, rfl⟩
  obtain ⟨k, rfl⟩ := Int.eq_ofNat_of_zero_le (show 0 ≤ c by omega)
  have hk : k < 20 := by omega
  have hc := hT.cell k hk
  go_enter Tryd.func20, Tryd.ntmps20
  go_wp2
  go_ret
  exact ⟨rfl, rfl⟩
theorem CW.below {w w' : World} (h : CW w) (hb : Below w.heap.size w w') : CW w' := h.later h.lt hb
theorem cwT_size (c : Int) : (cwT c).size ≤ 8 := by
  by_cases h : 0 ≤ c ∧ c < 20
  · obtain ⟨k, rfl⟩ := Int.eq_ofNat_of_zero_le h.1
    rcases (show k = 0 ∨ k = 1 ∨ k = 2 ∨ k = 3 ∨ k = 4 ∨ k = 5 ∨ k = 6 ∨ k = 7 ∨ k = 8 ∨ k = 9 ∨ k = 10 ∨ k = 11 ∨ k = 12 ∨ k = 13 ∨ k = 14 ∨ k = 15 ∨ k = 16 ∨ k = 17 ∨ k = 18 ∨ k = 19 from by omega) with rfl | rfl | rfl | rfl | rfl | rfl | rfl | rfl | rfl | rfl | rfl | rfl | rfl | rfl | rfl | rfl | rfl | rfl | rfl | rfl <;> decide
  · rw [cwT_out (by omega)]
    exact Nat.zero_le _
theorem cwT_in {c : Int} (h : 0 ≤ c ∧ c < 20) : ((cwT c).toList != (⟨#[]⟩ : ByteArray).toList) = true := by
  obtain ⟨k, rfl⟩ := Int.eq_ofNat_of_zero_le h.1
  rcases (show k = 0 ∨ k = 1 ∨ k = 2 ∨ k = 3 ∨ k = 4 ∨ k = 5 ∨ k = 6 ∨ k = 7 ∨ k = 8 ∨ k = 9 ∨ k = 10 ∨ k = 11 ∨ k = 12 ∨ k = 13 ∨ k = 14 ∨ k = 15 ∨ k = 16 ∨ k = 17 ∨ k = 18 ∨ k = 19 from by omega) with rfl | rfl | rfl | rfl | rfl | rfl | rfl | rfl | rfl | rfl | rfl | rfl | rfl | rfl | rfl | rfl | rfl | rfl | rfl | rfl <;> decide +kernel
theorem cwT_word (c : Int) : ((cwT c).toList != (⟨#[]⟩ : ByteArray).toList) = decide (0 ≤ c ∧ c < 20) := by
  by_cases h : 0 ≤ c ∧ c < 20
  · rw [cwT_in h, decide_eq_true h]
  · rw [cwT_out (by omega), decide_eq_false h]
    simp
end Go.Proofs.YtkchiplcjlgflaaDoor
