/- Operations told in words: by the model. -/
import Derived.Test.YtkchiplcjlgflaaGreatDoorZAR
import Derived.Test.YtkchiplcjlgflaaGreatDoorPbD
namespace Go.Proofs.YtkchiplcjlgflaaGreatDoor
open Go.RowKit
def kwL : List ByteArray := [⟨#[]⟩, ⟨#[109, 97, 107, 101]⟩, ⟨#[109, 107, 100, 105, 114]⟩, ⟨#[114, 101, 109, 111, 118, 101]⟩, ⟨#[108, 105, 110, 107]⟩, ⟨#[114, 101, 110, 97, 109, 101]⟩, ⟨#[119, 114, 105, 116, 101]⟩, ⟨#[99, 117, 116]⟩, ⟨#[114, 101, 97, 100]⟩, ⟨#[115, 116, 97, 116]⟩, ⟨#[108, 105, 115, 116]⟩]
def kwT (k : Nat) : ByteArray := kwL.getD k ⟨#[]⟩
def fdsOf (k : Nat) : List Nat := if k = 4 ∨ k = 5 then [0, 3] else if k = 6 then [0, 1, 2] else if k = 7 ∨ k = 8 then [0, 1] else [0]
def fdT (p t : ByteArray) (g x : Int) (f : Nat) : ByteArray := if f = 0 then p else if f = 1 then itT g else if f = 2 then itT x else t
def fdB (p t : ByteArray) (g x : Int) (f : Nat) : Bool := if f = 0 then spC p == 0 else if f = 1 then decide (0 ≤ g ∧ g < 1001) else if f = 2 then wordB x else spC t == 0
def opW (k : Nat) (p t : ByteArray) (g x : Int) : List ByteArray := kwT k :: (fdsOf k).map (fdT p t g x)
def otB (k : Int) (p t : ByteArray) (g x : Int) : Bool := opB k p t g x && (fdsOf k.toNat).all (fdB p t g x)
def otS (k : Int) (p t : ByteArray) (g x : Int) : ByteArray := if otB k p t g x = true then joinB (opW k.toNat p t g x) else ⟨#[]⟩
def otC (k : Int) (p t : ByteArray) (g x : Int) : Int := if otB k p t g x = true then 0 else 1
theorem spC_none {t : ByteArray} (h : t.size = 0) : (spC t == 0) = false := by
  have e : t = ⟨#[]⟩ := by
    obtain ⟨⟨l⟩⟩ := t
    have : l = [] := List.length_eq_zero_iff.1 h
    rw [this]
  subst e
  have n0 : (⟨#[]⟩ : ByteArray).toList = [] := (noBytes _).2 rfl
  have n1 : (pcs ⟨#[]⟩).length = 1 := rfl
  have : spB ⟨#[]⟩ = false := by unfold spB slashB spN; rw [n0, n1]; simp
  obtain ⟨-, X2⟩ := sp_short (s := ⟨#[]⟩) (by decide)
  rw [(X2 this).1]
  rfl
theorem opB_iff {k : Int} {p t : ByteArray} {g x : Int} : opB k p t g x = true ↔ ((1 ≤ k ∧ k ≤ 10) ∧ p.size ≤ 65536 ∧ t.size ≤ 65536 ∧ (k = 4 ∨ k = 5 ∨ t.size = 0) ∧ (k = 6 ∨ x = 0) ∧ ((6 ≤ k ∧ k ≤ 8) ∨ g = 0)) := by unfold opB; exact decide_eq_true_iff
theorem ot_of {k : Int} {p t : ByteArray} {g x : Int} (h : opB k p t g x = true) : otB k p t g x = ((spC p == 0) && ((decide (t.size = 0) || (spC t == 0)) && (decide (0 ≤ g ∧ g ≤ 1000) && (wordB x && !(decide (k = 4 ∨ k = 5) && decide (t.size = 0)))))) := by
  have q := opB_iff.1 h
  unfold otB
  rw [h, Bool.true_and]
  have w0 : wordB 0 = true := by decide
  have e1 : ∀ g : Int, decide (0 ≤ g ∧ g < 1001) = decide (0 ≤ g ∧ g ≤ 1000) := fun g => by rw [decide_eq_decide]; omega
  obtain ⟨n, rfl⟩ : ∃ n : Nat, k = (n : Int) := ⟨k.toNat, by omega⟩
  rw [Int.toNat_natCast]
  by_cases ht : t.size = 0
  · have hs := spC_none ht
    rcases (show (n = 1 ∨ n = 2 ∨ n = 3 ∨ n = 4 ∨ n = 5 ∨ n = 9 ∨ n = 10) ∨ n = 6 ∨ n = 7 ∨ n = 8 by omega) with h1 | rfl | rfl | rfl
    · obtain rfl : g = 0 := by omega
      obtain rfl : x = 0 := by omega
      rcases h1 with rfl | rfl | rfl | rfl | rfl | rfl | rfl <;> simp [fdsOf, fdB, ht, hs, w0]
    · simp [fdsOf, fdB, ht, hs, e1]
    · obtain rfl : x = 0 := by omega
      simp [fdsOf, fdB, ht, hs, w0, e1]
    · obtain rfl : x = 0 := by omega
      simp [fdsOf, fdB, ht, hs, w0, e1]
  · rcases (show n = 4 ∨ n = 5 by omega) with rfl | rfl
    all_goals
      obtain rfl : g = 0 := by omega
      obtain rfl : x = 0 := by omega
      simp [fdsOf, fdB, ht, w0]
theorem kwT_size {k : Nat} : (kwT k).size ≤ 6 := by
  have h : ∀ x ∈ kwL, x.size ≤ 6 := by decide
  unfold kwT
  rw [List.getD_eq_getElem?_getD]
  cases e : kwL[k]? with
  | none => decide
  | some x => exact h x (List.mem_of_getElem? e)
set_option maxRecDepth 100000 in
theorem l15Words_any (w : World) : Calls Tryz.prog 13 #[] w fun e w' => ∃ b, e = .returned (.slice (some ⟨b, 0, none⟩) 11 11) ∧ (∀ k, k < 11 → w'.cell? ⟨b, k, none⟩ = some (.string (kwT k))) ∧ Below w.heap.size w w' := by
  have BW : Hid (Below w.heap.size w (w.alloc (.cells #[.string ⟨#[]⟩, .string ⟨#[109, 97, 107, 101]⟩, .string ⟨#[109, 107, 100, 105, 114]⟩, .string ⟨#[114, 101, 109, 111, 118, 101]⟩, .string ⟨#[108, 105, 110, 107]⟩, .string ⟨#[114, 101, 110, 97, 109, 101]⟩, .string ⟨#[119, 114, 105, 116, 101]⟩, .string ⟨#[99, 117, 116]⟩, .string ⟨#[114, 101, 97, 100]⟩, .string ⟨#[115, 116, 97, 116]⟩, .string ⟨#[108, 105, 115, 116]⟩] 9))) := (Below.refl _ _).alloc (Nat.le_refl _) _
  have HC : Hid (∀ k, k < 11 → (w.alloc (.cells #[.string ⟨#[]⟩, .string ⟨#[109, 97, 107, 101]⟩, .string ⟨#[109, 107, 100, 105, 114]⟩, .string ⟨#[114, 101, 109, 111, 118, 101]⟩, .string ⟨#[108, 105, 110, 107]⟩, .string ⟨#[114, 101, 110, 97, 109, 101]⟩, .string ⟨#[119, 114, 105, 116, 101]⟩, .string ⟨#[99, 117, 116]⟩, .string ⟨#[114, 101, 97, 100]⟩, .string ⟨#[115, 116, 97, 116]⟩, .string ⟨#[108, 105, 115, 116]⟩] 9)).cell? ⟨w.heap.size, k, none⟩ = some (.string (kwT k))) := fun k hk => by
    have h : (w.alloc (.cells #[.string ⟨#[]⟩, .string ⟨#[109, 97, 107, 101]⟩, .string ⟨#[109, 107, 100, 105, 114]⟩, .string ⟨#[114, 101, 109, 111, 118, 101]⟩, .string ⟨#[108, 105, 110, 107]⟩, .string ⟨#[114, 101, 110, 97, 109, 101]⟩, .string ⟨#[119, 114, 105, 116, 101]⟩, .string ⟨#[99, 117, 116]⟩, .string ⟨#[114, 101, 97, 100]⟩, .string ⟨#[115, 116, 97, 116]⟩, .string ⟨#[108, 105, 115, 116]⟩] 9)).heap[w.heap.size]? = some (.cells #[.string ⟨#[]⟩, .string ⟨#[109, 97, 107, 101]⟩, .string ⟨#[109, 107, 100, 105, 114]⟩, .string ⟨#[114, 101, 109, 111, 118, 101]⟩, .string ⟨#[108, 105, 110, 107]⟩, .string ⟨#[114, 101, 110, 97, 109, 101]⟩, .string ⟨#[119, 114, 105, 116, 101]⟩, .string ⟨#[99, 117, 116]⟩, .string ⟨#[114, 101, 97, 100]⟩, .string ⟨#[115, 116, 97, 116]⟩, .string ⟨#[108, 105, 115, 116]⟩] 9 (0, 0)) := at_new rfl
    rcases (show k = 0 ∨ k = 1 ∨ k = 2 ∨ k = 3 ∨ k = 4 ∨ k = 5 ∨ k = 6 ∨ k = 7 ∨ k = 8 ∨ k = 9 ∨ k = 10 by omega) with rfl | rfl | rfl | rfl | rfl | rfl | rfl | rfl | rfl | rfl | rfl <;> (simp only [World.cell?, h]; rfl)
  go_enter Tryz.func13, Tryz.ntmps13
  go_wp2
  go_ret
  exact ⟨_, rfl, HC.out, BW.out⟩
end Go.Proofs.YtkchiplcjlgflaaGreatDoor
