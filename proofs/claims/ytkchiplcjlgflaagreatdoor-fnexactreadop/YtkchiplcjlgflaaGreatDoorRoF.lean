/- An operation is read: what the words tell, as facts. -/
import Derived.Test.YtkchiplcjlgflaaGreatDoorRoD
namespace Go.Proofs.YtkchiplcjlgflaaGreatDoor
open Go.RowKit
abbrev wa (ws : List ByteArray) (i : Nat) : ByteArray := ws.getD i ⟨#[]⟩
theorem kdOf_le (s : ByteArray) : kdOf s ≤ 10 := kdTo_le s 11
theorem rd_none {ws : List ByteArray} (h : hrO (kdOf (wa ws 0)) ws = none) : rdW ws = none := by
  unfold rdW
  rw [h]
  rfl
theorem rd_of {ws : List ByteArray} {p t : ByteArray} {g x : Nat} (h : hrO (kdOf (wa ws 0)) ws = some (p, t, g, x)) : rdW ws = if otB (kdOf (wa ws 0)) p t g x = true then some (kdOf (wa ws 0), p, t, g, x) else none := by
  unfold rdW
  rw [h]
  rfl
theorem ot_path {k : Int} {p t : ByteArray} {g x : Int} (h : (spC p == 0) = false) : otB k p t g x = false := by
  cases q : opB k p t g x with
  | false => unfold otB; rw [q]; rfl
  | true => rw [ot_of q, h]; rfl
theorem hr_path {k : Nat} {ws : List ByteArray} {p t : ByteArray} {g x : Nat} (h : hrO k ws = some (p, t, g, x)) : p = wa ws 1 := by
  unfold hrO at h
  split at h
  · cases h
  split at h
  · split at h
    · injection h with h; injection h with h _; exact h.symm
    · cases h
  split at h
  · split at h
    · cases e1 : numP (ws.getD 2 ⟨#[]⟩) with
      | none => rw [e1] at h; cases h
      | some a =>
        cases e2 : numP (ws.getD 3 ⟨#[]⟩) with
        | none => rw [e1, e2] at h; cases h
        | some b => rw [e1, e2] at h; injection h with h; injection h with h _; exact h.symm
    · cases h
  split at h
  · split at h
    · cases e1 : numP (ws.getD 2 ⟨#[]⟩) with
      | none => rw [e1] at h; cases h
      | some a => rw [e1] at h; injection h with h; injection h with h _; exact h.symm
    · cases h
  split at h
  · injection h with h; injection h with h _; exact h.symm
  · cases h
theorem rd_path {ws : List ByteArray} (h : (spC (wa ws 1) == 0) = false) : rdW ws = none := by
  cases e : hrO (kdOf (wa ws 0)) ws with
  | none => exact rd_none e
  | some r =>
    obtain ⟨p, t, g, x⟩ := r
    rw [rd_of e, hr_path e, ot_path h]
    rfl
theorem rd_zero {ws : List ByteArray} (h : kdOf (wa ws 0) = 0) : rdW ws = none := rd_none (by unfold hrO; rw [if_pos h])
theorem hr_link {k : Nat} {ws : List ByteArray} (h : k = 4 ∨ k = 5) : hrO k ws = if ws.length = 3 then some (wa ws 1, wa ws 2, 0, 0) else none := by
  unfold hrO
  rw [if_neg (by omega), if_pos h]
theorem hr_write {k : Nat} {ws : List ByteArray} (h : k = 6) : hrO k ws = if ws.length = 4 then (numP (wa ws 2)).bind fun g => (numP (wa ws 3)).map fun x => (wa ws 1, ⟨#[]⟩, g, x) else none := by
  unfold hrO
  rw [if_neg (by omega), if_neg (by omega), if_pos h]
theorem hr_page {k : Nat} {ws : List ByteArray} (h : k = 7 ∨ k = 8) : hrO k ws = if ws.length = 3 then (numP (wa ws 2)).map fun g => (wa ws 1, ⟨#[]⟩, g, 0) else none := by
  unfold hrO
  rw [if_neg (by omega), if_neg (by omega), if_neg (by omega), if_pos h]
theorem hr_else {k : Nat} {ws : List ByteArray} (h0 : k ≠ 0) (h1 : ¬ (k = 4 ∨ k = 5)) (h2 : ¬ k = 6) (h3 : ¬ (k = 7 ∨ k = 8)) : hrO k ws = if ws.length = 2 then some (wa ws 1, ⟨#[]⟩, 0, 0) else none := by
  unfold hrO
  rw [if_neg h0, if_neg h1, if_neg h2, if_neg h3]
theorem rd_badnum {ws : List ByteArray} {j : Nat} (hk : ¬ (kdOf (wa ws 0) = 4 ∨ kdOf (wa ws 0) = 5)) (h2 : 2 ≤ j) (hj : j < ws.length) (h : numP (wa ws j) = none) : rdW ws = none := by
  apply rd_none
  by_cases k0 : kdOf (wa ws 0) = 0
  · unfold hrO; rw [if_pos k0]
  by_cases k6 : kdOf (wa ws 0) = 6
  · rw [hr_write k6]
    split
    · rcases (show j = 2 ∨ j = 3 by omega) with rfl | rfl
      · rw [h]; rfl
      · rw [h]; cases numP (wa ws 2) <;> rfl
    · rfl
  by_cases k7 : kdOf (wa ws 0) = 7 ∨ kdOf (wa ws 0) = 8
  · rw [hr_page k7]
    split
    · obtain rfl : j = 2 := by omega
      rw [h]; rfl
    · rfl
  rw [hr_else k0 hk k6 k7, if_neg (by omega)]
theorem rd_linkn {ws : List ByteArray} (hk : kdOf (wa ws 0) = 4 ∨ kdOf (wa ws 0) = 5) (h : ws.length ≠ 3) : rdW ws = none := rd_none (by rw [hr_link hk, if_neg h])
theorem rd_linkb {ws : List ByteArray} (hk : kdOf (wa ws 0) = 4 ∨ kdOf (wa ws 0) = 5) (h : (spC (wa ws 2) == 0) = false) : rdW ws = none := by
  by_cases hl : ws.length = 3
  · rw [rd_of (by rw [hr_link hk, if_pos hl])]
    have q : otB (kdOf (wa ws 0)) (wa ws 1) (wa ws 2) ((0 : Nat) : Int) ((0 : Nat) : Int) = false := by
      cases q : opB (kdOf (wa ws 0)) (wa ws 1) (wa ws 2) ((0 : Nat) : Int) ((0 : Nat) : Int) with
      | false => unfold otB; rw [q]; rfl
      | true =>
        rw [ot_of q, h]
        by_cases z : (wa ws 2).size = 0
        · have e : ((kdOf (wa ws 0) : Nat) : Int) = 4 ∨ ((kdOf (wa ws 0) : Nat) : Int) = 5 := by omega
          rw [decide_eq_true e, decide_eq_true z]
          simp
        · rw [decide_eq_false z]
          simp
    rw [q]
    rfl
  · exact rd_linkn hk hl
theorem rd_link {ws : List ByteArray} (hk : kdOf (wa ws 0) = 4 ∨ kdOf (wa ws 0) = 5) (hl : ws.length = 3) (hs : ∀ i, (wa ws i).size ≤ 65536) (h1 : (spC (wa ws 1) == 0) = true) (h2 : (spC (wa ws 2) == 0) = true) : rdW ws = some (kdOf (wa ws 0), wa ws 1, wa ws 2, 0, 0) := by
  rw [rd_of (by rw [hr_link hk, if_pos hl])]
  have z : ¬ (wa ws 2).size = 0 := fun z => by rw [spC_none z] at h2; cases h2
  have w0 : wordB ((0 : Nat) : Int) = true := by decide
  have q : opB (kdOf (wa ws 0)) (wa ws 1) (wa ws 2) ((0 : Nat) : Int) ((0 : Nat) : Int) = true := opB_iff.2 ⟨⟨by omega, by omega⟩, hs 1, hs 2, by omega, by omega, by omega⟩
  rw [ot_of q, h1, h2, w0, decide_eq_false z]
  simp
theorem rd_writen {ws : List ByteArray} (hk : kdOf (wa ws 0) = 6) (h : ws.length ≠ 4) : rdW ws = none := rd_none (by rw [hr_write hk, if_neg h])
theorem rd_write {ws : List ByteArray} {g x : Nat} (hk : kdOf (wa ws 0) = 6) (hl : ws.length = 4) (hs : ∀ i, (wa ws i).size ≤ 65536) (h1 : (spC (wa ws 1) == 0) = true) (hg : numP (wa ws 2) = some g) (hx : numP (wa ws 3) = some x) : rdW ws = if wordB (x : Int) = true ∧ g ≤ 1000 then some (kdOf (wa ws 0), wa ws 1, ⟨#[]⟩, g, x) else none := by
  rw [rd_of (p := wa ws 1) (t := ⟨#[]⟩) (g := g) (x := x) (by rw [hr_write hk, if_pos hl, hg, hx]; rfl)]
  have q : opB (kdOf (wa ws 0)) (wa ws 1) ⟨#[]⟩ (g : Int) (x : Int) = true := opB_iff.2 ⟨⟨by omega, by omega⟩, hs 1, by decide, .inr (.inr rfl), by omega, by omega⟩
  rw [ot_of q, h1, hk]
  have e : decide (0 ≤ (g : Int) ∧ (g : Int) ≤ 1000) = decide (g ≤ 1000) := by rw [decide_eq_decide]; omega
  have zz : decide ((⟨#[]⟩ : ByteArray).size = 0) = true := rfl
  rw [e, zz]
  cases wordB (x : Int) <;> by_cases c : g ≤ 1000 <;> simp [c]
theorem rd_pagen {ws : List ByteArray} (hk : kdOf (wa ws 0) = 7 ∨ kdOf (wa ws 0) = 8) (h : ws.length ≠ 3) : rdW ws = none := rd_none (by rw [hr_page hk, if_neg h])
theorem rd_page {ws : List ByteArray} {g : Nat} (hk : kdOf (wa ws 0) = 7 ∨ kdOf (wa ws 0) = 8) (hl : ws.length = 3) (hs : ∀ i, (wa ws i).size ≤ 65536) (h1 : (spC (wa ws 1) == 0) = true) (hg : numP (wa ws 2) = some g) : rdW ws = if g ≤ 1000 then some (kdOf (wa ws 0), wa ws 1, ⟨#[]⟩, g, 0) else none := by
  rw [rd_of (p := wa ws 1) (t := ⟨#[]⟩) (g := g) (x := 0) (by rw [hr_page hk, if_pos hl, hg]; rfl)]
  have q : opB (kdOf (wa ws 0)) (wa ws 1) ⟨#[]⟩ (g : Int) ((0 : Nat) : Int) = true := opB_iff.2 ⟨⟨by omega, by omega⟩, hs 1, by decide, .inr (.inr rfl), by omega, by omega⟩
  have w0 : wordB ((0 : Nat) : Int) = true := by decide
  have e : decide (0 ≤ (g : Int) ∧ (g : Int) ≤ 1000) = decide (g ≤ 1000) := by rw [decide_eq_decide]; omega
  have e4 : decide (((kdOf (wa ws 0) : Nat) : Int) = 4 ∨ ((kdOf (wa ws 0) : Nat) : Int) = 5) = false := by rw [decide_eq_false_iff_not]; omega
  have zz : decide ((⟨#[]⟩ : ByteArray).size = 0) = true := rfl
  rw [ot_of q, h1, w0, e, e4, zz]
  by_cases c : g ≤ 1000 <;> simp [c]
theorem rd_plainn {ws : List ByteArray} (h0 : kdOf (wa ws 0) ≠ 0) (h1 : ¬ (kdOf (wa ws 0) = 4 ∨ kdOf (wa ws 0) = 5)) (h2 : ¬ kdOf (wa ws 0) = 6) (h3 : ¬ (kdOf (wa ws 0) = 7 ∨ kdOf (wa ws 0) = 8)) (h : ws.length ≠ 2) : rdW ws = none := rd_none (by rw [hr_else h0 h1 h2 h3, if_neg h])
theorem rd_plain {ws : List ByteArray} (h0 : kdOf (wa ws 0) ≠ 0) (h1 : ¬ (kdOf (wa ws 0) = 4 ∨ kdOf (wa ws 0) = 5)) (h2 : ¬ kdOf (wa ws 0) = 6) (h3 : ¬ (kdOf (wa ws 0) = 7 ∨ kdOf (wa ws 0) = 8)) (h : ws.length = 2) (hs : ∀ i, (wa ws i).size ≤ 65536) (hp : (spC (wa ws 1) == 0) = true) : rdW ws = some (kdOf (wa ws 0), wa ws 1, ⟨#[]⟩, 0, 0) := by
  rw [rd_of (p := wa ws 1) (t := ⟨#[]⟩) (g := 0) (x := 0) (by rw [hr_else h0 h1 h2 h3, if_pos h])]
  have hk := kdOf_le (wa ws 0)
  have q : opB (kdOf (wa ws 0)) (wa ws 1) ⟨#[]⟩ ((0 : Nat) : Int) ((0 : Nat) : Int) = true := opB_iff.2 ⟨⟨by omega, by omega⟩, hs 1, by decide, .inr (.inr rfl), by omega, by omega⟩
  have w0 : wordB ((0 : Nat) : Int) = true := by decide
  have e4 : decide (((kdOf (wa ws 0) : Nat) : Int) = 4 ∨ ((kdOf (wa ws 0) : Nat) : Int) = 5) = false := by rw [decide_eq_false_iff_not]; omega
  have zz : decide ((⟨#[]⟩ : ByteArray).size = 0) = true := rfl
  rw [ot_of q, hp, w0, e4, zz]
  simp
end Go.Proofs.YtkchiplcjlgflaaGreatDoor
