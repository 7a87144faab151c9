/- What stands beneath what: mathematics, and facts of an image that is right. -/
import Derived.Test.YtpgdpachomdfhaaGreatDoorImP
namespace Go.Proofs.YtpgdpachomdfhaaGreatDoor
open Go.RowKit

/-- One stands in another, or is it, within n steps up. -/
def benN (ps : List Den) : Nat → Int → Int → Bool
  | 0, _, _ => false
  | n + 1, a, b => if a < 0 then false else if a = b then true else benN ps n (upD ps a) b
theorem benN_succ (ps : List Den) (n : Nat) (a b : Int) : benN ps (n + 1) a b = if a < 0 then false else if a = b then true else benN ps n (upD ps a) b := rfl
theorem benN_neg (ps : List Den) : ∀ (n : Nat) (a b : Int), a < 0 → benN ps n a b = false
  | 0, _, _, _ => rfl
  | n + 1, a, b, h => by rw [benN_succ, if_pos h]
theorem hangs_succ (ps : List Den) (n : Nat) (d : Int) : hangs ps (n + 1) d = if d = 0 then true else if upD ps d < 0 then false else hangs ps n (upD ps d) := rfl
theorem hangs_none (ps : List Den) (d : Int) : hangs ps 0 d = false := rfl
theorem hangs_mono {ps : List Den} : ∀ (k : Nat) (x : Int), hangs ps k x = true → hangs ps (k + 1) x = true
  | 0, x, h => by rw [hangs_none] at h; cases h
  | k + 1, x, h => by
    rw [hangs_succ] at h ⊢
    by_cases q : x = 0
    · rw [if_pos q]
    · rw [if_neg q] at h ⊢
      by_cases r : upD ps x < 0
      · rw [if_pos r] at h; cases h
      · rw [if_neg r] at h ⊢; exact hangs_mono k _ h
theorem ben_fuel {ps : List Den} (u0 : upD ps 0 = -1) : ∀ (k n : Nat) (a b : Int), hangs ps k a = true → 0 ≤ a → k ≤ n → benN ps n a b = benN ps k a b
  | 0, _, _, _, h, _, _ => by rw [hangs_none] at h; cases h
  | k + 1, 0, _, _, _, _, hn => absurd hn (by omega)
  | k + 1, n + 1, a, b, h, ha, hn => by
    have n0 : ¬ a < 0 := by omega
    rw [benN_succ, benN_succ, if_neg n0, if_neg n0]
    by_cases q : a = b
    · rw [if_pos q, if_pos q]
    · rw [if_neg q, if_neg q]
      rw [hangs_succ] at h
      by_cases r : a = 0
      · subst r
        rw [u0, benN_neg ps n (-1) b (by omega), benN_neg ps k (-1) b (by omega)]
      · rw [if_neg r] at h
        by_cases s : upD ps a < 0
        · rw [if_pos s] at h; cases h
        · rw [if_neg s] at h
          exact ben_fuel u0 k n _ _ h (by omega) (by omega)
theorem hang_step {ps : List Den} {k : Nat} {x : Int} (h : hangs ps (k + 1) x = true) (q : ¬ x = 0) : 0 ≤ upD ps x ∧ hangs ps k (upD ps x) = true := by
  rw [hangs_succ, if_neg q] at h
  by_cases r : upD ps x < 0
  · rw [if_pos r] at h; cases h
  · rw [if_neg r] at h; exact ⟨by omega, h⟩
theorem pimg_all {ws : List Ino} {ps : List Den} (h : imgB ws ps = true) : ws.length = 16 ∧ ps.length = 24 ∧ kindAt ws 0 = 2 ∧ okNs ws = true ∧ entsB ws ps = true ∧ linksB ws ps = true ∧ singB ws = true := by
  unfold imgB at h
  simp only [Bool.and_eq_true, decide_eq_true_eq, beq_iff_eq] at h
  exact h
theorem pimg_ent {ws : List Ino} {ps : List Den} (h : imgB ws ps = true) (i : Nat) (hi : i < ps.length) : (ps[i].child = -1 ∧ ps[i].name.size = 0) ∨ ((1 ≤ ps[i].child ∧ ps[i].child ≤ 15) ∧ (0 ≤ ps[i].dir ∧ ps[i].dir ≤ 15) ∧ nmB ps[i].name = true ∧ ¬ kindAt ws ps[i].child = 0 ∧ kindAt ws ps[i].dir = 2) := by
  obtain ⟨_, _, _, _, he, _, _⟩ := pimg_all h
  have e := (of_decide_eq_true he : ∀ i (h : i < ps.length), entOne ws ps i ps[i] = true) i hi
  unfold entOne at e
  split at e
  · rename_i c
    left
    refine ⟨c, ?_⟩
    unfold Den.freeB at e
    simp only [Bool.and_eq_true, beq_iff_eq] at e
    have := e.2.1
    first
      | exact this
      | simpa using this
      | (simp at this; rw [this]; rfl)
  · right
    simp only [Bool.and_eq_true, decide_eq_true_eq, Bool.not_eq_true', beq_eq_false_iff_ne, beq_iff_eq] at e
    exact ⟨e.1, e.2.1, e.2.2.1, e.2.2.2.1, e.2.2.2.2.1⟩
theorem pimg_root {ws : List Ino} {ps : List Den} (h : imgB ws ps = true) : upD ps 0 = -1 := by
  apply upD_no
  intro j hj e
  rcases pimg_ent h j hj with q | q
  · omega
  · omega
theorem pimg_hangs {ws : List Ino} {ps : List Den} (h : imgB ws ps = true) {i : Int} (h0 : 0 ≤ i ∧ i ≤ 15) (hk : kindAt ws i = 2) : hangs ps 16 i = true := by
  obtain ⟨hl, _, _, _, _, hL, _⟩ := pimg_all h
  obtain ⟨n, rfl⟩ : ∃ n : Nat, i = (n : Int) := ⟨i.toNat, by omega⟩
  have hn : n < ws.length := by omega
  have := (of_decide_eq_true hL : ∀ i (h : i < ws.length), linkB ps i ws[i] = true) n hn
  unfold linkB at this
  rw [kindAt_of hn] at hk
  simp only [Bool.and_eq_true, Bool.or_eq_true, decide_eq_true_eq] at this
  rcases this.2 with q | q
  · exact absurd hk q
  · exact q

/-- What Beneath answers. -/
def beC (ws : List Ino) (ps : List Den) (a b : Int) : Int := if imgB ws ps = true then (if (0 ≤ a ∧ a ≤ 15) ∧ (0 ≤ b ∧ b ≤ 15) then (if kindAt ws a = 2 ∧ kindAt ws b = 2 then 0 else 10) else 4) else 1
def beV (ws : List Ino) (ps : List Den) (a b : Int) : Bool := if beC ws ps a b = 0 then benN ps 17 a b else false
end Go.Proofs.YtpgdpachomdfhaaGreatDoor
