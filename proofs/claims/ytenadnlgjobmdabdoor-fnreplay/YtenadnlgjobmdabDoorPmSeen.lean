/- All words as they are loaded: by the program, and by the model. -/
import Derived.Test.YtenadnlgjobmdabDoorSmall
namespace Go.Proofs.YtenadnlgjobmdabDoor
open Go.RowKit


/-- The words with the stores laid one after the other. -/
def layW (ws : List Int) (ps : List St) : List Int := ps.foldl (fun acc p => acc.set p.at_.toNat p.val) ws
theorem layW_snoc (ws : List Int) (ps : List St) (p : St) : layW ws (ps ++ [p]) = (layW ws ps).set p.at_.toNat p.val := by simp [layW]
theorem layW_len (ws : List Int) : ∀ ps : List St, (layW ws ps).length = ws.length := by
  intro ps
  unfold layW
  induction ps generalizing ws with
  | nil => rfl
  | cons p ps ih => rw [List.foldl_cons, ih]; simp
theorem layW_at : ∀ (ps : List St) (ws : List Int) (k : Nat) (hk : k < ws.length) (_ : ∀ p ∈ ps, 0 ≤ p.at_) (hk' : k < (layW ws ps).length), (layW ws ps)[k] = lastW (k : Int) ws[k] ps
  | [], ws, k, hk, _, _ => rfl
  | p :: ps, ws, k, hk, h0, hk' => by
    have hk2 : k < (ws.set p.at_.toNat p.val).length := by simpa using hk
    have := layW_at ps (ws.set p.at_.toNat p.val) k hk2 (fun q hq => h0 q (by simp [hq])) hk'
    show (layW (ws.set p.at_.toNat p.val) ps)[k] = lastW (k : Int) (if p.at_ = (k : Int) then p.val else ws[k]) ps
    rw [this, List.getElem_set]
    have hp := h0 p (by simp)
    by_cases e : p.at_ = (k : Int)
    · rw [if_pos (by omega), if_pos e]
    · rw [if_neg (by omega), if_neg e]

def seenC (ws : List Int) (ps : List St) : Int := if pmB ws ps = true then 0 else 1
def seenZ (ws : List Int) (ps : List St) : List Int := if pmB ws ps = true then layW ws ps else []
theorem seenZ_len (ws : List Int) (ps : List St) : (seenZ ws ps).length ≤ ws.length := by
  unfold seenZ
  split
  · rw [layW_len]; exact Nat.le_refl _
  · simp
theorem seen_not {ws : List Int} {ps : List St} (h : pmB ws ps = false) : seenC ws ps = 1 ∧ seenZ ws ps = [] := by
  unfold seenC seenZ
  rw [h]
  exact ⟨rfl, rfl⟩
theorem seen_ok {ws : List Int} {ps : List St} (h : pmB ws ps = true) : seenC ws ps = 0 ∧ seenZ ws ps = layW ws ps := by
  unfold seenC seenZ
  rw [h]
  exact ⟨rfl, rfl⟩

end Go.Proofs.YtenadnlgjobmdabDoor
