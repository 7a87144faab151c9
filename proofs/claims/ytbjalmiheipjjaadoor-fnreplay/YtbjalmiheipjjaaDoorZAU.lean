/- Several texts laid together: PmSeen, PmUnsure. -/
import Derived.Test.YtbjalmiheipjjaaDoorZAI
namespace Go.Proofs.YtbjalmiheipjjaaDoor
open Go.RowKit
def layW (ws : List Int) (ps : List St) : List Int := ps.foldl (fun acc p => acc.set p.at_.toNat p.val) ws
theorem layW_len (ws : List Int) : ∀ ps : List St, (layW ws ps).length = ws.length := by
  intro ps
  unfold layW
  induction ps generalizing ws with
  | nil => rfl
  | cons p ps ih => rw [List.foldl_cons, ih]; simp
theorem layW_at : ∀ (ps : List St) (ws : List Int) (k : Nat) (hk : k < ws.length) (_ : ∀ p ∈ ps, 0 ≤ p.at_) (hk' : k < (layW ws ps).length), (layW ws ps)[k] = lastW (k : Int) ws[k] ps
  | [], ws, k, hk, _, _ => rfl
  | p :: ps, ws, k, hk, h0, hk' => by
    have hk2 : k < (ws.set p.at_.toNat p.val).length := by simpa using hk
    have := layW_at ps (ws.set p.at_.toNat p.val) k hk2 (fun q hq => h0 q (by simp [hq])) hk'
    show (layW (ws.set p.at_.toNat p.val) ps)[k] = lastW (k : Int) (if p.at_ = (k : Int) then p.val else ws[k]) ps
    rw [this, List.getElem_set]
    have hp := h0 p (by simp)
    by_cases e : p.at_ = (k : Int)
    · rw [if_pos (by omega), if_pos e]
    · rw [if_neg (by omega), if_neg e]
def seenC (ws : List Int) (ps : List St) : Int := if pmB ws ps = true then 0 else 1
end Go.Proofs.YtbjalmiheipjjaaDoor

namespace Go.Proofs.YtbjalmiheipjjaaDoor
open Go.RowKit
def hasAt (ps : List St) (k : Nat) : Bool := ps.any (fun p => p.at_ == (k : Int))
def unsN (ps : List St) (m : Nat) : List Nat := (List.range m).filter (hasAt ps)
def unsL (ps : List St) (m : Nat) : List Int := (unsN ps m).map (fun (k : Nat) => (k : Int))
theorem unsN_succ (ps : List St) (m : Nat) : unsN ps (m + 1) = if hasAt ps m = true then unsN ps m ++ [m] else unsN ps m := by
  unfold unsN
  rw [List.range_succ, List.filter_append]
  by_cases h : hasAt ps m = true
  · rw [if_pos h]; simp [h]
  · rw [if_neg h]; simp [h]
theorem unsL_hit {ps : List St} {m : Nat} (h : hasAt ps m = true) : unsL ps (m + 1) = unsL ps m ++ [(m : Int)] := by
  unfold unsL
  rw [unsN_succ, if_pos h, List.map_append]
  rfl
theorem unsL_miss {ps : List St} {m : Nat} (h : hasAt ps m = false) : unsL ps (m + 1) = unsL ps m := by
  unfold unsL
  rw [unsN_succ, if_neg (by rw [h]; simp)]
theorem unsL_le (ps : List St) (m : Nat) : (unsL ps m).length ≤ m := by
  unfold unsL unsN
  rw [List.length_map]
  have := List.length_filter_le (hasAt ps) (List.range m)
  simpa using this
def unsZ (ws : List Int) (ps : List St) : List Int := if pmB ws ps = true then unsL ps 336 else []
theorem uns_not {ws : List Int} {ps : List St} (h : pmB ws ps = false) : seenC ws ps = 1 ∧ unsZ ws ps = [] := by
  unfold seenC unsZ
  rw [h]
  exact ⟨rfl, rfl⟩
theorem uns_ok {ws : List Int} {ps : List St} (h : pmB ws ps = true) : seenC ws ps = 0 ∧ unsZ ws ps = unsL ps 336 := by
  unfold seenC unsZ
  rw [h]
  exact ⟨rfl, rfl⟩
end Go.Proofs.YtbjalmiheipjjaaDoor
