/- The journal's count: by the model. -/
import Derived.Test.YtenadnlgjobmdabDoorPmLoad
namespace Go.Proofs.YtenadnlgjobmdabDoor
open Go.RowKit

/-- A word as it is loaded. -/
def ldW (ws : List Int) (ps : List St) (k : Nat) : Int := lastW (k : Int) (ws[k]?.getD 0) ps
theorem ldW_at {ws : List Int} {ps : List St} {k : Nat} (h : k < ws.length) : ldW ws ps k = lastW (k : Int) ws[k] ps := by unfold ldW; simp [h]
theorem pm_len {ws : List Int} {ps : List St} (h : pmB ws ps = true) : ws.length = 336 := (pmB_len h).1

set_option maxRecDepth 100000 in
set_option maxHeartbeats 2000000 in
theorem l04Count_any (v : Value) (ws : List Int) (ps : List St) (w : World) (h : RdPm w v ws ps) (hw : ws.length ≤ 1048576) (hp : ps.length ≤ 1048576) (ha : 8 < ws.length) :
    Calls Tryd.prog 44 #[v] w fun e w' => e = .returned (.int .i64 (ldW ws ps 8)) ∧ Below w.heap.size w w' := by
  have HR := hideIt h
  obtain ⟨vW, vP, rfl, h1, h2⟩ := h
  obtain ⟨aW, cW, rfl, _⟩ := h1.shape
  obtain ⟨aP, cP, rfl, _⟩ := h2.shape
  clear h1 h2
  have hb0 : Below w.heap.size w (w.alloc (.cells #[.slice aW ws.length cW, .slice aP ps.length cP] 31)) := (Below.refl _ _).alloc (Nat.le_refl _) _
  rw [ldW_at ha]
  go_enter Tryd.func44, Tryd.ntmps44
  go_wp2_with fail
  refine (l01Load_any _ ws ps 8 _ (HR.out.below hb0) hw hp ha).mono ?_
  rintro e w2 ⟨rfl, hb2⟩
  go_wp2
  go_ret
  exact ⟨rfl, below_trans hb0 hb2 (by simp)⟩

def jcC (ws : List Int) (ps : List St) : Int := if pmB ws ps = false then 1 else if 16 < ldW ws ps 8 then 3 else 0
def jcV (ws : List Int) (ps : List St) : Int := if jcC ws ps = 0 then ldW ws ps 8 else 0
theorem jc_cases (ws : List Int) (ps : List St) : (pmB ws ps = false ∧ jcC ws ps = 1 ∧ jcV ws ps = 0) ∨ (pmB ws ps = true ∧ 16 < ldW ws ps 8 ∧ jcC ws ps = 3 ∧ jcV ws ps = 0) ∨ (pmB ws ps = true ∧ ¬ 16 < ldW ws ps 8 ∧ jcC ws ps = 0 ∧ jcV ws ps = ldW ws ps 8) := by
  by_cases c1 : pmB ws ps = true
  · by_cases c2 : 16 < ldW ws ps 8
    · have e : jcC ws ps = 3 := by unfold jcC; rw [if_neg (by rw [c1]; simp), if_pos c2]
      exact .inr (.inl ⟨c1, c2, e, by unfold jcV; rw [e]; rfl⟩)
    · have e : jcC ws ps = 0 := by unfold jcC; rw [if_neg (by rw [c1]; simp), if_neg c2]
      exact .inr (.inr ⟨c1, c2, e, by unfold jcV; rw [e]; rfl⟩)
  · have c : pmB ws ps = false := by simpa using c1
    have e : jcC ws ps = 1 := by unfold jcC; rw [if_pos c]
    exact .inl ⟨c, e, by unfold jcV; rw [e]; rfl⟩

end Go.Proofs.YtenadnlgjobmdabDoor
