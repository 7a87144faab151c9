/- Several texts laid together: CrashI, DrawP, OpenA. -/
import Derived.Test.YtbjalmiheipjjaaDoorCrash
import Derived.Test.YtbjalmiheipjjaaDoorZAH
import Derived.BigRegion
import Derived.Deep.RegionLaw
import Derived.Test.YtbjalmiheipjjaaDoorZAQ
import Derived.Test.YtbjalmiheipjjaaDoorZAK
import Derived.Test.YtbjalmiheipjjaaDoorZAI
import Derived.Deep.RegionWith
import Derived.Test.YtbjalmiheipjjaaDoorZAB
import Derived.ProofKit
import Derived.OpenShut
import Derived.ShutString
import Derived.ChangeOld
import Derived.Lib.SmallJoins
import Derived.Deep.Slices
import Derived.Deep.Strs
namespace Go.Proofs.YtbjalmiheipjjaaDoor
open Go.RowKit
def crashC (ws : List Int) (ps : List St) (zs : List Int) : Int := if 4096 < zs.length then 2 else if pmB ws ps = true then if keepsB zs = true then 0 else 4 else 1
def crashWs (ws : List Int) (ps : List St) (zs : List Int) : List Int := if crashC ws ps zs = 0 then spW (unsN ps 336) zs ps ws (unsN ps 336).length else []
theorem crash_cases (ws : List Int) (ps : List St) (zs : List Int) :
    (4096 < zs.length ∧ crashC ws ps zs = 2 ∧ crashWs ws ps zs = []) ∨
    (¬ 4096 < zs.length ∧ pmB ws ps = false ∧ crashC ws ps zs = 1 ∧ crashWs ws ps zs = []) ∨
    (¬ 4096 < zs.length ∧ pmB ws ps = true ∧ keepsB zs = false ∧ crashC ws ps zs = 4 ∧ crashWs ws ps zs = []) ∨
    (¬ 4096 < zs.length ∧ pmB ws ps = true ∧ keepsB zs = true ∧ crashC ws ps zs = 0 ∧ crashWs ws ps zs = spW (unsN ps 336) zs ps ws (unsN ps 336).length) := by
  by_cases c1 : 4096 < zs.length
  · have e : crashC ws ps zs = 2 := by unfold crashC; rw [if_pos c1]
    exact .inl ⟨c1, e, by unfold crashWs; rw [e]; rfl⟩
  · by_cases c2 : pmB ws ps = true
    · by_cases c3 : keepsB zs = true
      · have e : crashC ws ps zs = 0 := by unfold crashC; rw [if_neg c1, if_pos c2, if_pos c3]
        exact .inr (.inr (.inr ⟨c1, c2, c3, e, by unfold crashWs; rw [if_pos e]⟩))
      · have e : crashC ws ps zs = 4 := by unfold crashC; rw [if_neg c1, if_pos c2, if_neg c3]
        exact .inr (.inr (.inl ⟨c1, c2, by simpa using c3, e, by unfold crashWs; rw [e]; rfl⟩))
    · have e : crashC ws ps zs = 1 := by unfold crashC; rw [if_neg c1, if_neg c2]
      exact .inr (.inl ⟨c1, by simpa using c2, e, by unfold crashWs; rw [e]; rfl⟩)
end Go.Proofs.YtbjalmiheipjjaaDoor

namespace Go.Proofs.YtbjalmiheipjjaaDoor
open Go.RowKit
theorem RdPm.away {w w' : World} {b : Nat} {v : Value} {ws : List Int} {ps : List St} {cs : Array Value} {t : TypeId} {fr : Nat × Nat} (h : RdPm w v ws ps) (hl : ws.length = 336) (hb : w.heap[b]? = some (.cells cs t fr)) (hcs : ∀ o f, cs[o + 3]? = none ∧ ¬ cs[o + 2]? = some (.bool f)) (hz : w.heap.size ≤ w'.heap.size) (ho : ∀ j, j < w.heap.size → ¬ j = b → w'.heap[j]? = w.heap[j]?) : RdPm w' v ws ps := by
  obtain ⟨vW, vP, rfl, h1, h2⟩ := h
  refine ⟨vW, vP, rfl, h1.same hz (fun j hj he => ho j hj (fun e => ?_)), ?_⟩
  · subst e
    obtain ⟨_, ao, cap, rfl, _, hc⟩ := h1
    obtain ⟨b', o, rfl, _, hc⟩ := hc (by omega)
    simp only [Value.ownBlock, Option.some.injEq] at he
    subst he
    have := hc 3 (by omega)
    rw [ints_at ws 3 (by omega)] at this
    simp only [World.cell?, hb] at this
    have e := (hcs o true).1
    simp_all
  · by_cases hp : 0 < ps.length
    · refine h2.same hz (fun j hj he => ho j hj (fun e => ?_))
      subst e
      obtain ⟨_, ao, cap, rfl, _, hc⟩ := h2
      obtain ⟨b', o, rfl, _, hc⟩ := hc hp
      simp only [Value.ownBlock, Option.some.injEq] at he
      subst he
      have := hc 2 (by omega)
      rw [show (2 : Nat) = 0 * 3 + 2 by omega, sts_at2 ps 0 hp] at this
      simp only [World.cell?, hb] at this
      have e := (hcs o ps[0].fl).2
      simp_all
    · obtain ⟨h3, ao, cap, rfl, h4, _⟩ := h2
      exact ⟨h3, ao, cap, rfl, h4, fun h => absurd h hp⟩
theorem RdPm.boxed {w w' : World} {b : Nat} {v x y : Value} {ws : List Int} {ps : List St} {t : TypeId} {fr : Nat × Nat} (h : RdPm w v ws ps) (hl : ws.length = 336) (hb : w.heap[b]? = some (.cells #[x, y] t fr)) (hz : w.heap.size ≤ w'.heap.size) (ho : ∀ j, j < w.heap.size → ¬ j = b → w'.heap[j]? = w.heap[j]?) : RdPm w' v ws ps :=
  h.away hl hb (fun o f => ⟨by simp, by simp⟩) hz ho
def nought336 : Array Value := (List.replicate 336 (Value.int .i64 0)).toArray
theorem made336 : madeCells #[Value.int .i64 0] (336 * 1) = nought336 := by kernel_rfl
theorem run_make336 (w : World) : (Instr.makeSlice 28 (.int .i64 336) (.int .i64 336)).run Tryd.prog w = .ok (.slice (some ⟨w.heap.size, 0, none⟩) 336 336) (w.alloc (.cells nought336 3)) := by
  rw [← made336]
  exact run_make_rows (P := Tryd.prog) 28 3 (.int .i64 0) 1 8 Tryd.underlying28 info3 .i64 .i64 336 (by decide) (by decide) w
theorem len336 : (List.replicate 336 (0 : Int)).length = 336 := List.length_replicate ..
end Go.Proofs.YtbjalmiheipjjaaDoor

namespace Go.Proofs.YtbjalmiheipjjaaDoor
open Go.ChangeShapes Go.WideShapes Go.ChangeAt Go.RowKit Go.Joins
theorem own : ownKnob Tryd.prog.godebug = none := by kernel_rfl
theorem laidOut : laidOutB Tryd.prog = true := by kernel_rfl
section
variable {H : Type} {enc : TypeId × Value → H} {W : World} {sp : Nat → Bool} {held : Bool} {fuel : Nat} {v : Value} {y : DataW H × List MemPlace}
end
end Go.Proofs.YtbjalmiheipjjaaDoor
