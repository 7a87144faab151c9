/- Several texts laid together: JrC, PlO, RdB, JrR, JrJ. -/
import Derived.Test.YtlkmnpanddchdaaZAQ
import Derived.Test.YtlkmnpanddchdaaZAU
import Derived.Test.YtlkmnpanddchdaaZAZ
import Derived.Test.YtlkmnpanddchdaaZAT
import Derived.Test.YtlkmnpanddchdaaZAO
import Derived.Test.YtlkmnpanddchdaaWord
import Derived.Test.YtlkmnpanddchdaaMem
import Derived.Deep.RegionHeld3
import Derived.Maps.Views
import Derived.Deep.LoopGhost
import Derived.Deep.RegionLaw
import Derived.Laws.CopyRow
import Derived.Laws.CopyOwn
import Derived.Laws.Cover3
import Derived.Laws.OwnMore
import Derived.Lib.SplitLaws
import Derived.Lib.IndexBytes
import Derived.Laws.IdiomStrings
import Derived.Laws.BytesArg
import Derived.Deep.OwnRows
import Derived.WalkKit
import Derived.BigQuiet
import Derived.Sort.Walk0
import Derived.Laws.Cover1
import Derived.Deep.DeepCutAuto
import Derived.Test.YtlkmnpanddchdaaJrQ
namespace Go.Proofs.Ytlkmnpanddchdaa
open Go.RowKit

/-- A word as it is loaded. -/
def ldW (ws : List Int) (ps : List St) (k : Nat) : Int := lastW (k : Int) (ws[k]?.getD 0) ps
theorem ldW_at {ws : List Int} {ps : List St} {k : Nat} (h : k < ws.length) : ldW ws ps k = lastW (k : Int) ws[k] ps := by unfold ldW; simp [h]
theorem pm_len {ws : List Int} {ps : List St} (h : pmB ws ps = true) : ws.length = 336 := (pmB_len h).1

set_option maxRecDepth 100000 in
set_option maxHeartbeats 2000000 in
theorem l04Count_any (v : Value) (ws : List Int) (ps : List St) (w : World) (h : RdPm w v ws ps) (hw : ws.length ≤ 1048576) (hp : ps.length ≤ 1048576) (ha : 8 < ws.length) :
    Calls Try.prog 32 #[v] w fun e w' => e = .returned (.int .i64 (ldW ws ps 8)) ∧ Below w.heap.size w w' := by
  have HR := hideIt h
  obtain ⟨vW, vP, rfl, h1, h2⟩ := h
  obtain ⟨aW, cW, rfl, _⟩ := h1.shape
  obtain ⟨aP, cP, rfl, _⟩ := h2.shape
  clear h1 h2
  have hb0 : Below w.heap.size w (w.alloc (.cells #[.slice aW ws.length cW, .slice aP ps.length cP] 37)) := (Below.refl _ _).alloc (Nat.le_refl _) _
  rw [ldW_at ha]
  go_enter Try.func32, Try.ntmps32
  go_wp2_with fail
  refine (l01Load_any _ ws ps 8 _ (HR.out.below hb0) hw hp ha).mono ?_
  rintro e w2 ⟨rfl, hb2⟩
  go_wp2
  go_ret
  exact ⟨rfl, below_trans hb0 hb2 (by simp)⟩

def jcC (ws : List Int) (ps : List St) : Int := if pmB ws ps = false then 1 else if 16 < ldW ws ps 8 then 3 else 0
def jcV (ws : List Int) (ps : List St) : Int := if jcC ws ps = 0 then ldW ws ps 8 else 0
theorem jc_cases (ws : List Int) (ps : List St) : (pmB ws ps = false ∧ jcC ws ps = 1 ∧ jcV ws ps = 0) ∨ (pmB ws ps = true ∧ 16 < ldW ws ps 8 ∧ jcC ws ps = 3 ∧ jcV ws ps = 0) ∨ (pmB ws ps = true ∧ ¬ 16 < ldW ws ps 8 ∧ jcC ws ps = 0 ∧ jcV ws ps = ldW ws ps 8) := by
  by_cases c1 : pmB ws ps = true
  · by_cases c2 : 16 < ldW ws ps 8
    · have e : jcC ws ps = 3 := by unfold jcC; rw [if_neg (by rw [c1]; simp), if_pos c2]
      exact .inr (.inl ⟨c1, c2, e, by unfold jcV; rw [e]; rfl⟩)
    · have e : jcC ws ps = 0 := by unfold jcC; rw [if_neg (by rw [c1]; simp), if_neg c2]
      exact .inr (.inr ⟨c1, c2, e, by unfold jcV; rw [e]; rfl⟩)
  · have c : pmB ws ps = false := by simpa using c1
    have e : jcC ws ps = 1 := by unfold jcC; rw [if_pos c]
    exact .inl ⟨c, e, by unfold jcV; rw [e]; rfl⟩

end Go.Proofs.Ytlkmnpanddchdaa

namespace Go.Proofs.Ytlkmnpanddchdaa
open Go.RowKit

theorem UpI.wide {w w3 w1 : World} {v : Value} {L : List Se} (h : UpI w3 w1 v L) (B : Below w.heap.size w w3) : UpI w w1 v L := ⟨((own_block h.l).wide B.size (Nat.le_refl _)).1, below_trans B h.b B.size⟩
end Go.Proofs.Ytlkmnpanddchdaa

namespace Go.Proofs.Ytlkmnpanddchdaa
open Go.RowKit

/-- A box that was made since. -/
structure BoxZ (t : TypeId) (wr w : World) (b : Nat) (cs : List Value) : Prop where
  ge : wr.heap.size ≤ b
  at_ : w.heap[b]? = some (.cells cs.toArray t (0, 0))
theorem BoxZ.drew {t : TypeId} {wr w : World} {b : Nat} {cs : List Value} (h : BoxZ t wr w b cs) : BoxZ t wr w.drew b cs := ⟨h.ge, h.at_⟩
theorem BoxZ.lt {t : TypeId} {wr w : World} {b : Nat} {cs : List Value} (h : BoxZ t wr w b cs) : b < w.heap.size := (Array.getElem?_eq_some_iff.1 h.at_).1
theorem BoxZ.below {t : TypeId} {wr X w : World} {b : Nat} {cs : List Value} (h : BoxZ t wr X b cs) (hb : Below X.heap.size X w) : BoxZ t wr w b cs := ⟨h.ge, (hb.block _ h.lt).trans h.at_⟩
end Go.Proofs.Ytlkmnpanddchdaa

namespace Go.Proofs.Ytlkmnpanddchdaa
open Go.RowKit

theorem applyL_len (us : List Se) : (applyL (upsL us)).length ≤ 2 * us.length + 4 := by
  have h1 := flushL_len ((upsL us).map (·.at_))
  have h2 := flushL_len ((cnt 0).map (·.at_))
  simp only [List.length_map, upsL_len] at h1 h2
  simp only [applyL, seg, List.length_append, List.length_map, upsL_len]
  simp only [cnt, List.length_cons, List.length_nil] at h2 ⊢
  omega

end Go.Proofs.Ytlkmnpanddchdaa

namespace Go.Proofs.Ytlkmnpanddchdaa
open Go.RowKit

theorem RdE.shapeN {w : World} {v : Value} {ps : List Se} (h : RdE w v ps) {n : Nat} (hn : ps.length = n) : ∃ ao cap, v = .slice ao n cap := by
  obtain ⟨ao, cap, e, _⟩ := h.shape
  exact ⟨ao, cap, hn ▸ e⟩
end Go.Proofs.Ytlkmnpanddchdaa
