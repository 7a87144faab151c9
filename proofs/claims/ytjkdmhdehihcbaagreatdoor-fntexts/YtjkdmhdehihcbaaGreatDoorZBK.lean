/- Several texts laid together: JrD, JrF. -/
import Derived.Test.YtjkdmhdehihcbaaGreatDoorZAD
import Derived.Test.YtjkdmhdehihcbaaGreatDoorMiS
import Derived.Test.YtjkdmhdehihcbaaGreatDoorZAS
import Derived.BigRegion
import Derived.BigQuiet
import Derived.Deep.QuietTactic
import Derived.Deep.DeepCutAuto
import Derived.Deep.RegionWith
namespace Go.Proofs.YtjkdmhdehihcbaaGreatDoor
def up (a v : Int) : St := ⟨a, v, false⟩
def stM (p : St) : Mi := ⟨1, p.at_, p.val⟩
def knownL (ks : List Int) (i : Nat) : Bool := (List.range i).any (fun k => ks[k]?.getD 0 / 8 == ks[i]?.getD 0 / 8)
def nl (ks : List Int) : Nat → List Mi
  | 0 => []
  | i + 1 => if knownL ks i = true then nl ks i else nl ks i ++ [⟨2, ks[i]?.getD 0, 0⟩]
def flushL (ks : List Int) : List Mi := nl ks ks.length ++ [⟨3, 0, 0⟩]
def seg (S : List St) : List Mi := S.map stM ++ flushL (S.map (·.at_))
def jrn : Nat → List St → List St
  | _, [] => []
  | i, u :: us => ⟨9 + 2 * (i : Int), u.at_, false⟩ :: ⟨9 + 2 * (i : Int) + 1, u.val, false⟩ :: jrn (i + 1) us
def cnt (n : Int) : List St := [⟨8, n, false⟩]
def applyL (us : List St) : List Mi := seg us ++ seg (cnt 0)
def planL (us : List St) : List Mi := if us.length = 0 then [] else seg (jrn 0 us) ++ seg (cnt (us.length : Int)) ++ applyL us
end Go.Proofs.YtjkdmhdehihcbaaGreatDoor

namespace Go.Proofs.YtjkdmhdehihcbaaGreatDoor
open Go.RowKit
theorem mis_snoc (l : List Mi) (m : Mi) : mis (l ++ [m]) = mis l ++ m.cells := by simp [mis]
theorem mis_append (l l' : List Mi) : mis (l ++ l') = mis l ++ mis l' := by simp [mis]
theorem mic_one (m : Mi) : ∀ u ∈ m.cells, u.oneCell' = true := by
  intro u hu
  simp [Mi.cells] at hu
  rcases hu with rfl | rfl | rfl <;> rfl
theorem mis_one (l : List Mi) : ∀ u ∈ mis l, u.oneCell' = true := by
  intro u hu
  simp only [mis, List.mem_flatMap] at hu
  obtain ⟨m, _, hm⟩ := hu
  exact mic_one m u hm
theorem rd_mic (w1 : World) (k a x : Int) : Rd (w1.alloc (.cells #[.int .i64 k, .int .i64 a, .int .i64 x] 41)) 3 (.slice (some ⟨w1.heap.size, 0, none⟩) 1 1) 1 (Mi.cells ⟨k, a, x⟩) := by
  refine ⟨rfl, _, _, rfl, ⟨Nat.le_refl _, fun e => by cases e⟩, fun _ => ⟨w1.heap.size, 0, rfl, by simp, fun j hj => ?_⟩⟩
  obtain ⟨e0, e1, e2⟩ := three_cells (at_new (w := w1) (o := .cells #[.int .i64 k, .int .i64 a, .int .i64 x] 41) rfl)
  rw [Nat.zero_add]
  rcases (show j = 0 ∨ j = 1 ∨ j = 2 from by omega) with rfl | rfl | rfl
  · exact e0
  · exact e1
  · exact e2
theorem RdM.form {w : World} {v : Value} {ps : List Mi} (h : RdM w v ps) {n : Nat} (hn : ps.length = n) : ∃ ao cap, v = .slice ao n cap := by
  obtain ⟨ao, cap, e, _⟩ := h.shape
  exact ⟨ao, cap, hn ▸ e⟩
theorem nl_le (ks : List Int) : ∀ i, (nl ks i).length ≤ i
  | 0 => Nat.le_refl _
  | i + 1 => by
    rw [nl]
    split
    · have := nl_le ks i; omega
    · have := nl_le ks i; simp; omega
def allP (zs : List Int) : Bool := decide (∀ k (h : k < zs.length), 0 ≤ zs[k] ∧ zs[k] < 336)
def flC (zs : List Int) : Int := if 4096 < zs.length then 2 else if 50 < zs.length then 6 else if allP zs = true then 0 else 14
def fpL (zs : List Int) : List Mi := if flC zs = 0 then flushL zs else []
theorem fp_cases (zs : List Int) : (4096 < zs.length ∧ flC zs = 2 ∧ fpL zs = []) ∨ (¬ 4096 < zs.length ∧ 50 < zs.length ∧ flC zs = 6 ∧ fpL zs = []) ∨ (¬ 4096 < zs.length ∧ ¬ 50 < zs.length ∧ allP zs = false ∧ flC zs = 14 ∧ fpL zs = []) ∨ (¬ 4096 < zs.length ∧ ¬ 50 < zs.length ∧ allP zs = true ∧ flC zs = 0 ∧ fpL zs = flushL zs) := by
  by_cases c1 : 4096 < zs.length
  · have e : flC zs = 2 := by unfold flC; rw [if_pos c1]
    exact .inl ⟨c1, e, by unfold fpL; rw [e]; rfl⟩
  · by_cases c2 : 50 < zs.length
    · have e : flC zs = 6 := by unfold flC; rw [if_neg c1, if_pos c2]
      exact .inr (.inl ⟨c1, c2, e, by unfold fpL; rw [e]; rfl⟩)
    · by_cases c3 : allP zs = true
      · have e : flC zs = 0 := by unfold flC; rw [if_neg c1, if_neg c2, if_pos c3]
        exact .inr (.inr (.inr ⟨c1, c2, c3, e, by unfold fpL; rw [e]; rfl⟩))
      · have c3' : allP zs = false := by simpa using c3
        have e : flC zs = 14 := by unfold flC; rw [if_neg c1, if_neg c2, c3']; rfl
        exact .inr (.inr (.inl ⟨c1, c2, c3', e, by unfold fpL; rw [e]; rfl⟩))
theorem flushL_len (zs : List Int) : (flushL zs).length ≤ zs.length + 1 := by
  unfold flushL
  have := nl_le zs zs.length
  simp
  omega
end Go.Proofs.YtjkdmhdehihcbaaGreatDoor
