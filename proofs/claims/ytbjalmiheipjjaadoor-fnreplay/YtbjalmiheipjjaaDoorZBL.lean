/- Several texts laid together: DrawE, SameI, JrC, JrF. -/
import Derived.Test.YtbjalmiheipjjaaDoorDrawK
import Derived.Test.YtbjalmiheipjjaaDoorZAP
import Derived.Test.YtbjalmiheipjjaaDoorZAO
import Derived.Deep.RegionWith
import Derived.Deep.DeepCutAuto
import Derived.Test.YtbjalmiheipjjaaDoorZAY
import Derived.Test.YtbjalmiheipjjaaDoorZAI
import Derived.Test.YtbjalmiheipjjaaDoorZBC
import Derived.Test.YtbjalmiheipjjaaDoorZAQ
import Derived.BigRegion
import Derived.BigQuiet
import Derived.Deep.QuietTactic
namespace Go.Proofs.YtbjalmiheipjjaaDoor
open Go.RowKit
def nought32 : Array Value := (List.replicate 32 (Value.int .i64 0)).toArray
theorem made32 : madeCells #[Value.int .i64 0] (32 * 1) = nought32 := by kernel_rfl
theorem run_make32 (w : World) : (Instr.makeSlice 28 (.int .i64 32) (.int .i64 32)).run Tryd.prog w = .ok (.slice (some ⟨w.heap.size, 0, none⟩) 32 32) (w.alloc (.cells nought32 3)) := by
  rw [← made32]
  exact run_make_rows (P := Tryd.prog) 28 3 (.int .i64 0) 1 8 Tryd.underlying28 info3 .i64 .i64 32 (by decide) (by decide) w
theorem len32 : (List.replicate 32 (0 : Int)).length = 32 := List.length_replicate ..
end Go.Proofs.YtbjalmiheipjjaaDoor

namespace Go.Proofs.YtbjalmiheipjjaaDoor
open Go.RowKit
set_option maxHeartbeats 1000000 in
theorem sameIntsE_same (va vb : Value) (zs : List Int) (w : World) (ha : RdI w va zs) (hb : RdI w vb zs) (hn : zs.length ≤ 2147483648) :
    Calls Tryd.prog 16 #[va, vb] w fun e w' => e = .returned (.bool true) ∧ Below w.heap.size w w' := by
  obtain ⟨ao, cap, rfl, hcap, hc⟩ := ha.shape
  obtain ⟨ao2, cap2, rfl, hcap2, hc2⟩ := hb.shape
  clear ha hb
  go_enter Tryd.func16, Tryd.ntmps16
  go_wp2
  go_loopw [5] (fun i wr => ∃ k : Nat, k ≤ zs.length ∧ i = .int .i64 k ∧ Below w.heap.size w wr) (fun i _ => zs.length - (intOf i).toNat)
  case atStart => exact ⟨0, by omega, rfl, Below.refl _ _⟩
  case round =>
    obtain ⟨k, hk, rfl, hbw⟩ := hrel
    by_cases hlt : k < zs.length
    · obtain ⟨b, o, rfl, hbl, hcell⟩ := hc (by omega)
      obtain ⟨b2, o2, rfl, hbl2, hcell2⟩ := hc2 (by omega)
      have hck : wr.cell? ⟨b, o + k, none⟩ = some (.int .i64 zs[k]) := (hbw.cell (p := ⟨b, o + k, none⟩) hbl).trans (hcell k hlt)
      have hck2 : wr.cell? ⟨b2, o2 + k, none⟩ = some (.int .i64 zs[k]) := (hbw.cell (p := ⟨b2, o2 + k, none⟩) hbl2).trans (hcell2 k hlt)
      have hlt' : (k : Int) < (zs.length : Int) := by omega
      have hge : (0 : Int) ≤ (k : Int) := by omega
      clear hcell hcell2 hc hc2
      go_wp2
      go_quiet (fail)
      go_wp2
      go_roundw
      case rel => exact ⟨k + 1, by omega, by go_num, Below.drewN'' hbw _⟩
      case measure => simp [intOf]; omega
    · go_wp2
      go_ret
      exact ⟨rfl, hbw⟩
end Go.Proofs.YtbjalmiheipjjaaDoor

namespace Go.Proofs.YtbjalmiheipjjaaDoor
open Go.RowKit
def ldW (ws : List Int) (ps : List St) (k : Nat) : Int := lastW (k : Int) (ws[k]?.getD 0) ps
theorem ldW_at {ws : List Int} {ps : List St} {k : Nat} (h : k < ws.length) : ldW ws ps k = lastW (k : Int) ws[k] ps := by unfold ldW; simp [h]
theorem pm_len {ws : List Int} {ps : List St} (h : pmB ws ps = true) : ws.length = 336 := (pmB_len h).1
def jcC (ws : List Int) (ps : List St) : Int := if pmB ws ps = false then 1 else if 16 < ldW ws ps 8 then 3 else 0
def jcV (ws : List Int) (ps : List St) : Int := if jcC ws ps = 0 then ldW ws ps 8 else 0
theorem jc_cases (ws : List Int) (ps : List St) : (pmB ws ps = false ∧ jcC ws ps = 1 ∧ jcV ws ps = 0) ∨ (pmB ws ps = true ∧ 16 < ldW ws ps 8 ∧ jcC ws ps = 3 ∧ jcV ws ps = 0) ∨ (pmB ws ps = true ∧ ¬ 16 < ldW ws ps 8 ∧ jcC ws ps = 0 ∧ jcV ws ps = ldW ws ps 8) := by
  by_cases c1 : pmB ws ps = true
  · by_cases c2 : 16 < ldW ws ps 8
    · have e : jcC ws ps = 3 := by unfold jcC; rw [if_neg (by rw [c1]; simp), if_pos c2]
      exact .inr (.inl ⟨c1, c2, e, by unfold jcV; rw [e]; rfl⟩)
    · have e : jcC ws ps = 0 := by unfold jcC; rw [if_neg (by rw [c1]; simp), if_neg c2]
      exact .inr (.inr ⟨c1, c2, e, by unfold jcV; rw [e]; rfl⟩)
  · have c : pmB ws ps = false := by simpa using c1
    have e : jcC ws ps = 1 := by unfold jcC; rw [if_pos c]
    exact .inl ⟨c, e, by unfold jcV; rw [e]; rfl⟩
end Go.Proofs.YtbjalmiheipjjaaDoor

namespace Go.Proofs.YtbjalmiheipjjaaDoor
open Go.RowKit
theorem mis_snoc (l : List Mi) (m : Mi) : mis (l ++ [m]) = mis l ++ m.cells := by simp [mis]
theorem mis_append (l l' : List Mi) : mis (l ++ l') = mis l ++ mis l' := by simp [mis]
theorem mic_one (m : Mi) : ∀ u ∈ m.cells, u.oneCell' = true := by
  intro u hu
  simp [Mi.cells] at hu
  rcases hu with rfl | rfl | rfl <;> rfl
theorem mis_one (l : List Mi) : ∀ u ∈ mis l, u.oneCell' = true := by
  intro u hu
  simp only [mis, List.mem_flatMap] at hu
  obtain ⟨m, _, hm⟩ := hu
  exact mic_one m u hm
theorem rd_mic (w1 : World) (k a x : Int) : Rd (w1.alloc (.cells #[.int .i64 k, .int .i64 a, .int .i64 x] 61)) 3 (.slice (some ⟨w1.heap.size, 0, none⟩) 1 1) 1 (Mi.cells ⟨k, a, x⟩) := by
  refine ⟨rfl, _, _, rfl, ⟨Nat.le_refl _, fun e => by cases e⟩, fun _ => ⟨w1.heap.size, 0, rfl, by simp, fun j hj => ?_⟩⟩
  obtain ⟨e0, e1, e2⟩ := three_cells (at_new (w := w1) (o := .cells #[.int .i64 k, .int .i64 a, .int .i64 x] 61) rfl)
  rw [Nat.zero_add]
  rcases (show j = 0 ∨ j = 1 ∨ j = 2 from by omega) with rfl | rfl | rfl
  · exact e0
  · exact e1
  · exact e2
theorem RdM.form {w : World} {v : Value} {ps : List Mi} (h : RdM w v ps) {n : Nat} (hn : ps.length = n) : ∃ ao cap, v = .slice ao n cap := by
  obtain ⟨ao, cap, e, _⟩ := h.shape
  exact ⟨ao, cap, hn ▸ e⟩
theorem nl_le (ks : List Int) : ∀ i, (nl ks i).length ≤ i
  | 0 => Nat.le_refl _
  | i + 1 => by
    rw [nl]
    split
    · have := nl_le ks i; omega
    · have := nl_le ks i; simp; omega
def allP (zs : List Int) : Bool := decide (∀ k (h : k < zs.length), 0 ≤ zs[k] ∧ zs[k] < 336)
def flC (zs : List Int) : Int := if 4096 < zs.length then 2 else if 50 < zs.length then 6 else if allP zs = true then 0 else 14
def fpL (zs : List Int) : List Mi := if flC zs = 0 then flushL zs else []
theorem fp_cases (zs : List Int) : (4096 < zs.length ∧ flC zs = 2 ∧ fpL zs = []) ∨ (¬ 4096 < zs.length ∧ 50 < zs.length ∧ flC zs = 6 ∧ fpL zs = []) ∨ (¬ 4096 < zs.length ∧ ¬ 50 < zs.length ∧ allP zs = false ∧ flC zs = 14 ∧ fpL zs = []) ∨ (¬ 4096 < zs.length ∧ ¬ 50 < zs.length ∧ allP zs = true ∧ flC zs = 0 ∧ fpL zs = flushL zs) := by
  by_cases c1 : 4096 < zs.length
  · have e : flC zs = 2 := by unfold flC; rw [if_pos c1]
    exact .inl ⟨c1, e, by unfold fpL; rw [e]; rfl⟩
  · by_cases c2 : 50 < zs.length
    · have e : flC zs = 6 := by unfold flC; rw [if_neg c1, if_pos c2]
      exact .inr (.inl ⟨c1, c2, e, by unfold fpL; rw [e]; rfl⟩)
    · by_cases c3 : allP zs = true
      · have e : flC zs = 0 := by unfold flC; rw [if_neg c1, if_neg c2, if_pos c3]
        exact .inr (.inr (.inr ⟨c1, c2, c3, e, by unfold fpL; rw [e]; rfl⟩))
      · have c3' : allP zs = false := by simpa using c3
        have e : flC zs = 14 := by unfold flC; rw [if_neg c1, if_neg c2, c3']; rfl
        exact .inr (.inr (.inl ⟨c1, c2, c3', e, by unfold fpL; rw [e]; rfl⟩))
theorem flushL_len (zs : List Int) : (flushL zs).length ≤ zs.length + 1 := by
  unfold flushL
  have := nl_le zs zs.length
  simp
  omega
end Go.Proofs.YtbjalmiheipjjaaDoor
