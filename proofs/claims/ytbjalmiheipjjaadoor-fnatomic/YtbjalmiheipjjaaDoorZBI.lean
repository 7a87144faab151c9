/- Several texts laid together: DrawE, SameI, JrC. -/
import Derived.Test.YtbjalmiheipjjaaDoorZAQ
import Derived.Test.YtbjalmiheipjjaaDoorZAM
import Derived.Deep.RegionWith
import Derived.Deep.DeepCutAuto
import Derived.Test.YtbjalmiheipjjaaDoorZAV
import Derived.Test.YtbjalmiheipjjaaDoorZAH
namespace Go.Proofs.YtbjalmiheipjjaaDoor
open Go.RowKit
def nought32 : Array Value := (List.replicate 32 (Value.int .i64 0)).toArray
theorem made32 : madeCells #[Value.int .i64 0] (32 * 1) = nought32 := by kernel_rfl
theorem run_make32 (w : World) : (Instr.makeSlice 28 (.int .i64 32) (.int .i64 32)).run Tryd.prog w = .ok (.slice (some ⟨w.heap.size, 0, none⟩) 32 32) (w.alloc (.cells nought32 3)) := by
  rw [← made32]
  exact run_make_rows (P := Tryd.prog) 28 3 (.int .i64 0) 1 8 Tryd.underlying28 info3 .i64 .i64 32 (by decide) (by decide) w
theorem len32 : (List.replicate 32 (0 : Int)).length = 32 := List.length_replicate ..
end Go.Proofs.YtbjalmiheipjjaaDoor

namespace Go.Proofs.YtbjalmiheipjjaaDoor
open Go.RowKit
set_option maxHeartbeats 1000000 in
theorem sameIntsE_same (va vb : Value) (zs : List Int) (w : World) (ha : RdI w va zs) (hb : RdI w vb zs) (hn : zs.length ≤ 2147483648) :
    Calls Tryd.prog 16 #[va, vb] w fun e w' => e = .returned (.bool true) ∧ Below w.heap.size w w' := by
  obtain ⟨ao, cap, rfl, hcap, hc⟩ := ha.shape
  obtain ⟨ao2, cap2, rfl, hcap2, hc2⟩ := hb.shape
  clear ha hb
  go_enter Tryd.func16, Tryd.ntmps16
  go_wp2
  go_loopw [5] (fun i wr => ∃ k : Nat, k ≤ zs.length ∧ i = .int .i64 k ∧ Below w.heap.size w wr) (fun i _ => zs.length - (intOf i).toNat)
  case atStart => exact ⟨0, by omega, rfl, Below.refl _ _⟩
  case round =>
    obtain ⟨k, hk, rfl, hbw⟩ := hrel
    by_cases hlt : k < zs.length
    · obtain ⟨b, o, rfl, hbl, hcell⟩ := hc (by omega)
      obtain ⟨b2, o2, rfl, hbl2, hcell2⟩ := hc2 (by omega)
      have hck : wr.cell? ⟨b, o + k, none⟩ = some (.int .i64 zs[k]) := (hbw.cell (p := ⟨b, o + k, none⟩) hbl).trans (hcell k hlt)
      have hck2 : wr.cell? ⟨b2, o2 + k, none⟩ = some (.int .i64 zs[k]) := (hbw.cell (p := ⟨b2, o2 + k, none⟩) hbl2).trans (hcell2 k hlt)
      have hlt' : (k : Int) < (zs.length : Int) := by omega
      have hge : (0 : Int) ≤ (k : Int) := by omega
      clear hcell hcell2 hc hc2
      go_wp2
      go_quiet (fail)
      go_wp2
      go_roundw
      case rel => exact ⟨k + 1, by omega, by go_num, Below.drewN'' hbw _⟩
      case measure => simp [intOf]; omega
    · go_wp2
      go_ret
      exact ⟨rfl, hbw⟩
end Go.Proofs.YtbjalmiheipjjaaDoor

namespace Go.Proofs.YtbjalmiheipjjaaDoor
open Go.RowKit
def ldW (ws : List Int) (ps : List St) (k : Nat) : Int := lastW (k : Int) (ws[k]?.getD 0) ps
theorem ldW_at {ws : List Int} {ps : List St} {k : Nat} (h : k < ws.length) : ldW ws ps k = lastW (k : Int) ws[k] ps := by unfold ldW; simp [h]
theorem pm_len {ws : List Int} {ps : List St} (h : pmB ws ps = true) : ws.length = 336 := (pmB_len h).1
set_option maxRecDepth 100000 in
set_option maxHeartbeats 2000000 in
theorem l04Count_any (v : Value) (ws : List Int) (ps : List St) (w : World) (h : RdPm w v ws ps) (hw : ws.length ≤ 1048576) (hp : ps.length ≤ 1048576) (ha : 8 < ws.length) :
    Calls Tryd.prog 32 #[v] w fun e w' => e = .returned (.int .i64 (ldW ws ps 8)) ∧ Below w.heap.size w w' := by
  have HR := hideIt h
  obtain ⟨vW, vP, rfl, h1, h2⟩ := h
  obtain ⟨aW, cW, rfl, _⟩ := h1.shape
  obtain ⟨aP, cP, rfl, _⟩ := h2.shape
  clear h1 h2
  have hb0 : Below w.heap.size w (w.alloc (.cells #[.slice aW ws.length cW, .slice aP ps.length cP] 31)) := (Below.refl _ _).alloc (Nat.le_refl _) _
  rw [ldW_at ha]
  go_enter Tryd.func32, Tryd.ntmps32
  go_wp2_with fail
  refine (l01Load_any _ ws ps 8 _ (HR.out.below hb0) hw hp ha).mono ?_
  rintro e w2 ⟨rfl, hb2⟩
  go_wp2
  go_ret
  exact ⟨rfl, below_trans hb0 hb2 (by simp)⟩
def jcC (ws : List Int) (ps : List St) : Int := if pmB ws ps = false then 1 else if 16 < ldW ws ps 8 then 3 else 0
def jcV (ws : List Int) (ps : List St) : Int := if jcC ws ps = 0 then ldW ws ps 8 else 0
theorem jc_cases (ws : List Int) (ps : List St) : (pmB ws ps = false ∧ jcC ws ps = 1 ∧ jcV ws ps = 0) ∨ (pmB ws ps = true ∧ 16 < ldW ws ps 8 ∧ jcC ws ps = 3 ∧ jcV ws ps = 0) ∨ (pmB ws ps = true ∧ ¬ 16 < ldW ws ps 8 ∧ jcC ws ps = 0 ∧ jcV ws ps = ldW ws ps 8) := by
  by_cases c1 : pmB ws ps = true
  · by_cases c2 : 16 < ldW ws ps 8
    · have e : jcC ws ps = 3 := by unfold jcC; rw [if_neg (by rw [c1]; simp), if_pos c2]
      exact .inr (.inl ⟨c1, c2, e, by unfold jcV; rw [e]; rfl⟩)
    · have e : jcC ws ps = 0 := by unfold jcC; rw [if_neg (by rw [c1]; simp), if_neg c2]
      exact .inr (.inr ⟨c1, c2, e, by unfold jcV; rw [e]; rfl⟩)
  · have c : pmB ws ps = false := by simpa using c1
    have e : jcC ws ps = 1 := by unfold jcC; rw [if_pos c]
    exact .inl ⟨c, e, by unfold jcV; rw [e]; rfl⟩
end Go.Proofs.YtbjalmiheipjjaaDoor
