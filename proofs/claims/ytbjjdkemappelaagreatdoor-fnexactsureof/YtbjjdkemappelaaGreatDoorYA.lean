/- Several texts laid together: Dev, MiS, MicO, MiL, StA, FsD, FsE, MiT, FqA, AnA, FqB, FqC, TrA, JrC, FqD, TrD, DevI, JiA, FqE, AdI. -/
import Derived.Test.YtbjjdkemappelaaGreatDoorDuA
import Derived.Test.YtbjjdkemappelaaGreatDoorZBW
import Derived.WalkKit
import Derived.WalkSpells
import Derived.WalkSmall
import Derived.Deep.OwnRows
import Derived.Deep.QuietTactic
import Derived.BigQuiet
import Derived.Deep.RegionWith
import Derived.Deep.DeepCutAuto
import Derived.Deep.RegionLaw
import Derived.Laws.IdiomStrings
import Derived.Laws.BytesArg
import Derived.Deep.RegionHeld3
import Derived.Laws.OwnMore
import Derived.Laws.CopyRow
import Derived.Laws.CopyOwn
import Derived.Lib.Strings
import Derived.Laws.Cover3
import Derived.ProofKit
import Derived.OpenShut
import Derived.ShutString
import Derived.ChangeOld
import Derived.Lib.SmallJoins
import Derived.Deep.Slices
import Derived.Deep.Strs
import Derived.Maps.Views
import Derived.Deep.LoopGhost
import Derived.Lib.SplitLaws
import Derived.Lib.IndexBytes
import Derived.Sort.Walk0
import Derived.Laws.Cover1
import Derived.BigRegion
import Derived.Lib.LaidTab
import Derived.ChangeSame
import Derived.Deep.DeepHandedRow
namespace Go.Proofs.YtbjjdkemappelaaGreatDoor
open Go.RowKit

theorem RowDev.outside {w w' : World} {lo hi : Nat} {v : Value} {ws : List Int} {ps : List St} {es : List Int} {qs : List Se} (h : RowDev w lo hi v ws ps es qs) {lo' hi' : Nat} (ho : Outside lo' hi' w w') (hd : hi ≤ lo' ∨ hi' ≤ lo) (hz : hi ≤ w.heap.size) : RowDev w' lo hi v ws ps es qs := by
  obtain ⟨vW, vP, vS, vQ, l1, h1, l2, h2, e, r1, r2, c⟩ := h
  exact ⟨vW, vP, vS, vQ, l1, h1, l2, h2, e, r1.outside ho (by omega) (by omega), r2.outside ho (by omega) (by omega), c⟩
theorem RowDev.wide {w : World} {lo hi : Nat} {v : Value} {ws : List Int} {ps : List St} {es : List Int} {qs : List Se} (h : RowDev w lo hi v ws ps es qs) {lo' hi' : Nat} (a : lo' ≤ lo) (b : hi ≤ hi') : RowDev w lo' hi' v ws ps es qs := by
  obtain ⟨vW, vP, vS, vQ, l1, h1, l2, h2, e, r1, r2, c⟩ := h
  exact ⟨vW, vP, vS, vQ, l1, h1, l2, h2, e, r1, r2, by omega⟩
end Go.Proofs.YtbjjdkemappelaaGreatDoor

namespace Go.Proofs.YtbjjdkemappelaaGreatDoor
open Go.RowKit

/-- A step as a value. -/
def Mi.v (m : Mi) : Value := .agg #[.int .i64 m.kind, .int .i64 m.at_, .int .i64 m.val]
/-- A step that is right. -/
def miB (m : Mi) : Bool := decide ((m.kind = 1 ∧ (0 ≤ m.at_ ∧ m.at_ < 336) ∧ 0 ≤ m.val ∧ m.val < 1099511627776) ∨ (m.kind = 2 ∧ (0 ≤ m.at_ ∧ m.at_ < 336) ∧ m.val = 0) ∨ (m.kind = 4 ∧ (0 ≤ m.at_ ∧ m.at_ < 32) ∧ 0 ≤ m.val ∧ m.val < 1099511627776) ∨ ((m.kind = 3 ∨ m.kind = 5) ∧ m.at_ = 0 ∧ m.val = 0))
theorem miB_iff {m : Mi} : miB m = true ↔ ((m.kind = 1 ∧ (0 ≤ m.at_ ∧ m.at_ < 336) ∧ 0 ≤ m.val ∧ m.val < 1099511627776) ∨ (m.kind = 2 ∧ (0 ≤ m.at_ ∧ m.at_ < 336) ∧ m.val = 0) ∨ (m.kind = 4 ∧ (0 ≤ m.at_ ∧ m.at_ < 32) ∧ 0 ≤ m.val ∧ m.val < 1099511627776) ∨ ((m.kind = 3 ∨ m.kind = 5) ∧ m.at_ = 0 ∧ m.val = 0)) := by unfold miB; exact decide_eq_true_iff
theorem miB_of (k a v : Int) : miB ⟨k, a, v⟩ = true ↔ ((k = 1 ∧ (0 ≤ a ∧ a < 336) ∧ 0 ≤ v ∧ v < 1099511627776) ∨ (k = 2 ∧ (0 ≤ a ∧ a < 336) ∧ v = 0) ∨ (k = 4 ∧ (0 ≤ a ∧ a < 32) ∧ 0 ≤ v ∧ v < 1099511627776) ∨ ((k = 3 ∨ k = 5) ∧ a = 0 ∧ v = 0)) := miB_iff
set_option maxRecDepth 100000 in
set_option maxHeartbeats 4000000 in
theorem l04Micro_any (m : Mi) (w : World) : Calls Tryz.prog 48 #[m.v] w fun e w' => e = .returned (.bool (miB m)) ∧ Below w.heap.size w w' := by
  obtain ⟨k, a, v⟩ := m
  have hb0 : Below w.heap.size w (w.alloc (.cells #[.int .i64 k, .int .i64 a, .int .i64 v] 110)) := (Below.refl _ _).alloc (Nat.le_refl _) _
  have E := hideIt (miB_of k a v)
  unfold Mi.v
  simp only
  have WE := hideIt (show wordB v = decide (0 ≤ v ∧ v < 1099511627776) from rfl)
  rcases (show k = 1 ∨ k = 2 ∨ k = 3 ∨ k = 4 ∨ k = 5 ∨ (¬ k = 1 ∧ ¬ k = 2 ∧ ¬ k = 3 ∧ ¬ k = 4 ∧ ¬ k = 5) by omega) with rfl | rfl | rfl | rfl | rfl | ⟨n1, n2, n3, n4, n5⟩
  · by_cases ca : 0 ≤ a ∧ a ≤ 335
    · go_enter Tryz.func48, Tryz.ntmps48
      go_wp2_with (first | (go_at_call 84; refine (l01In_yes _ _ _ _ ca).mono ?_; rintro e w' ⟨rfl, rfl⟩) | (go_at_call 85; refine (l01Word_any _ _).mono ?_; rintro e w' ⟨rfl, rfl⟩))
      go_ret
      refine ⟨ret_bool ?_, hb0⟩
      rw [WE.out, Bool.eq_iff_iff, E.out, decide_eq_true_iff]
      first | omega | (simp only [true_and]; omega) | (simp only [true_and, true_or]; omega) | (simp only [true_and, or_true]; omega)
    · have C := hideIt ca
      clear ca
      go_enter Tryz.func48, Tryz.ntmps48
      go_wp2_with (go_at_call 84; refine (l01In_no _ _ _ _ C.out).mono ?_; rintro e w' ⟨rfl, rfl⟩)
      go_ret
      have := C.out
      refine ⟨ret_bool ?_, hb0⟩
      rw [Bool.eq_iff_iff, E.out]
      simp
      omega
  · by_cases ca : 0 ≤ a ∧ a ≤ 335
    · go_enter Tryz.func48, Tryz.ntmps48
      go_wp2_with (go_at_call 84; refine (l01In_yes _ _ _ _ ca).mono ?_; rintro e w' ⟨rfl, rfl⟩)
      go_ret
      refine ⟨ret_bool ?_, hb0⟩
      rw [Bool.eq_iff_iff, E.out, beq_iff_eq]
      first | omega | (simp only [true_and]; omega) | (simp only [true_and, true_or]; omega) | (simp only [true_and, or_true]; omega)
    · have C := hideIt ca
      clear ca
      go_enter Tryz.func48, Tryz.ntmps48
      go_wp2_with (go_at_call 84; refine (l01In_no _ _ _ _ C.out).mono ?_; rintro e w' ⟨rfl, rfl⟩)
      go_ret
      have := C.out
      refine ⟨ret_bool ?_, hb0⟩
      rw [Bool.eq_iff_iff, E.out]
      simp
      omega
  · by_cases ca : (a == 0) = true
    · go_enter Tryz.func48, Tryz.ntmps48
      go_wp2
      go_ret
      have := beq_iff_eq.1 ca
      refine ⟨ret_bool ?_, hb0⟩
      rw [Bool.eq_iff_iff, E.out, beq_iff_eq]
      first | omega | (simp only [true_and]; omega) | (simp only [true_and, true_or]; omega) | (simp only [true_and, or_true]; omega)
    · have ca' : (a == 0) = false := by simpa using ca
      clear ca
      go_enter Tryz.func48, Tryz.ntmps48
      go_wp2
      go_ret
      have := beq_eq_false_iff_ne.1 ca'
      refine ⟨ret_bool ?_, hb0⟩
      rw [Bool.eq_iff_iff, E.out]
      simp
      omega
  · by_cases ca : 0 ≤ a ∧ a ≤ 31
    · go_enter Tryz.func48, Tryz.ntmps48
      go_wp2_with (first | (go_at_call 84; refine (l01In_yes _ _ _ _ ca).mono ?_; rintro e w' ⟨rfl, rfl⟩) | (go_at_call 85; refine (l01Word_any _ _).mono ?_; rintro e w' ⟨rfl, rfl⟩))
      go_ret
      refine ⟨ret_bool ?_, hb0⟩
      rw [WE.out, Bool.eq_iff_iff, E.out, decide_eq_true_iff]
      first | omega | (simp only [true_and]; omega) | (simp only [true_and, true_or]; omega) | (simp only [true_and, or_true]; omega)
    · have C := hideIt ca
      clear ca
      go_enter Tryz.func48, Tryz.ntmps48
      go_wp2_with (go_at_call 84; refine (l01In_no _ _ _ _ C.out).mono ?_; rintro e w' ⟨rfl, rfl⟩)
      go_ret
      have := C.out
      refine ⟨ret_bool ?_, hb0⟩
      rw [Bool.eq_iff_iff, E.out]
      simp
      omega
  · by_cases ca : (a == 0) = true
    · go_enter Tryz.func48, Tryz.ntmps48
      go_wp2
      go_ret
      have := beq_iff_eq.1 ca
      refine ⟨ret_bool ?_, hb0⟩
      rw [Bool.eq_iff_iff, E.out, beq_iff_eq]
      first | omega | (simp only [true_and]; omega) | (simp only [true_and, true_or]; omega) | (simp only [true_and, or_true]; omega)
    · have ca' : (a == 0) = false := by simpa using ca
      clear ca
      go_enter Tryz.func48, Tryz.ntmps48
      go_wp2
      go_ret
      have := beq_eq_false_iff_ne.1 ca'
      refine ⟨ret_bool ?_, hb0⟩
      rw [Bool.eq_iff_iff, E.out]
      simp
      omega
  · have q1 : (k == 1) = false := by simpa using n1
    have q2 : (k == 2) = false := by simpa using n2
    have q3 : (k == 3) = false := by simpa using n3
    have q4 : (k == 4) = false := by simpa using n4
    have q5 : (k == 5) = false := by simpa using n5
    have N := hideIt (And.intro n1 (And.intro n2 (And.intro n3 (And.intro n4 n5))))
    clear n1 n2 n3 n4 n5
    go_enter Tryz.func48, Tryz.ntmps48
    go_wp2
    go_ret
    have := N.out
    refine ⟨ret_bool ?_, hb0⟩
    rw [Bool.eq_iff_iff, E.out]
    simp
    omega

end Go.Proofs.YtbjjdkemappelaaGreatDoor

namespace Go.Proofs.YtbjjdkemappelaaGreatDoor
open Go.RowKit

/-- The answer's box, filled. -/
def putR (w : World) (bR : Nat) (a b c d : Value) : World := (((w.setCell ⟨bR, 0, none⟩ a).setCell ⟨bR, 1, none⟩ b).setCell ⟨bR, 2, none⟩ c).setCell ⟨bR, 3, none⟩ d
end Go.Proofs.YtbjjdkemappelaaGreatDoor

namespace Go.Proofs.YtbjjdkemappelaaGreatDoor
open Go.RowKit

def Mi.cells (s : Mi) : List Value := [.int .i64 s.kind, .int .i64 s.at_, .int .i64 s.val]
def mis (ps : List Mi) : List Value := ps.flatMap Mi.cells

theorem Mi.cells_len (s : Mi) : s.cells.length = 3 := rfl
theorem mis_len (ps : List Mi) : (mis ps).length = ps.length * 3 := flatMap_len _ 3 Mi.cells_len ps
theorem mis_at0 (ps : List Mi) (k : Nat) (h : k < ps.length) : (mis ps)[k * 3]? = some (.int .i64 ps[k].kind) := flatMap_at _ 3 Mi.cells_len ps k 0 h (by omega)
theorem mis_at1 (ps : List Mi) (k : Nat) (h : k < ps.length) : (mis ps)[k * 3 + 1]? = some (.int .i64 ps[k].at_) := flatMap_at _ 3 Mi.cells_len ps k 1 h (by omega)
theorem mis_at2 (ps : List Mi) (k : Nat) (h : k < ps.length) : (mis ps)[k * 3 + 2]? = some (.int .i64 ps[k].val) := flatMap_at _ 3 Mi.cells_len ps k 2 h (by omega)

/-- A slice of steps that can be read. -/
def RdM (w : World) (v : Value) (ps : List Mi) : Prop := Rd w 3 v ps.length (mis ps)
theorem RdM.shape {w : World} {v : Value} {ps : List Mi} (h : RdM w v ps) : ∃ ao cap, v = .slice ao ps.length cap ∧ ps.length ≤ cap ∧ (0 < ps.length → ∃ b o, ao = some ⟨b, o, none⟩ ∧ b < w.heap.size ∧
    ∀ k (h : k < ps.length), w.cell? ⟨b, o + k * 3, none⟩ = some (.int .i64 ps[k].kind) ∧ w.cell? ⟨b, o + k * 3 + 1, none⟩ = some (.int .i64 ps[k].at_) ∧ w.cell? ⟨b, o + k * 3 + 2, none⟩ = some (.int .i64 ps[k].val)) := by
  obtain ⟨_, ao, cap, rfl, h2, h3⟩ := h
  refine ⟨ao, cap, rfl, h2.1, fun hn => ?_⟩
  obtain ⟨b, o, rfl, hb, hc⟩ := h3 hn
  exact ⟨b, o, rfl, hb, fun k hk => ⟨(hc (k * 3) (by omega)).trans (mis_at0 ps k hk), (hc (k * 3 + 1) (by omega)).trans (mis_at1 ps k hk), (hc (k * 3 + 2) (by omega)).trans (mis_at2 ps k hk)⟩⟩

theorem infoMic : (Tryz.prog.info? 110).map (fun i => (i.zero, i.size, i.bytes)) = some (some (.agg #[.int .i64 0, .int .i64 0, .int .i64 0]), 3, 24) := by kernel_rfl

set_option maxHeartbeats 1000000 in
theorem toMic_any (a v : Int) (f : Int) (w : World) : Calls Tryz.prog 49 #[.agg #[.int .i64 a, .int .i64 v, .int .i64 f]] w fun e w' => e = .returned (.agg #[.int .i64 a, .int .i64 v, .int .i64 f]) ∧ Below w.heap.size w w' := by
  go_enter Tryz.func49, Tryz.ntmps49
  go_wp2
  refine bodyPost_ret (v := .agg #[.int .i64 a, .int .i64 v, .int .i64 f]) (by simp [results, Tryz.results49, go_sem]) rfl ⟨rfl, ?_⟩
  repeat (refine Below.alloc ?_ (by simp <;> omega) _)
  exact Below.refl _ _

theorem put3M_step {ys : List Value} {ps : List Mi} {k : Nat} (hk : k < ps.length) (hl : ys.length = ps.length * 3) (h : ∀ j, j < k * 3 → ys[j]? = (mis ps)[j]?) :
    ∀ j, j < (k + 1) * 3 → (put3 ys k (.int .i64 ps[k].kind) (.int .i64 ps[k].at_) (.int .i64 ps[k].val))[j]? = (mis ps)[j]? := by
  intro j hj
  rw [put3_at (by omega)]
  split
  · rename_i e; rw [e, mis_at2 ps k hk]
  · split
    · rename_i e; rw [e, mis_at1 ps k hk]
    · split
      · rename_i e; rw [e, mis_at0 ps k hk]
      · exact h j (by omega)
theorem mis_all {ys : List Value} {ps : List Mi} (hl : ys.length = ps.length * 3) (h : ∀ j, j < ps.length * 3 → ys[j]? = (mis ps)[j]?) : ys = mis ps := by
  apply List.ext_getElem?
  intro j
  by_cases hj : j < ps.length * 3
  · exact h j hj
  · rw [List.getElem?_eq_none (by omega), List.getElem?_eq_none (by rw [mis_len]; omega)]

set_option maxHeartbeats 1000000 in
theorem toMicroS_any (v : Value) (ps : List Mi) (w : World) (h : RdM w v ps) (hn : ps.length ≤ 1048576) :
    Calls Tryz.prog 21 #[v] w fun e w' => ∃ v', e = .returned v' ∧ Row w' 110 3 w.heap.size w'.heap.size v' ps.length (mis ps) ∧ Below w.heap.size w w' := by
  obtain ⟨ao, cap, rfl, hcap, hc⟩ := h.shape
  clear h
  have hmk := run_make_rows (P := Tryz.prog) 53 110 (.agg #[.int .i64 0, .int .i64 0, .int .i64 0]) 3 24 Tryz.underlying53 infoMic .i64 .i64 ps.length (by omega) (by omega)
  go_enter Tryz.func21, Tryz.ntmps21
  go_wp2
  go_loopw [4] (fun i wr => ∃ k : Nat, k ≤ ps.length ∧ i = .int .i64 k ∧ (∃ ys, Row wr 110 3 w.heap.size (w.heap.size + 1) (.slice (some ⟨w.heap.size, 0, none⟩) ps.length ps.length) ps.length ys ∧ ∀ j, j < k * 3 → ys[j]? = (mis ps)[j]?) ∧ Below w.heap.size w wr ∧ w.heap.size + 1 ≤ wr.heap.size) (fun i _ => ps.length - (intOf i).toNat)
  case atStart =>
    refine ⟨0, by omega, rfl, ⟨_, row_made w (.agg #[.int .i64 0, .int .i64 0, .int .i64 0]) 3 ps.length 110 (by simp [maxLen]; omega), fun j hj => absurd hj (by omega)⟩, (Below.refl _ _).alloc (Nat.le_refl _) _, by simp⟩
  case round =>
    obtain ⟨k, hk, rfl, ⟨ys, hrow, hys⟩, hb, hz⟩ := hrel
    by_cases hlt : k < ps.length
    · obtain ⟨b, o, rfl, hbl, hcell⟩ := hc (by omega)
      obtain ⟨c0, c1, c2⟩ := hcell k hlt
      have d0 := (hb.cell (p := ⟨b, o + k * 3, none⟩) hbl).trans c0
      have d1 := (hb.cell (p := ⟨b, o + k * 3 + 1, none⟩) hbl).trans c1
      have d2 := (hb.cell (p := ⟨b, o + k * 3 + 2, none⟩) hbl).trans c2
      have RH := hideIt hrow
      have YH := hideIt hys
      clear hcell hc c0 c1 c2 hrow hys
      go_wp2_with fail
      refine (toMic_any _ _ _ _).mono ?_
      rintro e w1 ⟨rfl, hb1⟩
      have R1 := hideIt (RH.out.below hb1 (by omega))
      obtain ⟨_, _, _, hsz, hfr, hcl⟩ := R1.out.at
      have hl := RH.out.len
      have f0 := hfr (k * 3)
      have f1 := hfr (k * 3 + 1)
      have f2 := hfr (k * 3 + 2)
      have e0 : w1.cell? ⟨w.heap.size, k * 3, none⟩ = some (ys[k * 3]'(by omega)) := by rw [hcl _ (by omega)]; simp
      have e1 : w1.cell? ⟨w.heap.size, k * 3 + 1, none⟩ = some (ys[k * 3 + 1]'(by omega)) := by rw [hcl _ (by omega)]; simp
      have e2 : w1.cell? ⟨w.heap.size, k * 3 + 2, none⟩ = some (ys[k * 3 + 2]'(by omega)) := by rw [hcl _ (by omega)]; simp
      have BH := hideIt (hb.trans (hb1.mono (show w.heap.size ≤ wr.heap.size by omega)))
      have hz1 := hb1.size
      clear hfr hcl hb1 hb d0 d1 d2
      have P1 := hideIt (R1.out.put3 k (.int .i64 ps[k].kind) (.int .i64 ps[k].at_) (.int .i64 ps[k].val))
      have B1 := hideIt (((BH.out.setCell (p := ⟨w.heap.size, k * 3, none⟩) (Nat.le_refl _) (.int .i64 ps[k].kind)).setCell (p := ⟨w.heap.size, k * 3 + 1, none⟩) (Nat.le_refl _) (.int .i64 ps[k].at_)).setCell (p := ⟨w.heap.size, k * 3 + 2, none⟩) (Nat.le_refl _) (.int .i64 ps[k].val))
      go_wp2
      go_roundw
      case rel => exact ⟨k + 1, by omega, by go_num, ⟨_, P1.out, put3M_step hlt hl YH.out⟩, B1.out, by simp; omega⟩
      case measure => simp [intOf]; omega
    · have e : k = ps.length := by omega
      subst e
      have hl := hrow.len
      have RH := hideIt hrow
      have YH := hideIt hys
      clear hrow hys hc
      go_wp2
      go_ret
      have e := mis_all hl YH.out
      refine ⟨_, rfl, ?_, hb⟩
      rw [← e]
      exact RH.out.wide (Nat.le_refl _) hz

theorem szMicroS_any (ao : Option Addr) (n cap : Nat) (left : Int) (w : World) (hn : n ≤ maxLen) (h0 : 0 ≤ left) (h1 : left ≤ 1048576) :
    Calls Tryz.prog 19 #[.slice ao n cap, .int .i64 left] w fun e w' => e = .returned (.int .i64 (less left n)) ∧ w' = w := by
  unfold maxLen at hn
  by_cases h : left < n
  · have e : less left n = -1 := by unfold less; rw [if_pos h]
    rw [e]; clear e
    go_enter Tryz.func19, Tryz.ntmps19
    go_wp2
    go_ret
    exact ⟨rfl, rfl⟩
  · have e : less left n = left - n := by unfold less; rw [if_neg h]
    rw [e]; clear e
    go_enter Tryz.func19, Tryz.ntmps19
    go_wp2
    go_ret
    exact ⟨rfl, rfl⟩

set_option maxHeartbeats 1000000 in
theorem eqMic_same (a v : Int) (f : Int) (w : World) : Calls Tryz.prog 56 #[.agg #[.int .i64 a, .int .i64 v, .int .i64 f], .agg #[.int .i64 a, .int .i64 v, .int .i64 f]] w fun e w' => e = .returned (.bool true) ∧ Below w.heap.size w w' := by
  go_enter Tryz.func56, Tryz.ntmps56
  go_wp2
  go_ret
  refine ⟨rfl, ?_⟩
  repeat (refine Below.alloc ?_ (by simp <;> omega) _)
  exact Below.refl _ _
end Go.Proofs.YtbjjdkemappelaaGreatDoor

namespace Go.Proofs.YtbjjdkemappelaaGreatDoor
open Go.RowKit

def strs (ss : List ByteArray) : List Value := ss.map Value.string
theorem strs_len (ss : List ByteArray) : (strs ss).length = ss.length := by simp [strs]
theorem strs_at (ss : List ByteArray) (k : Nat) (h : k < ss.length) : (strs ss)[k]? = some (.string ss[k]) := by simp [strs, h]
def RdT (w : World) (v : Value) (ss : List ByteArray) : Prop := Rd w 1 v ss.length (strs ss)
theorem RdT.shape {w : World} {v : Value} {ss : List ByteArray} (h : RdT w v ss) : ∃ ao cap, v = .slice ao ss.length cap ∧ ss.length ≤ cap ∧ (0 < ss.length → ∃ b o, ao = some ⟨b, o, none⟩ ∧ b < w.heap.size ∧ ∀ k (h : k < ss.length), w.cell? ⟨b, o + k, none⟩ = some (.string ss[k])) := by
  obtain ⟨_, ao, cap, rfl, h2, h3⟩ := h
  refine ⟨ao, cap, rfl, h2.1, fun hn => ?_⟩
  obtain ⟨b, o, e, hb, hc⟩ := h3 hn
  exact ⟨b, o, e, hb, fun k hk => (hc k (by omega)).trans (strs_at ss k hk)⟩
theorem info9 : (Tryz.prog.info? 9).map (fun i => (i.zero, i.size, i.bytes)) = some (some (.string ⟨#[]⟩), 1, 16) := by kernel_rfl
theorem below_drewS {B : Nat} {a w : World} (h : Below B a w) (n : Nat) : Below B a (w.drewN n) := by
  induction n with
  | zero => exact h
  | succ n ih => exact ⟨ih.os, ih.tape, ih.output, ih.size, ih.block⟩

set_option maxRecDepth 100000 in
set_option maxHeartbeats 2000000 in
theorem eqStringS_same (va vb : Value) (ss : List ByteArray) (w : World) (ha : RdT w va ss) (hb : RdT w vb ss) (hn : ss.length ≤ 2147483648) :
    Calls Tryz.prog 96 #[va, vb] w fun e w' => e = .returned (.bool true) ∧ Below w.heap.size w w' := by
  obtain ⟨ao, cap, rfl, hcap, hc⟩ := ha.shape
  obtain ⟨ao2, cap2, rfl, hcap2, hc2⟩ := hb.shape
  clear ha hb
  go_enter Tryz.func96, Tryz.ntmps96
  go_wp2
  go_loopw [5] (fun i wr => ∃ k : Nat, k ≤ ss.length ∧ i = .int .i64 k ∧ Below w.heap.size w wr) (fun i _ => ss.length - (intOf i).toNat)
  case atStart => exact ⟨0, by omega, rfl, Below.refl _ _⟩
  case round =>
    obtain ⟨k, hk, rfl, hbw⟩ := hrel
    by_cases hlt : k < ss.length
    · obtain ⟨b, o, rfl, hbl, hcell⟩ := hc (by omega)
      obtain ⟨b2, o2, rfl, hbl2, hcell2⟩ := hc2 (by omega)
      have hck : wr.cell? ⟨b, o + k, none⟩ = some (.string ss[k]) := (hbw.cell (p := ⟨b, o + k, none⟩) hbl).trans (hcell k hlt)
      have hck2 : wr.cell? ⟨b2, o2 + k, none⟩ = some (.string ss[k]) := (hbw.cell (p := ⟨b2, o2 + k, none⟩) hbl2).trans (hcell2 k hlt)
      have hlt' : (k : Int) < (ss.length : Int) := by omega
      have hge : (0 : Int) ≤ (k : Int) := by omega
      clear hcell hcell2 hc hc2
      generalize ss[k] = x at hck hck2
      go_wp2
      go_quiet (fail)
      go_wp2
      go_roundw
      case rel => exact ⟨k + 1, by omega, by go_num, below_drewS hbw _⟩
      case measure => simp [intOf]; omega
    · go_wp2
      go_ret
      exact ⟨rfl, hbw⟩

end Go.Proofs.YtbjjdkemappelaaGreatDoor

namespace Go.Proofs.YtbjjdkemappelaaGreatDoor
open Go.RowKit

end Go.Proofs.YtbjjdkemappelaaGreatDoor

namespace Go.Proofs.YtbjjdkemappelaaGreatDoor
open Go.RowKit

theorem belY {a b c : World} (h1 : Below a.heap.size a b) (h2 : Below b.heap.size b c) : Below a.heap.size a c := below_trans h1 h2 h1.size
end Go.Proofs.YtbjjdkemappelaaGreatDoor

namespace Go.Proofs.YtbjjdkemappelaaGreatDoor
open Go.RowKit

theorem ten_cells {w : World} {b : Nat} {t : TypeId} {x0 x1 x2 x3 x4 x5 x6 x7 x8 x9 : Value} (h : w.heap[b]? = some (.cells #[x0, x1, x2, x3, x4, x5, x6, x7, x8, x9] t (0, 0))) : w.cell? ⟨b, 0, none⟩ = some x0 ∧ w.cell? ⟨b, 1, none⟩ = some x1 ∧ w.cell? ⟨b, 2, none⟩ = some x2 ∧ w.cell? ⟨b, 3, none⟩ = some x3 ∧ w.cell? ⟨b, 4, none⟩ = some x4 ∧ w.cell? ⟨b, 5, none⟩ = some x5 ∧ w.cell? ⟨b, 6, none⟩ = some x6 ∧ w.cell? ⟨b, 7, none⟩ = some x7 ∧ w.cell? ⟨b, 8, none⟩ = some x8 ∧ w.cell? ⟨b, 9, none⟩ = some x9 ∧ w.frozen? ⟨b, 0, none⟩ = false ∧ w.frozen? ⟨b, 1, none⟩ = false ∧ w.frozen? ⟨b, 2, none⟩ = false ∧ w.frozen? ⟨b, 3, none⟩ = false ∧ w.frozen? ⟨b, 4, none⟩ = false ∧ w.frozen? ⟨b, 5, none⟩ = false ∧ w.frozen? ⟨b, 6, none⟩ = false ∧ w.frozen? ⟨b, 7, none⟩ = false ∧ w.frozen? ⟨b, 8, none⟩ = false ∧ w.frozen? ⟨b, 9, none⟩ = false := by
  simp [World.cell?, World.frozen?, h]
theorem ten_set0 {w : World} {b : Nat} {t : TypeId} {x0 x1 x2 x3 x4 x5 x6 x7 x8 x9 : Value} (h : w.heap[b]? = some (.cells #[x0, x1, x2, x3, x4, x5, x6, x7, x8, x9] t (0, 0))) (u : Value) : (w.setCell ⟨b, 0, none⟩ u).heap[b]? = some (.cells #[u, x1, x2, x3, x4, x5, x6, x7, x8, x9] t (0, 0)) := by simp [World.setCell, Array.getElem?_modify, h]
theorem ten_set1 {w : World} {b : Nat} {t : TypeId} {x0 x1 x2 x3 x4 x5 x6 x7 x8 x9 : Value} (h : w.heap[b]? = some (.cells #[x0, x1, x2, x3, x4, x5, x6, x7, x8, x9] t (0, 0))) (u : Value) : (w.setCell ⟨b, 1, none⟩ u).heap[b]? = some (.cells #[x0, u, x2, x3, x4, x5, x6, x7, x8, x9] t (0, 0)) := by simp [World.setCell, Array.getElem?_modify, h]
theorem ten_set2 {w : World} {b : Nat} {t : TypeId} {x0 x1 x2 x3 x4 x5 x6 x7 x8 x9 : Value} (h : w.heap[b]? = some (.cells #[x0, x1, x2, x3, x4, x5, x6, x7, x8, x9] t (0, 0))) (u : Value) : (w.setCell ⟨b, 2, none⟩ u).heap[b]? = some (.cells #[x0, x1, u, x3, x4, x5, x6, x7, x8, x9] t (0, 0)) := by simp [World.setCell, Array.getElem?_modify, h]
theorem ten_set3 {w : World} {b : Nat} {t : TypeId} {x0 x1 x2 x3 x4 x5 x6 x7 x8 x9 : Value} (h : w.heap[b]? = some (.cells #[x0, x1, x2, x3, x4, x5, x6, x7, x8, x9] t (0, 0))) (u : Value) : (w.setCell ⟨b, 3, none⟩ u).heap[b]? = some (.cells #[x0, x1, x2, u, x4, x5, x6, x7, x8, x9] t (0, 0)) := by simp [World.setCell, Array.getElem?_modify, h]
theorem ten_set4 {w : World} {b : Nat} {t : TypeId} {x0 x1 x2 x3 x4 x5 x6 x7 x8 x9 : Value} (h : w.heap[b]? = some (.cells #[x0, x1, x2, x3, x4, x5, x6, x7, x8, x9] t (0, 0))) (u : Value) : (w.setCell ⟨b, 4, none⟩ u).heap[b]? = some (.cells #[x0, x1, x2, x3, u, x5, x6, x7, x8, x9] t (0, 0)) := by simp [World.setCell, Array.getElem?_modify, h]
theorem ten_set5 {w : World} {b : Nat} {t : TypeId} {x0 x1 x2 x3 x4 x5 x6 x7 x8 x9 : Value} (h : w.heap[b]? = some (.cells #[x0, x1, x2, x3, x4, x5, x6, x7, x8, x9] t (0, 0))) (u : Value) : (w.setCell ⟨b, 5, none⟩ u).heap[b]? = some (.cells #[x0, x1, x2, x3, x4, u, x6, x7, x8, x9] t (0, 0)) := by simp [World.setCell, Array.getElem?_modify, h]
theorem ten_set6 {w : World} {b : Nat} {t : TypeId} {x0 x1 x2 x3 x4 x5 x6 x7 x8 x9 : Value} (h : w.heap[b]? = some (.cells #[x0, x1, x2, x3, x4, x5, x6, x7, x8, x9] t (0, 0))) (u : Value) : (w.setCell ⟨b, 6, none⟩ u).heap[b]? = some (.cells #[x0, x1, x2, x3, x4, x5, u, x7, x8, x9] t (0, 0)) := by simp [World.setCell, Array.getElem?_modify, h]
theorem ten_set7 {w : World} {b : Nat} {t : TypeId} {x0 x1 x2 x3 x4 x5 x6 x7 x8 x9 : Value} (h : w.heap[b]? = some (.cells #[x0, x1, x2, x3, x4, x5, x6, x7, x8, x9] t (0, 0))) (u : Value) : (w.setCell ⟨b, 7, none⟩ u).heap[b]? = some (.cells #[x0, x1, x2, x3, x4, x5, x6, u, x8, x9] t (0, 0)) := by simp [World.setCell, Array.getElem?_modify, h]
theorem ten_set8 {w : World} {b : Nat} {t : TypeId} {x0 x1 x2 x3 x4 x5 x6 x7 x8 x9 : Value} (h : w.heap[b]? = some (.cells #[x0, x1, x2, x3, x4, x5, x6, x7, x8, x9] t (0, 0))) (u : Value) : (w.setCell ⟨b, 8, none⟩ u).heap[b]? = some (.cells #[x0, x1, x2, x3, x4, x5, x6, x7, u, x9] t (0, 0)) := by simp [World.setCell, Array.getElem?_modify, h]
theorem ten_dev {w : World} {b : Nat} {t : TypeId} {x0 x1 x2 x3 x4 x5 x6 x7 x8 x9 : Value} (h : w.heap[b]? = some (.cells #[x0, x1, x2, x3, x4, x5, x6, x7, x8, x9] t (0, 0))) (p q r s : Value) : (putR w b p q r s).heap[b]? = some (.cells #[p, q, r, s, x4, x5, x6, x7, x8, x9] t (0, 0)) := ten_set3 (ten_set2 (ten_set1 (ten_set0 h p) q) r) s
/-- A box of ten cells is written. -/
def put10 (w : World) (b : Nat) (x0 x1 x2 x3 x4 x5 x6 x7 x8 x9 : Value) : World := ((((((((((w.setCell ⟨b, 0, none⟩ x0).setCell ⟨b, 1, none⟩ x1).setCell ⟨b, 2, none⟩ x2).setCell ⟨b, 3, none⟩ x3).setCell ⟨b, 4, none⟩ x4).setCell ⟨b, 5, none⟩ x5).setCell ⟨b, 6, none⟩ x6).setCell ⟨b, 7, none⟩ x7).setCell ⟨b, 8, none⟩ x8).setCell ⟨b, 9, none⟩ x9)
theorem tri3 {w : World} {b : Nat} {t : TypeId} {x y z : Value} (h : w.heap[b]? = some (.cells #[x, y, z] t (0, 0))) : w.cell? ⟨b, 0, none⟩ = some x ∧ w.cell? ⟨b, 1, none⟩ = some y ∧ w.cell? ⟨b, 2, none⟩ = some z ∧ w.frozen? ⟨b, 0, none⟩ = false ∧ w.frozen? ⟨b, 1, none⟩ = false ∧ w.frozen? ⟨b, 2, none⟩ = false := by simp [World.cell?, World.frozen?, h]
end Go.Proofs.YtbjjdkemappelaaGreatDoor

namespace Go.Proofs.YtbjjdkemappelaaGreatDoor
open Go.RowKit

set_option maxHeartbeats 2000000 in
/-- Two slices of steps that read alike are found alike. -/
theorem eqMicroS_same (va vb : Value) (ps : List Mi) (w : World) (ha : RdM w va ps) (hb : RdM w vb ps) (hn : ps.length ≤ 2147483648) :
    Calls Tryz.prog 23 #[va, vb] w fun e w' => e = .returned (.bool true) ∧ Below w.heap.size w w' := by
  obtain ⟨ao, cap, rfl, hcap, hc⟩ := ha.shape
  obtain ⟨ao2, cap2, rfl, hcap2, hc2⟩ := hb.shape
  clear ha hb
  go_enter Tryz.func23, Tryz.ntmps23
  go_wp2
  go_loopw [5] (fun i wr => ∃ k : Nat, k ≤ ps.length ∧ i = .int .i64 k ∧ Below w.heap.size w wr) (fun i _ => ps.length - (intOf i).toNat)
  case atStart => exact ⟨0, by omega, rfl, Below.refl _ _⟩
  case round =>
    obtain ⟨k, hk, rfl, hbw⟩ := hrel
    by_cases hlt : k < ps.length
    · obtain ⟨b, o, rfl, hbl, hcell⟩ := hc (by omega)
      obtain ⟨b2, o2, rfl, hbl2, hcell2⟩ := hc2 (by omega)
      obtain ⟨c0, c1, c2⟩ := hcell k hlt
      obtain ⟨c3, c4, c5⟩ := hcell2 k hlt
      have d0 := (hbw.cell (p := ⟨b, o + k * 3, none⟩) hbl).trans c0
      have d1 := (hbw.cell (p := ⟨b, o + k * 3 + 1, none⟩) hbl).trans c1
      have d2 := (hbw.cell (p := ⟨b, o + k * 3 + 2, none⟩) hbl).trans c2
      have d3 := (hbw.cell (p := ⟨b2, o2 + k * 3, none⟩) hbl2).trans c3
      have d4 := (hbw.cell (p := ⟨b2, o2 + k * 3 + 1, none⟩) hbl2).trans c4
      have d5 := (hbw.cell (p := ⟨b2, o2 + k * 3 + 2, none⟩) hbl2).trans c5
      have hlt' : (k : Int) < (ps.length : Int) := by omega
      have hge : (0 : Int) ≤ (k : Int) := by omega
      have hz := hbw.size
      clear hcell hcell2 hc hc2 c0 c1 c2 c3 c4 c5
      go_wp2_with fail
      go_region_with (go_at_call 56; refine (eqMic_same _ _ _ _).mono ?_; rintro e w1 ⟨rfl, hb1⟩)
      all_goals
        go_wp2
        go_roundw
        case rel => exact ⟨k + 1, by omega, by go_num, hbw.trans (Below.mono (Below.trans ((Below.refl _ _).drew) ‹_›) hz)⟩
        case measure => simp [intOf]; omega
    · go_wp2
      go_ret
      exact ⟨rfl, hbw⟩

end Go.Proofs.YtbjjdkemappelaaGreatDoor

namespace Go.Proofs.YtbjjdkemappelaaGreatDoor
open Go.RowKit

/-- Steps that may be written: they lie in a block of one's own, at whatever place. -/
def RowW (w : World) (lo hi : Nat) (v : Value) (td : List Mi) : Prop := RdM w v td ∧ (∀ b, v.ownBlock = some b → lo ≤ b ∧ b < hi ∧ b < w.heap.size ∧ (∀ j, w.frozen? ⟨b, j, none⟩ = false) ∧ ∃ o n c, v = .slice (some ⟨b, o, none⟩) n c)
theorem RowW.same {w w' : World} {lo hi : Nat} {v : Value} {td : List Mi} (h : RowW w lo hi v td) (hz : w.heap.size ≤ w'.heap.size) (hs : ∀ b, lo ≤ b → b < hi → b < w.heap.size → w'.heap[b]? = w.heap[b]?) : RowW w' lo hi v td :=
  ⟨Rd.same h.1 hz (fun b hb e => hs b (h.2 b e).1 (h.2 b e).2.1 hb), fun b e => by
    obtain ⟨h1, h2, h3, h4, h5⟩ := h.2 b e
    refine ⟨h1, h2, Nat.lt_of_lt_of_le h3 hz, fun j => ?_, h5⟩
    have := h4 j
    unfold World.frozen? at this ⊢
    simp only [hs b h1 h2 h3]
    exact this⟩
theorem RowW.below {w w' : World} {lo hi : Nat} {v : Value} {td : List Mi} (h : RowW w lo hi v td) {B : Nat} (hb : Below B w w') (hB : hi ≤ B) : RowW w' lo hi v td := h.same hb.size (fun b _ h2 _ => hb.block b (by omega))
theorem RowW.outside {w w' : World} {lo hi : Nat} {v : Value} {td : List Mi} (h : RowW w lo hi v td) {lo' hi' : Nat} (ho : Outside lo' hi' w w') (hd : hi ≤ lo' ∨ hi' ≤ lo) : RowW w' lo hi v td := h.same ho.size (fun b h1 h2 h3 => ho.block b h3 (by omega))
theorem RowW.wide {w : World} {lo hi : Nat} {v : Value} {td : List Mi} (h : RowW w lo hi v td) {lo' hi' : Nat} (h1 : lo' ≤ lo) (h2 : hi ≤ hi') : RowW w lo' hi' v td := ⟨h.1, fun b e => by obtain ⟨a, b', c, d⟩ := h.2 b e; exact ⟨by omega, by omega, c, d⟩⟩
theorem RowW.of_row {w : World} {lo hi : Nat} {v : Value} {td : List Mi} (h : Row w 110 3 lo hi v td.length (mis td)) : RowW w lo hi v td := by
  refine ⟨h.rd, fun b e => ?_⟩
  rcases h.shape with ⟨rfl, _⟩ | ⟨b', cap, rfl, _, _⟩
  · cases e
  · cases e
    obtain ⟨_, h1, h2, h3, h4, _⟩ := h.at
    exact ⟨h1, h2, (h.1.lt _ rfl).2, h4, _, _, _, rfl⟩

/-- A file system that can be read. -/
def RdF (w : World) (v : Value) (ws : List Int) (ps : List St) (es : List Int) (qs : List Se) (hs : List Int) (td : List Mi) (cd vl : Int) (nm : List ByteArray) (fr : Bool) : Prop :=
  ∃ aW cW aP cP aS cS aQ cQ aH cH aT cT aN cN, v = .agg #[.slice aW ws.length cW, .slice aP ps.length cP, .slice aS es.length cS, .slice aQ qs.length cQ, .slice aH hs.length cH, .slice aT td.length cT, .int .i64 cd, .int .i64 vl, .slice aN nm.length cN, .bool fr] ∧ RdDev w (.agg #[.slice aW ws.length cW, .slice aP ps.length cP, .slice aS es.length cS, .slice aQ qs.length cQ]) ws ps es qs ∧ RdI w (.slice aH hs.length cH) hs ∧ RdM w (.slice aT td.length cT) td ∧ RdT w (.slice aN nm.length cN) nm
theorem RdF.below {w w' : World} {v : Value} {ws : List Int} {ps : List St} {es : List Int} {qs : List Se} {hs : List Int} {td : List Mi} {cd vl : Int} {nm : List ByteArray} {fr : Bool} (h : RdF w v ws ps es qs hs td cd vl nm fr) (s : Below w.heap.size w w') : RdF w' v ws ps es qs hs td cd vl nm fr := by
  obtain ⟨aW, cW, aP, cP, aS, cS, aQ, cQ, aH, cH, aT, cT, aN, cN, rfl, a, b, c, d⟩ := h
  exact ⟨aW, cW, aP, cP, aS, cS, aQ, cQ, aH, cH, aT, cT, aN, cN, rfl, a.below s, Rd.below b s, Rd.below c s, Rd.below d s⟩
/-- Where the rows of a file system lie. -/
structure FarF (lo hi ld ud lh uh lt ut ln un : Nat) : Prop where
  d0 : lo ≤ ld
  d1 : ud ≤ hi
  h0 : lo ≤ lh
  h1 : uh ≤ hi
  t0 : lo ≤ lt
  t1 : ut ≤ hi
  n0 : lo ≤ ln
  n1 : un ≤ hi
  dh : ud ≤ lh ∨ uh ≤ ld
  dt : ud ≤ lt ∨ ut ≤ ld
  dn : ud ≤ ln ∨ un ≤ ld
  ht : uh ≤ lt ∨ ut ≤ lh
  hn : uh ≤ ln ∨ un ≤ lh
  tn : ut ≤ ln ∨ un ≤ lt
/-- A file system of a call's own. -/
def RowF (w : World) (lo hi : Nat) (v : Value) (ws : List Int) (ps : List St) (es : List Int) (qs : List Se) (hs : List Int) (td : List Mi) (cd vl : Int) (nm : List ByteArray) (fr : Bool) : Prop :=
  ∃ vW vP vS vQ vH vT vN ld ud lh uh lt ut ln un, v = .agg #[vW, vP, vS, vQ, vH, vT, .int .i64 cd, .int .i64 vl, vN, .bool fr] ∧ RowDev w ld ud (.agg #[vW, vP, vS, vQ]) ws ps es qs ∧ Row w 3 1 lh uh vH hs.length (ints hs) ∧ RowW w lt ut vT td ∧ Row w 9 1 ln un vN nm.length (strs nm) ∧ FarF lo hi ld ud lh uh lt ut ln un
theorem RowF.rd {w : World} {lo hi : Nat} {v : Value} {ws : List Int} {ps : List St} {es : List Int} {qs : List Se} {hs : List Int} {td : List Mi} {cd vl : Int} {nm : List ByteArray} {fr : Bool} (h : RowF w lo hi v ws ps es qs hs td cd vl nm fr) : RdF w v ws ps es qs hs td cd vl nm fr := by
  obtain ⟨vW, vP, vS, vQ, vH, vT, vN, ld, ud, lh, uh, lt, ut, ln, un, rfl, a, b, c, d, -⟩ := h
  obtain ⟨aW, cW, aP, cP, aS, cS, aQ, cQ, e, -, -⟩ := a.rd.form
  cases e
  obtain ⟨-, aH, cH, rfl, -⟩ := b.rd
  obtain ⟨-, aT, cT, rfl, -⟩ := c.1
  obtain ⟨-, aN, cN, rfl, -⟩ := d.rd
  exact ⟨aW, cW, aP, cP, aS, cS, aQ, cQ, aH, cH, aT, cT, aN, cN, rfl, a.rd, b.rd, c.1, d.rd⟩
theorem RowF.below {w w' : World} {lo hi : Nat} {v : Value} {ws : List Int} {ps : List St} {es : List Int} {qs : List Se} {hs : List Int} {td : List Mi} {cd vl : Int} {nm : List ByteArray} {fr : Bool} (h : RowF w lo hi v ws ps es qs hs td cd vl nm fr) {B : Nat} (hb : Below B w w') (hB : hi ≤ B) : RowF w' lo hi v ws ps es qs hs td cd vl nm fr := by
  obtain ⟨vW, vP, vS, vQ, vH, vT, vN, ld, ud, lh, uh, lt, ut, ln, un, rfl, a, b, c, d, f⟩ := h
  have := f.d1; have := f.h1; have := f.t1; have := f.n1
  exact ⟨vW, vP, vS, vQ, vH, vT, vN, ld, ud, lh, uh, lt, ut, ln, un, rfl, a.below hb (by omega), b.below hb (by omega), c.below hb (by omega), d.below hb (by omega), f⟩
theorem RowF.form {w : World} {lo hi : Nat} {v : Value} {ws : List Int} {ps : List St} {es : List Int} {qs : List Se} {hs : List Int} {td : List Mi} {cd vl : Int} {nm : List ByteArray} {fr : Bool} (h : RowF w lo hi v ws ps es qs hs td cd vl nm fr) : ∃ aW cW aP cP aS cS aQ cQ aH cH aT cT aN cN, v = .agg #[.slice aW ws.length cW, .slice aP ps.length cP, .slice aS es.length cS, .slice aQ qs.length cQ, .slice aH hs.length cH, .slice aT td.length cT, .int .i64 cd, .int .i64 vl, .slice aN nm.length cN, .bool fr] := by
  obtain ⟨aW, cW, aP, cP, aS, cS, aQ, cQ, aH, cH, aT, cT, aN, cN, rfl, -⟩ := h.rd
  exact ⟨aW, cW, aP, cP, aS, cS, aQ, cQ, aH, cH, aT, cT, aN, cN, rfl⟩
end Go.Proofs.YtbjjdkemappelaaGreatDoor

namespace Go.Proofs.YtbjjdkemappelaaGreatDoor
open Go.RowKit

set_option maxRecDepth 100000 in
set_option maxHeartbeats 4000000 in
theorem eqAnswer_same (c v : Int) (va vb : Value) (ss : List ByteArray) (w : World) (ha : RdT w va ss) (hb : RdT w vb ss) (hn : ss.length ≤ 2147483648) :
    Calls Tryz.prog 66 #[.agg #[.int .i64 c, .int .i64 v, va], .agg #[.int .i64 c, .int .i64 v, vb]] w fun e w' => e = .returned (.bool true) ∧ Below w.heap.size w w' := by
  have LE := hideIt (fun w1 (h : Below w.heap.size w w1) => eqStringS_same va vb ss w1 (Rd.below ha h) (Rd.below hb h) hn)
  obtain ⟨-, aa, ca, rfl, -⟩ := ha
  obtain ⟨-, ab, cb, rfl, -⟩ := hb
  have BW : Hid (Below w.heap.size w ((w.alloc (.cells #[.int .i64 c, .int .i64 v, .slice aa ss.length ca] 65)).alloc (.cells #[.int .i64 c, .int .i64 v, .slice ab ss.length cb] 65))) := ((Below.refl _ _).alloc (Nat.le_refl _) _).alloc (by simp) _
  go_enter Tryz.func66, Tryz.ntmps66
  go_wp2_with fail
  refine (LE.out _ BW.out).mono ?_
  rintro e w1 ⟨rfl, hb1⟩
  have B1 := hideIt (below_trans BW.out hb1 BW.out.size)
  clear hb1
  go_wp2
  go_ret
  exact ⟨rfl, B1.out⟩
end Go.Proofs.YtbjjdkemappelaaGreatDoor

namespace Go.Proofs.YtbjjdkemappelaaGreatDoor
open Go.RowKit

theorem rowT_of_rowIs {w : World} {g : Nat} {zs : List ByteArray} {f : Nat → Value} {lo hi : Nat} (h : w.rowIs g 9 zs.length f) (hf : ∀ i (h : i < zs.length), f i = .string zs[i]) (h1 : lo ≤ g) (h2 : g < hi) (hm : zs.length ≤ maxLen) :
    Row w 9 1 lo hi (.slice (some ⟨g, 0, none⟩) zs.length zs.length) zs.length (strs zs) := by
  obtain ⟨c, hb, hn, hc⟩ := h
  refine ⟨⟨by simp [strs], .inr ⟨g, zs.length, c, rfl, h1, hb, Nat.le_refl _, hm, by omega, ?_⟩⟩, fun k hk => by cases hk; exact h2⟩
  apply List.ext_getElem?
  intro i
  by_cases hi : i < zs.length
  · rw [List.getElem?_take, if_pos (by omega), strs_at zs i hi, Array.getElem?_toList, hc i hi, hf i hi]
  · rw [List.getElem?_eq_none (by simp; omega), List.getElem?_eq_none (by simp [strs]; omega)]

set_option maxHeartbeats 2000000 in
theorem toStringS_any (v : Value) (zs : List ByteArray) (w : World) (h : RdT w v zs) (hn : zs.length ≤ 1048576) :
    Calls Tryz.prog 90 #[v] w fun e w' => ∃ v', e = .returned v' ∧ Row w' 9 1 w.heap.size w'.heap.size v' zs.length (strs zs) ∧ Below w.heap.size w w' := by
  obtain ⟨ao, cap, rfl, hcap, hc⟩ := h.shape
  have hmk := run_make_row' (P := Tryz.prog) 58 9 (.string ⟨#[]⟩) 16 Tryz.underlying58 info9 rfl .i64 .i64 zs.length (by omega) (by omega)
  go_enter Tryz.func90, Tryz.ntmps90
  go_wp2
  go_loopw [4] (fun i wr => ∃ k : Nat, k ≤ zs.length ∧ i = .int .i64 k ∧ wr.rowIs w.heap.size 9 zs.length (fun j => if h : j < k ∧ j < zs.length then .string zs[j] else .string ⟨#[]⟩) ∧ Below w.heap.size w wr ∧ wr.heap.size = w.heap.size + 1) (fun i _ => zs.length - (intOf i).toNat)
  case atStart =>
    refine ⟨0, by omega, rfl, ?_, (Below.refl _ _).alloc (Nat.le_refl _) _, by simp⟩
    exact (World.rowIs_made w (.string ⟨#[]⟩) zs.length 9).congr (fun i hi => by simp)
  case round =>
    obtain ⟨k, hk, rfl, hrow, hb, hz⟩ := hrel
    by_cases hlt : k < zs.length
    · obtain ⟨b, o, rfl, hbl, hcell⟩ := hc (by omega)
      have hck : wr.cell? ⟨b, o + k, none⟩ = some (.string zs[k]) := (hb.cell (p := ⟨b, o + k, none⟩) hbl).trans (hcell k hlt)
      have hfr := hrow.frozen k
      have hce := hrow.cell hlt
      have R := hrow.set k (.string zs[k])
      have B := hb.setCell (p := ⟨w.heap.size, k, none⟩) (Nat.le_refl _) (.string zs[k])
      have RH := hideIt R
      have BH := hideIt B
      clear R B hrow hcell hc
      go_wp2
      go_roundw
      case rel =>
        refine ⟨k + 1, by omega, by go_num, RH.out.congr (fun j hj => ?_), BH.out, by simp [hz]⟩
        by_cases e : j = k
        · subst e; simp [hj]
        · by_cases e2 : j < k
          · simp [e, e2, hj, show j < k + 1 by omega]
          · simp [e, e2, show ¬ j < k + 1 by omega]
      case measure => simp [intOf]; omega
    · have e : k = zs.length := by omega
      subst e
      go_wp2
      go_ret
      refine ⟨_, rfl, rowT_of_rowIs hrow (fun i hi => by simp [hi]) (Nat.le_refl _) (by omega) (by simp [maxLen]; omega), hb⟩

set_option maxHeartbeats 2000000 in
theorem szStringS_any (ao : Option Addr) (ss : List ByteArray) (cap : Nat) (left : Int) (w : World) (h : RdT w (.slice ao ss.length cap) ss) (hn : ss.length ≤ maxLen) (hs : ∀ k (hk : k < ss.length), ss[k].size ≤ maxLen) (h0 : 0 ≤ left) (h1 : left ≤ 1048576) :
    Calls Tryz.prog 87 #[.slice ao ss.length cap, .int .i64 left] w fun e w' => ∃ r : Int, e = .returned (.int .i64 r) ∧ (0 ≤ r → ss.length ≤ 1048576 ∧ r ≤ 1048576) ∧ -1 ≤ r ∧ w' = w := by
  obtain ⟨ao', cap', e, hcap, hc⟩ := h.shape
  cases e
  unfold maxLen at hn hs
  clear h
  have HC := hideIt hc
  have HS := hideIt hs
  clear hc hs hcap
  by_cases c : left < (ss.length : Int)
  · have c' : left - (ss.length : Int) < 0 := by omega
    go_enter Tryz.func87, Tryz.ntmps87
    go_wp2
    go_ret
    exact ⟨-1, rfl, fun h => absurd h (by decide), by decide, rfl⟩
  · have c' : ¬ left - (ss.length : Int) < 0 := by omega
    have hl : ss.length ≤ 1048576 := by omega
    go_enter Tryz.func87, Tryz.ntmps87
    go_wp2
    go_loop [1, 5] (fun l i => ∃ k : Nat, k ≤ ss.length ∧ i = .int .i64 k ∧ ∃ z : Int, l = .int .i64 z ∧ 0 ≤ z ∧ z ≤ 1048576) (fun _ i => ss.length - (intOf i).toNat)
    case atStart => exact ⟨0, by omega, rfl, _, rfl, by omega, by omega⟩
    case round =>
      obtain ⟨k, hk, rfl, z, rfl, z0, z1⟩ := hrel
      by_cases hlt : k < ss.length
      · obtain ⟨b, o, rfl, hbl, hcell⟩ := HC.out (by omega)
        have hck := hcell k hlt
        have hsz := HS.out k hlt
        clear hcell HC HS
        generalize ss[k] = x at hck hsz
        by_cases d : z < (x.size : Int)
        · have d' : z - (x.size : Int) < 0 := by omega
          go_wp2
          go_ret
          exact ⟨-1, rfl, fun h => absurd h (by decide), by decide, rfl⟩
        · have d' : ¬ z - (x.size : Int) < 0 := by omega
          go_wp2
          go_round
          case rel => exact ⟨k + 1, by omega, by go_num, z - (x.size : Int), by go_num, by omega, by omega⟩
          case measure => simp [intOf]; omega
      · have e : k = ss.length := by omega
        subst e
        go_wp2
        go_ret
        exact ⟨z, rfl, fun _ => by omega, by omega, rfl⟩

set_option maxHeartbeats 2000000 in
theorem szAnswer_any (c v : Int) (ao : Option Addr) (ss : List ByteArray) (cap : Nat) (left : Int) (w : World) (h : RdT w (.slice ao ss.length cap) ss) (hn : ss.length ≤ maxLen) (hs : ∀ k (hk : k < ss.length), ss[k].size ≤ maxLen) (h0 : 0 ≤ left) (h1 : left ≤ 1048576) :
    Calls Tryz.prog 60 #[.agg #[.int .i64 c, .int .i64 v, .slice ao ss.length cap], .int .i64 left] w fun e w' => ∃ r : Int, e = .returned (.int .i64 r) ∧ (0 ≤ r → ss.length ≤ 1048576 ∧ r ≤ 1048576) ∧ -1 ≤ r ∧ Below w.heap.size w w' := by
  have BW : Hid (Below w.heap.size w (w.alloc (.cells #[.int .i64 c, .int .i64 v, .slice ao ss.length cap] 60))) := (Below.refl _ _).alloc (Nat.le_refl _) _
  have LS := hideIt (szStringS_any ao ss cap left _ (Rd.below h BW.out) hn hs h0 h1)
  clear h hn hs
  go_enter Tryz.func60, Tryz.ntmps60
  go_wp2_with fail
  refine LS.out.mono ?_
  rintro e w1 ⟨r, rfl, hr, hr1, hw1⟩
  subst w1
  clear LS
  by_cases c : r < 0
  · go_wp2
    go_ret
    exact ⟨-1, rfl, fun h => absurd h (by decide), by decide, BW.out⟩
  · go_wp2
    go_ret
    exact ⟨r, rfl, hr, hr1, BW.out⟩

theorem tr3_set0 {w : World} {b : Nat} {t : TypeId} {x y z : Value} (h : w.heap[b]? = some (.cells #[x, y, z] t (0, 0))) (u : Value) : (w.setCell ⟨b, 0, none⟩ u).heap[b]? = some (.cells #[u, y, z] t (0, 0)) := by simp [World.setCell, Array.getElem?_modify, h]
theorem tr3_set1 {w : World} {b : Nat} {t : TypeId} {x y z : Value} (h : w.heap[b]? = some (.cells #[x, y, z] t (0, 0))) (u : Value) : (w.setCell ⟨b, 1, none⟩ u).heap[b]? = some (.cells #[x, u, z] t (0, 0)) := by simp [World.setCell, Array.getElem?_modify, h]
set_option maxRecDepth 100000 in
set_option maxHeartbeats 4000000 in
theorem toAnswer_any (c v : Int) (ao : Option Addr) (ss : List ByteArray) (cap : Nat) (w : World) (h : RdT w (.slice ao ss.length cap) ss) (hn : ss.length ≤ 1048576) :
    Calls Tryz.prog 63 #[.agg #[.int .i64 c, .int .i64 v, .slice ao ss.length cap]] w fun e w' => ∃ vN, e = .returned (.agg #[.int .i64 c, .int .i64 v, vN]) ∧ Row w' 9 1 w.heap.size w'.heap.size vN ss.length (strs ss) ∧ Below w.heap.size w w' := by
  obtain ⟨V, hV⟩ : ∃ V, V = (((w.alloc (.cells #[.int .i64 c, .int .i64 v, .slice ao ss.length cap] 60)).alloc (.cells #[.int .i64 0, .int .i64 0, .slice none 0 0] 65)).alloc (.cells #[.int .i64 0, .int .i64 0, .slice none 0 0] 65)) := ⟨_, rfl⟩
  have hzV : V.heap.size = w.heap.size + 1 + 1 + 1 := by rw [hV]; simp
  have BV : Hid (Below w.heap.size w V) := by rw [hV]; exact (((Below.refl _ _).alloc (Nat.le_refl _) _).alloc (by simp) _).alloc (by simp <;> omega) _
  have X0 : Hid (V.heap[w.heap.size]? = some (.cells #[.int .i64 c, .int .i64 v, .slice ao ss.length cap] 60 (0, 0))) := by rw [hV]; exact at_old (at_old (at_new rfl))
  have Y0 : Hid (V.heap[w.heap.size + 1]? = some (.cells #[.int .i64 0, .int .i64 0, .slice none 0 0] 65 (0, 0))) := by rw [hV]; exact at_old (at_new (by simp))
  have Z0 : Hid (V.heap[w.heap.size + 1 + 1]? = some (.cells #[.int .i64 0, .int .i64 0, .slice none 0 0] 65 (0, 0))) := by rw [hV]; exact at_new (by simp)
  obtain ⟨V1, hV1⟩ : ∃ V1, V1 = (V.setCell ⟨w.heap.size + 1 + 1, 0, none⟩ (.int .i64 c)).setCell ⟨w.heap.size + 1 + 1, 1, none⟩ (.int .i64 v) := ⟨_, rfl⟩
  have O1 : Outside (w.heap.size + 2) (w.heap.size + 3) V V1 := by rw [hV1]; exact ((Outside.refl _ _ _).setCell (a := ⟨w.heap.size + 1 + 1, 0, none⟩) (by simp only; omega) (by simp only; omega) _).setCell (a := ⟨w.heap.size + 1 + 1, 1, none⟩) (by simp only; omega) (by simp only; omega) _
  have hz1 : w.heap.size + 3 ≤ V1.heap.size ∧ V1.heap.size ≤ w.heap.size + 3 := by rw [hV1]; simp [World.setCell, hzV]
  have BV1 : Hid (Below w.heap.size w V1) := BV.out.trans (O1.below (by omega) (by omega))
  have X1 : Hid (V1.heap[w.heap.size]? = some (.cells #[.int .i64 c, .int .i64 v, .slice ao ss.length cap] 60 (0, 0))) := (O1.block _ (by omega) (by omega)).trans X0.out
  have Y1 : Hid (V1.heap[w.heap.size + 1]? = some (.cells #[.int .i64 0, .int .i64 0, .slice none 0 0] 65 (0, 0))) := (O1.block _ (by omega) (by omega)).trans Y0.out
  have Z1 : Hid (V1.heap[w.heap.size + 1 + 1]? = some (.cells #[.int .i64 c, .int .i64 v, .slice none 0 0] 65 (0, 0))) := by rw [hV1]; exact tr3_set1 (tr3_set0 Z0.out _) _
  have LT := hideIt (toStringS_any (.slice ao ss.length cap) ss V1 (Rd.below h BV1.out) hn)
  clear h O1
  obtain ⟨x0, x1, x2, -⟩ := tri3 X0.out
  obtain ⟨z0, z1, z2, z3, z4, z5⟩ := tri3 Z0.out
  have hzV' := hideIt hzV
  clear hzV
  go_enter Tryz.func63, Tryz.ntmps63
  go_upto_region 2 with fail
  rw [← hV]
  clear hV
  go_upto_region 4 with fail
  rw [← hV1]
  clear x0 x1 x2 z0 z1 z2 z3 z4 z5 X0 Y0 Z0 BV hV1
  obtain ⟨x0, x1, x2, -⟩ := tri3 X1.out
  go_wp2_with fail
  refine LT.out.mono ?_
  rintro e w1 ⟨v1, rfl, hr1, hb1⟩
  obtain ⟨-, aN, cN, rfl, -⟩ := hr1.rd
  have zz := hb1.size
  have B1 := hideIt (below_trans BV1.out hb1 BV1.out.size)
  have Y2 := hideIt ((hb1.block _ (by omega)).trans Y1.out)
  have Z2 := hideIt ((hb1.block _ (by omega)).trans Z1.out)
  have R2 : Hid (Row w1 9 1 (w.heap.size + 3) w1.heap.size (.slice aN ss.length cN) ss.length (strs ss)) := hr1.wide (by omega) (Nat.le_refl _)
  clear hr1 hb1 LT X1 Y1 Z1 x0 x1 x2 BV1
  obtain ⟨y0, y1, y2, y3, y4, y5⟩ := tri3 Y2.out
  obtain ⟨z0, z1, z2, z3, z4, z5⟩ := tri3 Z2.out
  go_wp2
  refine bodyPost_ret (v := .agg #[.int .i64 c, .int .i64 v, .slice aN ss.length cN]) (by simp [results, Tryz.results63, go_sem, y0, y1, y2]) rfl ?_
  have O : Outside (w.heap.size + 1) (w.heap.size + 3) w1 ((((w1.setCell ⟨w.heap.size + 1 + 1, 2, none⟩ (.slice aN ss.length cN)).setCell ⟨w.heap.size + 1, 0, none⟩ (.int .i64 c)).setCell ⟨w.heap.size + 1, 1, none⟩ (.int .i64 v)).setCell ⟨w.heap.size + 1, 2, none⟩ (.slice aN ss.length cN)) := by
    repeat (refine Outside.setCell ?_ (by simp only; omega) (by simp only; omega) _)
    exact Outside.refl _ _ _
  have hz3 := O.size
  exact ⟨_, rfl, (R2.out.outside O (by omega) (Nat.le_refl _)).wide (by omega) (by omega), B1.out.trans (O.below (by omega) (by omega))⟩
end Go.Proofs.YtbjjdkemappelaaGreatDoor

namespace Go.Proofs.YtbjjdkemappelaaGreatDoor
open Go.RowKit

theorem tenD {w : World} {b : Nat} {t : TypeId} {x0 x1 x2 x3 x4 x5 x6 x7 x8 x9 : Value} (h : w.heap[b]? = some (.cells #[x0, x1, x2, x3, x4, x5, x6, x7, x8, x9] t (0, 0))) : w.cell? ⟨b, 0, none⟩ = some x0 ∧ w.cell? ⟨b, 1, none⟩ = some x1 ∧ w.cell? ⟨b, 2, none⟩ = some x2 ∧ w.cell? ⟨b, 3, none⟩ = some x3 := by obtain ⟨a, b, c, d, -⟩ := ten_cells h; exact ⟨a, b, c, d⟩
theorem tenH {w : World} {b : Nat} {t : TypeId} {x0 x1 x2 x3 x4 x5 x6 x7 x8 x9 : Value} (h : w.heap[b]? = some (.cells #[x0, x1, x2, x3, x4, x5, x6, x7, x8, x9] t (0, 0))) : w.cell? ⟨b, 4, none⟩ = some x4 := (ten_cells h).2.2.2.2.1
theorem tenT {w : World} {b : Nat} {t : TypeId} {x0 x1 x2 x3 x4 x5 x6 x7 x8 x9 : Value} (h : w.heap[b]? = some (.cells #[x0, x1, x2, x3, x4, x5, x6, x7, x8, x9] t (0, 0))) : w.cell? ⟨b, 5, none⟩ = some x5 := (ten_cells h).2.2.2.2.2.1
theorem tenA {w : World} {b : Nat} {t : TypeId} {x0 x1 x2 x3 x4 x5 x6 x7 x8 x9 : Value} (h : w.heap[b]? = some (.cells #[x0, x1, x2, x3, x4, x5, x6, x7, x8, x9] t (0, 0))) : w.cell? ⟨b, 6, none⟩ = some x6 ∧ w.cell? ⟨b, 7, none⟩ = some x7 ∧ w.cell? ⟨b, 8, none⟩ = some x8 := by obtain ⟨-, -, -, -, -, -, a, b, c, -⟩ := ten_cells h; exact ⟨a, b, c⟩
theorem tenB {w : World} {b : Nat} {t : TypeId} {x0 x1 x2 x3 x4 x5 x6 x7 x8 x9 : Value} (h : w.heap[b]? = some (.cells #[x0, x1, x2, x3, x4, x5, x6, x7, x8, x9] t (0, 0))) : w.cell? ⟨b, 9, none⟩ = some x9 := (ten_cells h).2.2.2.2.2.2.2.2.2.1
/-- A box stays where nothing below is written. -/
theorem box_below {c w' : World} {b : Nat} {o : Obj} {B : Nat} (h : c.heap[b]? = some o) (hb : Below B c w') (hB : b < B) : w'.heap[b]? = some o := (hb.block b hB).trans h
theorem lt_box {c : World} {b : Nat} {o : Obj} (h : c.heap[b]? = some o) : b < c.heap.size := (Array.getElem?_eq_some_iff.1 h).1
set_option maxRecDepth 100000 in
set_option maxHeartbeats 8000000 in
theorem szFs_any (aW aP aS aQ aH aT aN : Option Addr) (cW cP cS cQ cH cT cN : Nat) (ws : List Int) (ps : List St) (es : List Int) (qs : List Se) (hs : List Int) (td : List Mi) (cd vl : Int) (nm : List ByteArray) (fr : Bool) (w : World) (hws : ws.length ≤ maxLen) (hps : ps.length ≤ maxLen) (hes : es.length ≤ maxLen) (hqs : qs.length ≤ maxLen) (hhs : hs.length ≤ maxLen) (htd : td.length ≤ maxLen) (hnm : nm.length ≤ maxLen) (hN : RdT w (.slice aN nm.length cN) nm) (hz : ∀ k (hk : k < nm.length), nm[k].size ≤ maxLen) :
    Calls Tryz.prog 27 #[.agg #[.slice aW ws.length cW, .slice aP ps.length cP, .slice aS es.length cS, .slice aQ qs.length cQ, .slice aH hs.length cH, .slice aT td.length cT, .int .i64 cd, .int .i64 vl, .slice aN nm.length cN, .bool fr], .int .i64 1048576] w fun e w' => ∃ r : Int, e = .returned (.int .i64 r) ∧ (0 ≤ r → (ws.length ≤ 1048576 ∧ ps.length ≤ 1048576 ∧ es.length ≤ 1048576 ∧ qs.length ≤ 1048576 ∧ hs.length ≤ 1048576 ∧ td.length ≤ 1048576 ∧ nm.length ≤ 1048576) ∧ r ≤ 1048576) ∧ -1 ≤ r ∧ Below w.heap.size w w' := by
  obtain ⟨V, hV⟩ : ∃ V, V = w.alloc (.cells #[.slice aW ws.length cW, .slice aP ps.length cP, .slice aS es.length cS, .slice aQ qs.length cQ, .slice aH hs.length cH, .slice aT td.length cT, .int .i64 cd, .int .i64 vl, .slice aN nm.length cN, .bool fr] 62) := ⟨_, rfl⟩
  have BV : Hid (Below w.heap.size w V) := by rw [hV]; exact (Below.refl _ _).alloc (Nat.le_refl _) _
  have XV : Hid (V.heap[w.heap.size]? = some (.cells #[.slice aW ws.length cW, .slice aP ps.length cP, .slice aS es.length cS, .slice aQ qs.length cQ, .slice aH hs.length cH, .slice aT td.length cT, .int .i64 cd, .int .i64 vl, .slice aN nm.length cN, .bool fr] 62 (0, 0))) := by rw [hV]; exact at_new rfl
  have LD : Hid (Calls Tryz.prog 8 #[.agg #[.slice aW ws.length cW, .slice aP ps.length cP, .slice aS es.length cS, .slice aQ qs.length cQ], .int .i64 1048576] V fun e w' => ∃ r : Int, e = .returned (.int .i64 r) ∧ (0 ≤ r → (ws.length ≤ 1048576 ∧ ps.length ≤ 1048576 ∧ es.length ≤ 1048576 ∧ qs.length ≤ 1048576) ∧ r ≤ 1048576) ∧ -1 ≤ r ∧ Below V.heap.size V w') := by
    refine (szDevices_any aW aP aS aQ ws.length ps.length es.length qs.length cW cP cS cQ V hws hps hes hqs).mono ?_
    rintro e w1 ⟨rfl, hb⟩
    refine ⟨_, rfl, ?_, ?_, hb⟩
    · intro h
      split at h
      · exact absurd h (by decide)
      · rename_i c
        rw [if_neg c]
        omega
    · split <;> omega
  have LH : Hid (∀ (r : Int) w1, 0 ≤ r → r ≤ 1048576 → Calls Tryz.prog 59 #[.slice aH hs.length cH, .int .i64 r] w1 fun e w' => ∃ q : Int, e = .returned (.int .i64 q) ∧ (0 ≤ q → hs.length ≤ 1048576 ∧ q ≤ 1048576) ∧ -1 ≤ q ∧ w' = w1) := by
    intro r w1 h0 h1
    refine (szIntS_any aH hs.length cH r w1 hhs h0 h1).mono ?_
    rintro e w1 ⟨rfl, rfl⟩
    refine ⟨_, rfl, ?_, ?_, rfl⟩ <;> unfold less
    · intro h
      split at h
      · exact absurd h (by decide)
      · rename_i c
        rw [if_neg c]
        omega
    · split <;> omega
  have LT : Hid (∀ (r : Int) w1, 0 ≤ r → r ≤ 1048576 → Calls Tryz.prog 19 #[.slice aT td.length cT, .int .i64 r] w1 fun e w' => ∃ q : Int, e = .returned (.int .i64 q) ∧ (0 ≤ q → td.length ≤ 1048576 ∧ q ≤ 1048576) ∧ -1 ≤ q ∧ w' = w1) := by
    intro r w1 h0 h1
    refine (szMicroS_any aT td.length cT r w1 htd h0 h1).mono ?_
    rintro e w1 ⟨rfl, rfl⟩
    refine ⟨_, rfl, ?_, ?_, rfl⟩ <;> unfold less
    · intro h
      split at h
      · exact absurd h (by decide)
      · rename_i c
        rw [if_neg c]
        omega
    · split <;> omega
  have LN : Hid (∀ (r : Int) w1, 0 ≤ r → r ≤ 1048576 → Below w.heap.size w w1 → Calls Tryz.prog 60 #[.agg #[.int .i64 cd, .int .i64 vl, .slice aN nm.length cN], .int .i64 r] w1 fun e w' => ∃ q : Int, e = .returned (.int .i64 q) ∧ (0 ≤ q → nm.length ≤ 1048576 ∧ q ≤ 1048576) ∧ -1 ≤ q ∧ Below w1.heap.size w1 w') :=
    fun r w1 h0 h1 hb => szAnswer_any cd vl aN nm cN r w1 (Rd.below hN hb) hnm hz h0 h1
  clear hws hps hes hqs hhs htd hnm hN hz
  have ltV : w.heap.size < V.heap.size := lt_box XV.out
  go_enter Tryz.func27, Tryz.ntmps27
  go_upto_region 1 with fail
  rw [← hV]
  clear hV
  obtain ⟨x0, x1, x2, x3⟩ := tenD XV.out
  go_wp2_with fail
  refine LD.out.mono ?_
  rintro e w1 ⟨r1, rfl, s1, m1, hb1⟩
  clear x0 x1 x2 x3 LD
  have B1 := hideIt (below_trans BV.out hb1 BV.out.size)
  have X1 := hideIt (box_below XV.out hb1 ltV)
  clear BV XV hb1
  by_cases c1 : r1 < 0
  · clear X1 LH LT LN s1
    go_wp2
    go_ret
    exact ⟨-1, rfl, fun h => absurd h (by decide), by decide, B1.out⟩
  obtain ⟨g1, q1⟩ := s1 (by omega)
  have x4 := tenH X1.out
  go_wp2_with fail
  refine (LH.out r1 w1 (by omega) q1).mono ?_
  rintro e w2 ⟨r2, rfl, s2, m2, hw2⟩
  subst w2
  clear x4 LH
  by_cases c2 : r2 < 0
  · clear X1 LT LN s1 s2
    go_wp2
    go_ret
    exact ⟨-1, rfl, fun h => absurd h (by decide), by decide, B1.out⟩
  obtain ⟨g2, q2⟩ := s2 (by omega)
  have x5 := tenT X1.out
  go_wp2_with fail
  refine (LT.out r2 w1 (by omega) q2).mono ?_
  rintro e w2 ⟨r3, rfl, s3, m3, hw2⟩
  subst w2
  clear x5 LT
  by_cases c3 : r3 < 0
  · clear X1 LN s1 s2 s3
    go_wp2
    go_ret
    exact ⟨-1, rfl, fun h => absurd h (by decide), by decide, B1.out⟩
  obtain ⟨g3, q3⟩ := s3 (by omega)
  obtain ⟨x6, x7, x8⟩ := tenA X1.out
  go_wp2_with fail
  refine (LN.out r3 w1 (by omega) q3 B1.out).mono ?_
  rintro e w2 ⟨r4, rfl, s4, m4, hb2⟩
  have B2 := hideIt (below_trans B1.out hb2 B1.out.size)
  clear x6 x7 x8 LN X1 hb2 B1
  by_cases c4 : r4 < 0
  · clear s1 s2 s3 s4
    go_wp2
    go_ret
    exact ⟨-1, rfl, fun h => absurd h (by decide), by decide, B2.out⟩
  obtain ⟨g4, q4⟩ := s4 (by omega)
  clear s1 s2 s3 s4
  go_wp2
  go_ret
  exact ⟨r4, rfl, fun _ => ⟨by omega, q4⟩, m4, B2.out⟩
set_option maxRecDepth 100000 in
set_option maxHeartbeats 8000000 in
theorem eqFs_same (va vb : Value) (ws : List Int) (ps : List St) (es : List Int) (qs : List Se) (hs : List Int) (td : List Mi) (cd vl : Int) (nm : List ByteArray) (fr : Bool) (w : World) (ha : RdF w va ws ps es qs hs td cd vl nm fr) (hb : RdF w vb ws ps es qs hs td cd vl nm fr) (hws : ws.length ≤ 2147483648) (hps : ps.length ≤ 2147483648) (hes : es.length ≤ 2147483648) (hqs : qs.length ≤ 2147483648) (hhs : hs.length ≤ 2147483648) (htd : td.length ≤ 2147483648) (hnm : nm.length ≤ 2147483648) :
    Calls Tryz.prog 31 #[va, vb] w fun e w' => e = .returned (.bool true) ∧ Below w.heap.size w w' := by
  obtain ⟨aW, cW, aP, cP, aS, cS, aQ, cQ, aH, cH, aT, cT, aN, cN, rfl, d1, h1, t1, n1⟩ := ha
  obtain ⟨bW, dW, bP, dP, bS, dS, bQ, dQ, bH, dH, bT, dT, bN, dN, rfl, d2, h2, t2, n2⟩ := hb
  have LD := hideIt (fun w1 (h : Below w.heap.size w w1) => eqDevices_same _ _ ws ps es qs w1 (d1.below h) (d2.below h) hws hps hes hqs)
  have LH := hideIt (fun w1 (h : Below w.heap.size w w1) => eqIntS_same _ _ hs w1 (Rd.below h1 h) (Rd.below h2 h) hhs)
  have LT := hideIt (fun w1 (h : Below w.heap.size w w1) => eqMicroS_same _ _ td w1 (Rd.below t1 h) (Rd.below t2 h) htd)
  have LN := hideIt (fun w1 (h : Below w.heap.size w w1) => eqAnswer_same cd vl _ _ nm w1 (Rd.below n1 h) (Rd.below n2 h) hnm)
  clear d1 d2 h1 h2 t1 t2 n1 n2 hws hps hes hqs hhs htd hnm
  obtain ⟨V, hV⟩ : ∃ V, V = (w.alloc (.cells #[.slice aW ws.length cW, .slice aP ps.length cP, .slice aS es.length cS, .slice aQ qs.length cQ, .slice aH hs.length cH, .slice aT td.length cT, .int .i64 cd, .int .i64 vl, .slice aN nm.length cN, .bool fr] 67)).alloc (.cells #[.slice bW ws.length dW, .slice bP ps.length dP, .slice bS es.length dS, .slice bQ qs.length dQ, .slice bH hs.length dH, .slice bT td.length dT, .int .i64 cd, .int .i64 vl, .slice bN nm.length dN, .bool fr] 67) := ⟨_, rfl⟩
  have BV : Hid (Below w.heap.size w V) := by rw [hV]; exact ((Below.refl _ _).alloc (Nat.le_refl _) _).alloc (by simp) _
  have XV : Hid (V.heap[w.heap.size]? = some (.cells #[.slice aW ws.length cW, .slice aP ps.length cP, .slice aS es.length cS, .slice aQ qs.length cQ, .slice aH hs.length cH, .slice aT td.length cT, .int .i64 cd, .int .i64 vl, .slice aN nm.length cN, .bool fr] 67 (0, 0))) := by rw [hV]; exact at_old (at_new rfl)
  have YV : Hid (V.heap[w.heap.size + 1]? = some (.cells #[.slice bW ws.length dW, .slice bP ps.length dP, .slice bS es.length dS, .slice bQ qs.length dQ, .slice bH hs.length dH, .slice bT td.length dT, .int .i64 cd, .int .i64 vl, .slice bN nm.length dN, .bool fr] 67 (0, 0))) := by rw [hV]; exact at_new (by simp)
  have zV : w.heap.size + 1 < V.heap.size := lt_box YV.out
  go_enter Tryz.func31, Tryz.ntmps31
  go_upto_region 1 with fail
  rw [← hV]
  clear hV
  obtain ⟨-, x0, x1, x2, x3⟩ := And.intro trivial (tenD XV.out)
  obtain ⟨-, y0, y1, y2, y3⟩ := And.intro trivial (tenD YV.out)
  go_wp2_with fail
  refine (LD.out V BV.out).mono ?_
  rintro e w1 ⟨rfl, hbw1⟩
  clear x0 x1 x2 x3 y0 y1 y2 y3 LD
  have zw1 : w.heap.size + 1 < w1.heap.size := Nat.lt_of_lt_of_le zV hbw1.size
  have Bw1 := hideIt (below_trans BV.out hbw1 BV.out.size)
  have Xw1 := hideIt (box_below XV.out hbw1 (by omega))
  have Yw1 := hideIt (box_below YV.out hbw1 (by omega))
  clear BV XV YV hbw1
  obtain ⟨-, x0⟩ := And.intro trivial (tenH Xw1.out)
  obtain ⟨-, y0⟩ := And.intro trivial (tenH Yw1.out)
  go_wp2_with fail
  refine (LH.out w1 Bw1.out).mono ?_
  rintro e w2 ⟨rfl, hbw2⟩
  clear x0 y0 LH
  have zw2 : w.heap.size + 1 < w2.heap.size := Nat.lt_of_lt_of_le zw1 hbw2.size
  have Bw2 := hideIt (below_trans Bw1.out hbw2 Bw1.out.size)
  have Xw2 := hideIt (box_below Xw1.out hbw2 (by omega))
  have Yw2 := hideIt (box_below Yw1.out hbw2 (by omega))
  clear Bw1 Xw1 Yw1 hbw2
  obtain ⟨-, x0⟩ := And.intro trivial (tenT Xw2.out)
  obtain ⟨-, y0⟩ := And.intro trivial (tenT Yw2.out)
  go_wp2_with fail
  refine (LT.out w2 Bw2.out).mono ?_
  rintro e w3 ⟨rfl, hbw3⟩
  clear x0 y0 LT
  have zw3 : w.heap.size + 1 < w3.heap.size := Nat.lt_of_lt_of_le zw2 hbw3.size
  have Bw3 := hideIt (below_trans Bw2.out hbw3 Bw2.out.size)
  have Xw3 := hideIt (box_below Xw2.out hbw3 (by omega))
  have Yw3 := hideIt (box_below Yw2.out hbw3 (by omega))
  clear Bw2 Xw2 Yw2 hbw3
  obtain ⟨-, x0, x1, x2⟩ := And.intro trivial (tenA Xw3.out)
  obtain ⟨-, y0, y1, y2⟩ := And.intro trivial (tenA Yw3.out)
  go_wp2_with fail
  refine (LN.out w3 Bw3.out).mono ?_
  rintro e w4 ⟨rfl, hbw4⟩
  clear x0 x1 x2 y0 y1 y2 LN
  have zw4 : w.heap.size + 1 < w4.heap.size := Nat.lt_of_lt_of_le zw3 hbw4.size
  have Bw4 := hideIt (below_trans Bw3.out hbw4 Bw3.out.size)
  have Xw4 := hideIt (box_below Xw3.out hbw4 (by omega))
  have Yw4 := hideIt (box_below Yw3.out hbw4 (by omega))
  clear Bw3 Xw3 Yw3 hbw4
  have x9 := tenB Xw4.out
  have y9 := tenB Yw4.out
  go_wp2
  go_ret
  exact ⟨rfl, Bw4.out⟩
set_option maxRecDepth 100000 in
set_option maxHeartbeats 8000000 in
theorem toFs_any (v : Value) (ws : List Int) (ps : List St) (es : List Int) (qs : List Se) (hs : List Int) (td : List Mi) (cd vl : Int) (nm : List ByteArray) (fr : Bool) (w : World) (h : RdF w v ws ps es qs hs td cd vl nm fr) (hws : ws.length ≤ 1048576) (hps : ps.length ≤ 1048576) (hes : es.length ≤ 1048576) (hqs : qs.length ≤ 1048576) (hhs : hs.length ≤ 1048576) (htd : td.length ≤ 1048576) (hnm : nm.length ≤ 1048576) :
    Calls Tryz.prog 29 #[v] w fun e w' => ∃ v', e = .returned v' ∧ RowF w' w.heap.size w'.heap.size v' ws ps es qs hs td cd vl nm fr ∧ Below w.heap.size w w' := by
  obtain ⟨aW, cW, aP, cP, aS, cS, aQ, cQ, aH, cH, aT, cT, aN, cN, rfl, d1, h1, t1, n1⟩ := h
  have LD := hideIt (fun w1 (h : Below w.heap.size w w1) => toDevices_any _ ws ps es qs w1 (d1.below h) hws hps hes hqs)
  have LH := hideIt (fun w1 (h : Below w.heap.size w w1) => toIntS_any _ hs w1 (Rd.below h1 h) hhs)
  have LT := hideIt (fun w1 (h : Below w.heap.size w w1) => toMicroS_any _ td w1 (Rd.below t1 h) htd)
  have LN := hideIt (fun w1 (h : Below w.heap.size w w1) => toAnswer_any cd vl _ nm _ w1 (Rd.below n1 h) hnm)
  clear d1 h1 t1 n1 hws hps hes hqs hhs htd hnm
  obtain ⟨V, hV⟩ : ∃ V, V = ((w.alloc (.cells #[.slice aW ws.length cW, .slice aP ps.length cP, .slice aS es.length cS, .slice aQ qs.length cQ, .slice aH hs.length cH, .slice aT td.length cT, .int .i64 cd, .int .i64 vl, .slice aN nm.length cN, .bool fr] 62)).alloc (.cells #[.slice none 0 0, .slice none 0 0, .slice none 0 0, .slice none 0 0, .slice none 0 0, .slice none 0 0, .int .i64 0, .int .i64 0, .slice none 0 0, .bool false] 67)).alloc (.cells #[.slice none 0 0, .slice none 0 0, .slice none 0 0, .slice none 0 0, .slice none 0 0, .slice none 0 0, .int .i64 0, .int .i64 0, .slice none 0 0, .bool false] 67) := ⟨_, rfl⟩
  have zV : V.heap.size = w.heap.size + 1 + 1 + 1 := by rw [hV]; simp
  have BV : Hid (Below w.heap.size w V) := by rw [hV]; exact (((Below.refl _ _).alloc (Nat.le_refl _) _).alloc (by simp) _).alloc (by simp <;> omega) _
  have XV : Hid (V.heap[w.heap.size]? = some (.cells #[.slice aW ws.length cW, .slice aP ps.length cP, .slice aS es.length cS, .slice aQ qs.length cQ, .slice aH hs.length cH, .slice aT td.length cT, .int .i64 cd, .int .i64 vl, .slice aN nm.length cN, .bool fr] 62 (0, 0))) := by rw [hV]; exact at_old (at_old (at_new rfl))
  have YV : Hid (V.heap[w.heap.size + 1]? = some (.cells #[.slice none 0 0, .slice none 0 0, .slice none 0 0, .slice none 0 0, .slice none 0 0, .slice none 0 0, .int .i64 0, .int .i64 0, .slice none 0 0, .bool false] 67 (0, 0))) := by rw [hV]; exact at_old (at_new (by simp))
  have ZV : Hid (V.heap[w.heap.size + 1 + 1]? = some (.cells #[.slice none 0 0, .slice none 0 0, .slice none 0 0, .slice none 0 0, .slice none 0 0, .slice none 0 0, .int .i64 0, .int .i64 0, .slice none 0 0, .bool false] 67 (0, 0))) := by rw [hV]; exact at_new (by simp)
  have zV' : w.heap.size + 3 ≤ V.heap.size := by omega
  clear zV
  go_enter Tryz.func29, Tryz.ntmps29
  go_upto_region 2 with fail
  rw [← hV]
  clear hV
  obtain ⟨-, x0, x1, x2, x3⟩ := And.intro trivial (tenD XV.out)
  go_wp2_with fail
  refine (LD.out V BV.out).mono ?_
  rintro e w1 ⟨v1, rfl, hr, hb⟩
  obtain ⟨eW, fW, eP, fP, eS, fS, eQ, fQ, rfl, -, -⟩ := hr.rd.form
  clear x0 x1 x2 x3 LD
  have zw1 : V.heap.size ≤ w1.heap.size := hb.size
  have Bw1 := hideIt (below_trans BV.out hb BV.out.size)
  have Xw1 := hideIt (box_below XV.out hb (by omega))
  have Yw1 := hideIt (box_below YV.out hb (by omega))
  have Zw1 := hideIt (box_below ZV.out hb (by omega))
  clear BV XV YV ZV hb 
  obtain ⟨u1, hwu1⟩ : ∃ u1, u1 = ((((w1.setCell ⟨w.heap.size + 1 + 1, 0, none⟩ (.slice eW ws.length fW)).setCell ⟨w.heap.size + 1 + 1, 1, none⟩ (.slice eP ps.length fP)).setCell ⟨w.heap.size + 1 + 1, 2, none⟩ (.slice eS es.length fS)).setCell ⟨w.heap.size + 1 + 1, 3, none⟩ (.slice eQ qs.length fQ)) := ⟨_, rfl⟩
  have Ou1 : Outside (w.heap.size + 2) (w.heap.size + 3) w1 u1 := by rw [hwu1]; (repeat (refine Outside.setCell ?_ (by simp only; omega) (by simp only; omega) _)); exact Outside.refl _ _ _
  have su1 : w1.heap.size ≤ u1.heap.size ∧ u1.heap.size ≤ w1.heap.size := by rw [hwu1]; simp [World.setCell]
  have Bu1 := hideIt (Bw1.out.trans (Ou1.below (B := w.heap.size) (by omega) (by omega)))
  have Xu1 := hideIt ((Ou1.block (w.heap.size) (by omega) (by omega)).trans Xw1.out)
  have Yu1 := hideIt ((Ou1.block (w.heap.size + 1) (by omega) (by omega)).trans Yw1.out)
  have Zu1 : Hid (u1.heap[w.heap.size + 1 + 1]? = some (.cells #[.slice eW ws.length fW, .slice eP ps.length fP, .slice eS es.length fS, .slice eQ qs.length fQ, .slice none 0 0, .slice none 0 0, .int .i64 0, .int .i64 0, .slice none 0 0, .bool false] 67 (0, 0))) := by rw [hwu1]; exact ten_dev Zw1.out _ _ _ _
  have RDu1 := hideIt ((RowDev.wide hr (lo' := w.heap.size + 3) (hi' := w1.heap.size) (by omega) (Nat.le_refl _)).outside Ou1 (by omega) (Nat.le_refl _))
  clear hr Ou1
  obtain ⟨-, -, -, -, -, -, -, -, -, -, g0, g1, g2, g3, g4, g5, g6, g7, g8, g9⟩ := ten_cells Zw1.out
  obtain ⟨y0, y1, y2, y3, y4, y5, y6, y7, y8, y9, -⟩ := ten_cells Zw1.out
  go_upto_region 3 with fail
  rw [← hwu1]
  clear hwu1 g0 g1 g2 g3 g4 g5 g6 g7 g8 g9 y0 y1 y2 y3 y4 y5 y6 y7 y8 y9 Bw1 Xw1 Yw1 Zw1 
  obtain ⟨-, x0⟩ := And.intro trivial (tenH Xu1.out)
  go_wp2_with fail
  refine (LH.out u1 Bu1.out).mono ?_
  rintro e w2 ⟨v2, rfl, hr, hb⟩
  obtain ⟨-, eH, fH, rfl, -⟩ := hr.rd
  clear x0 LH
  have zw2 : u1.heap.size ≤ w2.heap.size := hb.size
  have Bw2 := hideIt (below_trans Bu1.out hb Bu1.out.size)
  have Xw2 := hideIt (box_below Xu1.out hb (by omega))
  have Yw2 := hideIt (box_below Yu1.out hb (by omega))
  have Zw2 := hideIt (box_below Zu1.out hb (by omega))
  have RDw2 := hideIt (RDu1.out.below hb (by omega))
  clear Bu1 Xu1 Yu1 Zu1 hb RDu1
  obtain ⟨u2, hwu2⟩ : ∃ u2, u2 = (w2.setCell ⟨w.heap.size + 1 + 1, 4, none⟩ (.slice eH hs.length fH)) := ⟨_, rfl⟩
  have Ou2 : Outside (w.heap.size + 2) (w.heap.size + 3) w2 u2 := by rw [hwu2]; (repeat (refine Outside.setCell ?_ (by simp only; omega) (by simp only; omega) _)); exact Outside.refl _ _ _
  have su2 : w2.heap.size ≤ u2.heap.size ∧ u2.heap.size ≤ w2.heap.size := by rw [hwu2]; simp [World.setCell]
  have Bu2 := hideIt (Bw2.out.trans (Ou2.below (B := w.heap.size) (by omega) (by omega)))
  have Xu2 := hideIt ((Ou2.block (w.heap.size) (by omega) (by omega)).trans Xw2.out)
  have Yu2 := hideIt ((Ou2.block (w.heap.size + 1) (by omega) (by omega)).trans Yw2.out)
  have Zu2 : Hid (u2.heap[w.heap.size + 1 + 1]? = some (.cells #[.slice eW ws.length fW, .slice eP ps.length fP, .slice eS es.length fS, .slice eQ qs.length fQ, .slice eH hs.length fH, .slice none 0 0, .int .i64 0, .int .i64 0, .slice none 0 0, .bool false] 67 (0, 0))) := by rw [hwu2]; exact ten_set4 Zw2.out _
  have RDu2 := hideIt (RDw2.out.outside Ou2 (by omega) (by omega))
  have RHu2 := hideIt ((Row.wide hr (lo' := u1.heap.size) (hi' := w2.heap.size) (by omega) (Nat.le_refl _)).outside Ou2 (by omega) (Nat.le_refl _))
  clear hr Ou2
  obtain ⟨-, -, -, -, -, -, -, -, -, -, g0, g1, g2, g3, g4, g5, g6, g7, g8, g9⟩ := ten_cells Zw2.out
  obtain ⟨y0, y1, y2, y3, y4, y5, y6, y7, y8, y9, -⟩ := ten_cells Zw2.out
  go_upto_region 4 with fail
  rw [← hwu2]
  clear hwu2 g0 g1 g2 g3 g4 g5 g6 g7 g8 g9 y0 y1 y2 y3 y4 y5 y6 y7 y8 y9 Bw2 Xw2 Yw2 Zw2 RDw2
  obtain ⟨-, x0⟩ := And.intro trivial (tenT Xu2.out)
  go_wp2_with fail
  refine (LT.out u2 Bu2.out).mono ?_
  rintro e w3 ⟨v3, rfl, hr, hb⟩
  obtain ⟨-, eT, fT, rfl, -⟩ := hr.rd
  clear x0 LT
  have zw3 : u2.heap.size ≤ w3.heap.size := hb.size
  have Bw3 := hideIt (below_trans Bu2.out hb Bu2.out.size)
  have Xw3 := hideIt (box_below Xu2.out hb (by omega))
  have Yw3 := hideIt (box_below Yu2.out hb (by omega))
  have Zw3 := hideIt (box_below Zu2.out hb (by omega))
  have RDw3 := hideIt (RDu2.out.below hb (by omega))
  have RHw3 := hideIt (RHu2.out.below hb (by omega))
  clear Bu2 Xu2 Yu2 Zu2 hb RDu2 RHu2
  obtain ⟨u3, hwu3⟩ : ∃ u3, u3 = (w3.setCell ⟨w.heap.size + 1 + 1, 5, none⟩ (.slice eT td.length fT)) := ⟨_, rfl⟩
  have Ou3 : Outside (w.heap.size + 2) (w.heap.size + 3) w3 u3 := by rw [hwu3]; (repeat (refine Outside.setCell ?_ (by simp only; omega) (by simp only; omega) _)); exact Outside.refl _ _ _
  have su3 : w3.heap.size ≤ u3.heap.size ∧ u3.heap.size ≤ w3.heap.size := by rw [hwu3]; simp [World.setCell]
  have Bu3 := hideIt (Bw3.out.trans (Ou3.below (B := w.heap.size) (by omega) (by omega)))
  have Xu3 := hideIt ((Ou3.block (w.heap.size) (by omega) (by omega)).trans Xw3.out)
  have Yu3 := hideIt ((Ou3.block (w.heap.size + 1) (by omega) (by omega)).trans Yw3.out)
  have Zu3 : Hid (u3.heap[w.heap.size + 1 + 1]? = some (.cells #[.slice eW ws.length fW, .slice eP ps.length fP, .slice eS es.length fS, .slice eQ qs.length fQ, .slice eH hs.length fH, .slice eT td.length fT, .int .i64 0, .int .i64 0, .slice none 0 0, .bool false] 67 (0, 0))) := by rw [hwu3]; exact ten_set5 Zw3.out _
  have RDu3 := hideIt (RDw3.out.outside Ou3 (by omega) (by omega))
  have RHu3 := hideIt (RHw3.out.outside Ou3 (by omega) (by omega))
  have RTu3 := hideIt ((RowW.wide (RowW.of_row hr) (lo' := u2.heap.size) (hi' := w3.heap.size) (by omega) (Nat.le_refl _)).outside Ou3 (by omega))
  clear hr Ou3
  obtain ⟨-, -, -, -, -, -, -, -, -, -, g0, g1, g2, g3, g4, g5, g6, g7, g8, g9⟩ := ten_cells Zw3.out
  obtain ⟨y0, y1, y2, y3, y4, y5, y6, y7, y8, y9, -⟩ := ten_cells Zw3.out
  go_upto_region 5 with fail
  rw [← hwu3]
  clear hwu3 g0 g1 g2 g3 g4 g5 g6 g7 g8 g9 y0 y1 y2 y3 y4 y5 y6 y7 y8 y9 Bw3 Xw3 Yw3 Zw3 RDw3 RHw3
  obtain ⟨-, x0, x1, x2⟩ := And.intro trivial (tenA Xu3.out)
  go_wp2_with fail
  refine (LN.out u3 Bu3.out).mono ?_
  rintro e w4 ⟨vN, rfl, hr, hb⟩
  obtain ⟨-, eN, fN, rfl, -⟩ := hr.rd
  clear x0 x1 x2 LN
  have zw4 : u3.heap.size ≤ w4.heap.size := hb.size
  have Bw4 := hideIt (below_trans Bu3.out hb Bu3.out.size)
  have Xw4 := hideIt (box_below Xu3.out hb (by omega))
  have Yw4 := hideIt (box_below Yu3.out hb (by omega))
  have Zw4 := hideIt (box_below Zu3.out hb (by omega))
  have RDw4 := hideIt (RDu3.out.below hb (by omega))
  have RHw4 := hideIt (RHu3.out.below hb (by omega))
  have RTw4 := hideIt (RTu3.out.below hb (by omega))
  clear Bu3 Xu3 Yu3 Zu3 hb RDu3 RHu3 RTu3
  obtain ⟨u4, hwu4⟩ : ∃ u4, u4 = (((w4.setCell ⟨w.heap.size + 1 + 1, 6, none⟩ (.int .i64 cd)).setCell ⟨w.heap.size + 1 + 1, 7, none⟩ (.int .i64 vl)).setCell ⟨w.heap.size + 1 + 1, 8, none⟩ (.slice eN nm.length fN)) := ⟨_, rfl⟩
  have Ou4 : Outside (w.heap.size + 2) (w.heap.size + 3) w4 u4 := by rw [hwu4]; (repeat (refine Outside.setCell ?_ (by simp only; omega) (by simp only; omega) _)); exact Outside.refl _ _ _
  have su4 : w4.heap.size ≤ u4.heap.size ∧ u4.heap.size ≤ w4.heap.size := by rw [hwu4]; simp [World.setCell]
  have Bu4 := hideIt (Bw4.out.trans (Ou4.below (B := w.heap.size) (by omega) (by omega)))
  have Xu4 := hideIt ((Ou4.block (w.heap.size) (by omega) (by omega)).trans Xw4.out)
  have Yu4 := hideIt ((Ou4.block (w.heap.size + 1) (by omega) (by omega)).trans Yw4.out)
  have Zu4 : Hid (u4.heap[w.heap.size + 1 + 1]? = some (.cells #[.slice eW ws.length fW, .slice eP ps.length fP, .slice eS es.length fS, .slice eQ qs.length fQ, .slice eH hs.length fH, .slice eT td.length fT, .int .i64 cd, .int .i64 vl, .slice eN nm.length fN, .bool false] 67 (0, 0))) := by rw [hwu4]; exact ten_set8 (ten_set7 (ten_set6 Zw4.out _) _) _
  have RDu4 := hideIt (RDw4.out.outside Ou4 (by omega) (by omega))
  have RHu4 := hideIt (RHw4.out.outside Ou4 (by omega) (by omega))
  have RTu4 := hideIt (RTw4.out.outside Ou4 (by omega))
  have RNu4 := hideIt ((Row.wide hr (lo' := u3.heap.size) (hi' := w4.heap.size) (by omega) (Nat.le_refl _)).outside Ou4 (by omega) (Nat.le_refl _))
  clear hr Ou4
  obtain ⟨-, -, -, -, -, -, -, -, -, -, g0, g1, g2, g3, g4, g5, g6, g7, g8, g9⟩ := ten_cells Zw4.out
  obtain ⟨y0, y1, y2, y3, y4, y5, y6, y7, y8, y9, -⟩ := ten_cells Zw4.out
  go_upto_region 6 with fail
  rw [← hwu4]
  clear hwu4 g0 g1 g2 g3 g4 g5 g6 g7 g8 g9 y0 y1 y2 y3 y4 y5 y6 y7 y8 y9 Bw4 Xw4 Yw4 Zw4 RDw4 RHw4 RTw4
  have x9 := tenB Xu4.out
  obtain ⟨z0, z1, z2, z3, z4, z5, z6, z7, z8, z9, k0, k1, k2, k3, k4, k5, k6, k7, k8, k9⟩ := ten_cells Zu4.out
  obtain ⟨y0, y1, y2, y3, y4, y5, y6, y7, y8, y9, g0, g1, g2, g3, g4, g5, g6, g7, g8, g9⟩ := ten_cells Yu4.out
  obtain ⟨w5, hw5⟩ : ∃ w5, w5 = put10 (u4.setCell ⟨w.heap.size + 1 + 1, 9, none⟩ (.bool fr)) (w.heap.size + 1) (.slice eW ws.length fW) (.slice eP ps.length fP) (.slice eS es.length fS) (.slice eQ qs.length fQ) (.slice eH hs.length fH) (.slice eT td.length fT) (.int .i64 cd) (.int .i64 vl) (.slice eN nm.length fN) (.bool fr) := ⟨_, rfl⟩
  have O5 : Outside (w.heap.size + 1) (w.heap.size + 3) u4 w5 := by
    rw [hw5]
    unfold put10
    repeat (refine Outside.setCell ?_ (by simp only; omega) (by simp only; omega) _)
    exact Outside.refl _ _ _
  have F5 : Hid (RowF w5 w.heap.size w5.heap.size (.agg #[.slice eW ws.length fW, .slice eP ps.length fP, .slice eS es.length fS, .slice eQ qs.length fQ, .slice eH hs.length fH, .slice eT td.length fT, .int .i64 cd, .int .i64 vl, .slice eN nm.length fN, .bool fr]) ws ps es qs hs td cd vl nm fr) := by
    have zz := O5.size
    refine ⟨_, _, _, _, _, _, _, w.heap.size + 3, w1.heap.size, u1.heap.size, w2.heap.size, u2.heap.size, w3.heap.size, u3.heap.size, w4.heap.size, rfl, RDu4.out.outside O5 (by omega) (by omega), RHu4.out.outside O5 (by omega) (by omega), RTu4.out.outside O5 (by omega), RNu4.out.outside O5 (by omega) (by omega), ?_⟩
    exact ⟨by omega, by omega, by omega, by omega, by omega, by omega, by omega, by omega, by omega, by omega, by omega, by omega, by omega, by omega⟩
  have B5 := hideIt (Bu4.out.trans (O5.below (B := w.heap.size) (by omega) (by omega)))
  unfold put10 at hw5
  clear O5
  go_wp2
  refine bodyPost_ret (v := .agg #[.slice eW ws.length fW, .slice eP ps.length fP, .slice eS es.length fS, .slice eQ qs.length fQ, .slice eH hs.length fH, .slice eT td.length fT, .int .i64 cd, .int .i64 vl, .slice eN nm.length fN, .bool fr]) (by simp [results, Tryz.results29, go_sem, y0, y1, y2, y3, y4, y5, y6, y7, y8, y9]) rfl ?_
  rw [← hw5]
  exact ⟨_, rfl, F5.out, B5.out⟩
end Go.Proofs.YtbjjdkemappelaaGreatDoor

namespace Go.Proofs.YtbjjdkemappelaaGreatDoor
open Go.RowKit

/-- Heat that is right; heat of a fresh file system; all halved. -/
def heatB (hs : List Int) : Bool := decide (hs.length = 128 ∧ ∀ k (h : k < hs.length), 0 ≤ hs[k] ∧ hs[k] ≤ 64)
set_option maxRecDepth 100000 in
set_option maxHeartbeats 4000000 in
theorem specHeatOK_any (v : Value) (hs : List Int) (w : World) (h : RdI w v hs) (_hn : hs.length ≤ 1048576) : Calls Tryz.prog 88 #[v] w fun e w' => e = .returned (.bool (heatB hs)) ∧ w' = w := by
  have NO := hideIt (fun h => show heatB hs = false from decide_eq_false h)
  have YES := hideIt (fun h => show heatB hs = true from decide_eq_true h)
  obtain ⟨ao, cap, rfl, hcap, hc⟩ := h.shape
  by_cases c1 : (hs.length : Int) > 4096
  · rw [NO.out (fun q => by omega)]
    go_enter Tryz.func88, Tryz.ntmps88
    go_wp2
    go_ret
    exact ⟨rfl, rfl⟩
  by_cases c2 : hs.length = 128
  case neg =>
    rw [NO.out (fun q => c2 q.1)]
    have q : ((hs.length : Int) != 128) = true := by rw [bne_iff_ne]; omega
    go_enter Tryz.func88, Tryz.ntmps88
    go_wp2
    go_ret
    exact ⟨rfl, rfl⟩
  obtain ⟨b, o, rfl, hbl, hcell⟩ := hc (by omega)
  have HC := hideIt hcell
  have L128 := hideIt c2
  rw [show heatB hs = heatB hs from rfl]
  generalize hb : heatB hs = hB at *
  clear hb hcell c1
  rw [c2]
  clear c2 hcap
  go_enter Tryz.func88, Tryz.ntmps88
  go_wp2
  go_loopw [3] (fun i wr => ∃ m : Nat, m ≤ 128 ∧ i = .int .i64 (m : Int) ∧ wr = w ∧ Hid (∀ k (h : k < hs.length), k < m → 0 ≤ hs[k] ∧ hs[k] ≤ 64)) (fun i _ => 128 - (intOf i).toNat)
  case atStart => exact ⟨0, by omega, rfl, rfl, fun k _ hk => absurd hk (by omega)⟩
  case round =>
    obtain ⟨m, hm, rfl, rfl, J⟩ := hrel
    have m0 : (0 : Int) ≤ (m : Int) := by omega
    by_cases hlt : m < 128
    · have m1 : (m : Int) < 128 := by omega
      have hl : m < hs.length := by have := L128.out; omega
      have e0 := HC.out m hl
      by_cases q : 0 ≤ hs[m] ∧ hs[m] ≤ 64
      · have G : Hid (∀ k (h : k < hs.length), k < m + 1 → 0 ≤ hs[k] ∧ hs[k] ≤ 64) := fun k hk hkm => by
          rcases Nat.lt_succ_iff_lt_or_eq.1 hkm with r | rfl
          · exact J.out k hk r
          · exact q
        generalize hs[m] = z at *
        clear J
        go_wp2_with fail
        refine (l01In_yes _ _ _ _ q).mono ?_
        rintro e w' ⟨rfl, hw'⟩
        subst w'
        go_wp2
        go_roundw
        case rel => exact ⟨m + 1, by omega, by go_num, (by first | rfl | trivial), G⟩
        case measure => simp [intOf]; omega
      · have E := hideIt (NO.out (fun r => q (r.2 m hl)))
        generalize hs[m] = z at *
        obtain rfl := E.out
        go_wp2_with fail
        refine (l01In_no _ _ _ _ q).mono ?_
        rintro e w' ⟨rfl, hw'⟩
        subst w'
        go_wp2
        go_ret
        exact ⟨rfl, rfl⟩
    · obtain rfl : m = 128 := by omega
      have E := hideIt (YES.out ⟨L128.out, fun k hk => J.out k hk (by have := L128.out; omega)⟩)
      obtain rfl := E.out
      go_wp2
      go_ret
      exact ⟨rfl, rfl⟩

end Go.Proofs.YtbjjdkemappelaaGreatDoor

namespace Go.Proofs.YtbjjdkemappelaaGreatDoor
open Go.RowKit

/-- A word as it is loaded. -/
def ldW (ws : List Int) (ps : List St) (k : Nat) : Int := lastW (k : Int) (ws[k]?.getD 0) ps
theorem ldW_at {ws : List Int} {ps : List St} {k : Nat} (h : k < ws.length) : ldW ws ps k = lastW (k : Int) ws[k] ps := by unfold ldW; simp [h]
theorem pm_len {ws : List Int} {ps : List St} (h : pmB ws ps = true) : ws.length = 336 := (pmB_len h).1

set_option maxRecDepth 100000 in
set_option maxHeartbeats 2000000 in
theorem l04Count_any (v : Value) (ws : List Int) (ps : List St) (w : World) (h : RdPm w v ws ps) (hw : ws.length ≤ 1048576) (hp : ps.length ≤ 1048576) (ha : 8 < ws.length) :
    Calls Tryz.prog 89 #[v] w fun e w' => e = .returned (.int .i64 (ldW ws ps 8)) ∧ Below w.heap.size w w' := by
  have HR := hideIt h
  obtain ⟨vW, vP, rfl, h1, h2⟩ := h
  obtain ⟨aW, cW, rfl, _⟩ := h1.shape
  obtain ⟨aP, cP, rfl, _⟩ := h2.shape
  clear h1 h2
  have hb0 : Below w.heap.size w (w.alloc (.cells #[.slice aW ws.length cW, .slice aP ps.length cP] 36)) := (Below.refl _ _).alloc (Nat.le_refl _) _
  rw [ldW_at ha]
  go_enter Tryz.func89, Tryz.ntmps89
  go_wp2_with fail
  refine (l01Load_any _ ws ps 8 _ (HR.out.below hb0) hw hp ha).mono ?_
  rintro e w2 ⟨rfl, hb2⟩
  go_wp2
  go_ret
  exact ⟨rfl, below_trans hb0 hb2 (by simp)⟩

end Go.Proofs.YtbjjdkemappelaaGreatDoor

namespace Go.Proofs.YtbjjdkemappelaaGreatDoor
open Go.RowKit

theorem dev_pm {w : World} {aW aP aS aQ : Option Addr} {cW cP cS cQ : Nat} {ws : List Int} {ps : List St} {es : List Int} {qs : List Se} (h : RdDev w (.agg #[.slice aW ws.length cW, .slice aP ps.length cP, .slice aS es.length cS, .slice aQ qs.length cQ]) ws ps es qs) : RdPm w (.agg #[.slice aW ws.length cW, .slice aP ps.length cP]) ws ps := by
  obtain ⟨_, _, _, _, e, p1, _⟩ := h
  cases e
  exact p1
def noA (cd vl : Int) (nm : List ByteArray) : Bool := decide (cd = 0) && (decide (vl = 0) && decide (nm.length = 0))
def restB (ws : List Int) (ps : List St) (es : List Int) (qs : List Se) : Bool := dvB ws ps es qs && (decide (ps.length = 0) && (decide (qs.length = 0) && decide (ldW ws ps 8 = 0)))
def todB (ps : List St) (qs : List Se) (td : List Mi) : Bool := decide (td.length ≤ 200) && (td.all miB && (decide (ps.length + td.length ≤ 400) && decide (qs.length + td.length ≤ 400)))
/-- A file system that is right. -/
def fsB (ws : List Int) (ps : List St) (es : List Int) (qs : List Se) (hs : List Int) (td : List Mi) (cd vl : Int) (nm : List ByteArray) (fr : Bool) : Bool := (pmB ws ps && blkB es qs) && (heatB hs && (todB ps qs td && ((fr || noA cd vl nm) && (decide (0 < td.length) || restB ws ps es qs))))
set_option maxRecDepth 100000 in
set_option maxHeartbeats 8000000 in
theorem specFsOK_any (v : Value) (ws : List Int) (ps : List St) (es : List Int) (qs : List Se) (hs : List Int) (td : List Mi) (cd vl : Int) (nm : List ByteArray) (fr : Bool) (w : World) (h : RdF w v ws ps es qs hs td cd vl nm fr) (hws : ws.length ≤ 1048576) (hps : ps.length ≤ 1048576) (hes : es.length ≤ 1048576) (hqs : qs.length ≤ 1048576) (hhs : hs.length ≤ 1048576) (htd : td.length ≤ 1048576) (_hnm : nm.length ≤ 1048576) :
    Calls Tryz.prog 61 #[v] w fun e w' => e = .returned (.bool (fsB ws ps es qs hs td cd vl nm fr)) ∧ Below w.heap.size w w' := by
  obtain ⟨aW, cW, aP, cP, aS, cS, aQ, cQ, aH, cH, aT, cT, aN, cN, rfl, d1, h1, t1, n1⟩ := h
  obtain ⟨D, eD⟩ : ∃ D, D = (pmB ws ps && blkB es qs) := ⟨_, rfl⟩
  obtain ⟨H, eH⟩ : ∃ H, H = heatB hs := ⟨_, rfl⟩
  obtain ⟨rc, erc⟩ : ∃ rc, rc = riC ws ps := ⟨_, rfl⟩
  obtain ⟨jc, ejc⟩ : ∃ jc, jc = ldW ws ps 8 := ⟨_, rfl⟩
  have LD : Hid (∀ w1, Below w.heap.size w w1 → Calls Tryz.prog 69 #[.agg #[.slice aW ws.length cW, .slice aP ps.length cP, .slice aS es.length cS, .slice aQ qs.length cQ]] w1 fun e w' => e = .returned (.bool D) ∧ Below w1.heap.size w1 w') := fun w1 hb => by rw [eD]; exact specDevicesOK_any _ ws ps es qs w1 (d1.below hb) hws hps hes hqs
  have LH : Hid (∀ w1, Below w.heap.size w w1 → Calls Tryz.prog 88 #[.slice aH hs.length cH] w1 fun e w' => e = .returned (.bool H) ∧ w' = w1) := fun w1 hb => by rw [eH]; exact specHeatOK_any _ hs w1 (Rd.below h1 hb) hhs
  have LR : Hid (∀ w1, Below w.heap.size w w1 → Calls Tryz.prog 70 #[.agg #[.slice aW ws.length cW, .slice aP ps.length cP]] w1 fun e w' => ∃ a b c d f g, e = .returned (.tuple #[.agg #[.slice a b c, .slice d f g], .int .i64 rc]) ∧ Below w1.heap.size w1 w') := fun w1 hb => by
    have p1 := dev_pm (d1.below hb)
    rw [erc]
    refine (specReadImage_any _ ws ps w1 p1 hws hps).mono ?_
    rintro e w2 ⟨v2, rfl, hr, hb2⟩
    obtain ⟨vA, vB, rfl, ⟨-, a, c, rfl, -⟩, ⟨-, d, g, rfl, -⟩⟩ := hr.rd
    exact ⟨a, _, c, d, _, g, rfl, hb2⟩
  have LJ : Hid (D = true → ∀ w1, Below w.heap.size w w1 → Calls Tryz.prog 89 #[.agg #[.slice aW ws.length cW, .slice aP ps.length cP]] w1 fun e w' => e = .returned (.int .i64 jc) ∧ Below w1.heap.size w1 w') := fun hD w1 hb => by
    have p1 := dev_pm (d1.below hb)
    rw [ejc]
    rw [eD] at hD
    simp only [Bool.and_eq_true] at hD
    exact l04Count_any _ ws ps w1 p1 hws hps (by rw [pm_len hD.1]; decide)
  have RT := hideIt t1
  have FB : Hid (fsB ws ps es qs hs td cd vl nm fr = (D && (H && (todB ps qs td && ((fr || noA cd vl nm) && (decide (0 < td.length) || (decide (rc = 0) && (decide (ps.length = 0) && (decide (qs.length = 0) && decide (jc = 0)))))))))) := by
    unfold fsB restB
    rw [← eD, ← eH, ← ejc]
    cases hD : D with
    | false => rfl
    | true =>
      have := (dv_form (eD.symm.trans hD)).1
      rw [this, erc]
      rfl
  generalize fsB ws ps es qs hs td cd vl nm fr = r at *
  clear eD eH erc ejc d1 h1 t1 n1
  obtain ⟨V, hV⟩ : ∃ V, V = w.alloc (.cells #[.slice aW ws.length cW, .slice aP ps.length cP, .slice aS es.length cS, .slice aQ qs.length cQ, .slice aH hs.length cH, .slice aT td.length cT, .int .i64 cd, .int .i64 vl, .slice aN nm.length cN, .bool fr] 67) := ⟨_, rfl⟩
  have BV : Hid (Below w.heap.size w V) := by rw [hV]; exact (Below.refl _ _).alloc (Nat.le_refl _) _
  have XV : Hid (V.heap[w.heap.size]? = some (.cells #[.slice aW ws.length cW, .slice aP ps.length cP, .slice aS es.length cS, .slice aQ qs.length cQ, .slice aH hs.length cH, .slice aT td.length cT, .int .i64 cd, .int .i64 vl, .slice aN nm.length cN, .bool fr] 67 (0, 0))) := by rw [hV]; exact at_new rfl
  have zV : w.heap.size < V.heap.size := lt_box XV.out
  go_enter Tryz.func61, Tryz.ntmps61
  go_upto_region 1 with fail
  rw [← hV]
  clear hV
  obtain ⟨x0, x1, x2, x3⟩ := tenD XV.out
  go_wp2_with fail
  refine (LD.out V BV.out).mono ?_
  rintro e w1 ⟨rfl, hb1⟩
  have B1 := hideIt (below_trans BV.out hb1 BV.out.size)
  have X1 := hideIt (box_below XV.out hb1 zV)
  have z1 : w.heap.size < w1.heap.size := Nat.lt_of_lt_of_le zV hb1.size
  clear hb1 x0 x1 x2 x3 LD BV XV
  cases D with
  | false =>
    obtain rfl := FB.out
    clear FB LH LR LJ RT X1
    go_wp2
    go_ret
    exact ⟨rfl, B1.out⟩
  | true =>
  have x4 := tenH X1.out
  go_wp2_with fail
  refine (LH.out w1 B1.out).mono ?_
  rintro e w' ⟨rfl, hw'⟩
  subst w'
  clear LH x4
  cases H with
  | false =>
    obtain rfl := FB.out
    clear FB LR LJ RT X1
    go_wp2
    go_ret
    exact ⟨rfl, B1.out⟩
  | true =>
  have x5 := tenT X1.out
  by_cases cL : 200 < td.length
  · have q : todB ps qs td = false := by unfold todB; rw [decide_eq_false (by omega)]; rfl
    rw [q] at FB
    obtain rfl := FB.out
    clear FB LR LJ RT X1 q
    have cL' : (200 : Int) < (td.length : Int) := by omega
    go_wp2
    go_ret
    exact ⟨rfl, B1.out⟩
  have hl : td.length ≤ 200 := by omega
  have cL' : ¬ (200 : Int) < (td.length : Int) := by omega
  clear cL
  go_wp2_with fail
  go_loopw [3] (fun i wq => ∃ k : Nat, k ≤ td.length ∧ i = .int .i64 k ∧ Hid (∀ j (hj : j < td.length), j < k → miB td[j] = true) ∧ Hid (Below w.heap.size w wq) ∧ Hid (wq.heap[w.heap.size]? = some (.cells #[.slice aW ws.length cW, .slice aP ps.length cP, .slice aS es.length cS, .slice aQ qs.length cQ, .slice aH hs.length cH, .slice aT td.length cT, .int .i64 cd, .int .i64 vl, .slice aN nm.length cN, .bool fr] 67 (0, 0))) ∧ w.heap.size < wq.heap.size) (fun i _ => td.length - (intOf i).toNat)
  case atStart => exact ⟨0, by omega, rfl, fun j _ h => absurd h (by omega), B1, X1, z1⟩
  case round =>
    obtain ⟨k, hk, rfl, G, B, X, z⟩ := hrel
    clear B1 X1 x5 z1
    have x5 := tenT X.out
    by_cases hlt : k < td.length
    · have hlt' : (k : Int) < (td.length : Int) := by omega
      have hge : (0 : Int) ≤ (k : Int) := by omega
      obtain ⟨-, ao, cap, e, -, hc⟩ := Rd.below RT.out B.out
      cases e
      obtain ⟨b, o, rfl, hbl, hcl⟩ := hc (by omega)
      have c0 := (hcl (k * 3) (by omega)).trans (mis_at0 td k hlt)
      have c1 := (hcl (k * 3 + 1) (by omega)).trans (mis_at1 td k hlt)
      have c2 := (hcl (k * 3 + 2) (by omega)).trans (mis_at2 td k hlt)
      rw [← Nat.add_assoc] at c1 c2
      have LM := hideIt (fun w1 => l04Micro_any td[k] w1)
      obtain ⟨mb, emb⟩ : ∃ mb, mb = miB td[k] := ⟨_, rfl⟩
      rw [← emb] at LM
      have AL : Hid (mb = false → todB ps qs td = false) := fun q => by
        unfold todB
        have : td.all miB = false := by
          apply Bool.eq_false_iff.2
          intro h
          have := List.all_eq_true.1 h td[k] (List.getElem_mem hlt)
          rw [← emb, q] at this
          cases this
        rw [this]
        simp
      have GG : Hid (mb = true → ∀ j (hj : j < td.length), j < k + 1 → miB td[j] = true) := fun q j hj hjk => by
        by_cases e : j = k
        · subst e; rw [← emb]; exact q
        · exact G.out j hj (by omega)
      rw [show Mi.v td[k] = .agg #[.int .i64 td[k].kind, .int .i64 td[k].at_, .int .i64 td[k].val] from rfl] at LM
      generalize td[k] = m at *
      clear hc hcl G emb
      go_wp2_with fail
      refine (LM.out wr).mono ?_
      rintro e w2 ⟨rfl, hb2⟩
      have B2 := hideIt (below_trans B.out hb2 B.out.size)
      have X2 := hideIt (box_below X.out hb2 z)
      have z2 : w.heap.size < w2.heap.size := Nat.lt_of_lt_of_le z hb2.size
      clear hb2 c0 c1 c2 x5 B X LM
      cases mb with
      | false =>
        have q := AL.out (by simp)
        rw [q] at FB
        obtain rfl := FB.out
        clear FB LR LJ RT X2 q
        go_wp2
        go_ret
        exact ⟨rfl, B2.out⟩
      | true =>
        go_wp2
        go_roundw
        case rel => exact ⟨k + 1, by omega, by go_num, GG.out (by simp), B2, X2, z2⟩
        case measure => simp [intOf]; omega
    · have hlt' : ¬ (k : Int) < (td.length : Int) := by omega
      have TA : td.all miB = true := List.all_eq_true.2 (fun m hm => by
        obtain ⟨j, hj, rfl⟩ := List.getElem_of_mem hm
        exact G.out j hj (by omega))
      have TB : Hid (todB ps qs td = (decide (ps.length + td.length ≤ 400) && decide (qs.length + td.length ≤ 400))) := by unfold todB; rw [TA, decide_eq_true hl]; rfl
      rw [TB.out] at FB
      clear TB TA G RT
      simp only [Bool.true_and] at FB
      go_upto_region 8 with fail
      obtain ⟨x6, x7, x8⟩ := tenA X.out
      have x9 := tenB X.out
      have PX : Hid (¬ fr = true → ¬ (cd = 0 ∧ vl = 0 ∧ nm.length = 0) → r = false) := fun q1 q2 => by
        rw [FB.out]
        have : (fr || noA cd vl nm) = false := by
          unfold noA
          simp only [Bool.or_eq_false_iff]
          refine ⟨by simpa using q1, ?_⟩
          apply Bool.eq_false_iff.2
          intro h
          simp only [Bool.and_eq_true, decide_eq_true_eq] at h
          exact q2 ⟨h.1, h.2.1, h.2.2⟩
        rw [this]
        simp
      have PY : Hid ((fr = true ∨ (cd = 0 ∧ vl = 0 ∧ nm.length = 0)) → r = ((decide (ps.length + td.length ≤ 400) && decide (qs.length + td.length ≤ 400)) && (decide (0 < td.length) || (decide (rc = 0) && (decide (ps.length = 0) && (decide (qs.length = 0) && decide (jc = 0))))))) := fun q => by
        rw [FB.out]
        have : (fr || noA cd vl nm) = true := by
          unfold noA
          rcases q with q | ⟨q1, q2, q3⟩
          · rw [q]; rfl
          · rw [q1, q2, q3]; simp
        rw [this, Bool.true_and]
      clear FB
      have REST : Hid (r = r) := rfl
      by_cases cF : fr = true
      · subst cF
        have FB := hideIt (PY.out (.inl rfl))
        clear PX PY
        go_upto_region 10 with fail
        clear x6 x7 x8 x9
        obtain ⟨x0, x1, x2, x3⟩ := tenD X.out
        by_cases e1 : 400 < ps.length + td.length
        · have q : r = false := by rw [FB.out, decide_eq_false (p := ps.length + td.length ≤ 400) (by omega)]; rfl
          subst q
          clear FB LR LJ X
          have e1' : (400 : Int) < (ps.length : Int) + (td.length : Int) := by omega
          go_wp2
          go_ret
          exact ⟨rfl, B.out⟩
        have e1' : ¬ (400 : Int) < (ps.length : Int) + (td.length : Int) := by omega
        by_cases e2 : 400 < qs.length + td.length
        · have q : r = false := by rw [FB.out, decide_eq_false (p := qs.length + td.length ≤ 400) (by omega)]; simp
          subst q
          clear FB LR LJ X
          have e2' : (400 : Int) < (qs.length : Int) + (td.length : Int) := by omega
          go_wp2
          go_ret
          exact ⟨rfl, B.out⟩
        have e2' : ¬ (400 : Int) < (qs.length : Int) + (td.length : Int) := by omega
        rw [decide_eq_true (p := ps.length + td.length ≤ 400) (by omega), decide_eq_true (p := qs.length + td.length ≤ 400) (by omega)] at FB
        simp only [Bool.true_and] at FB
        by_cases e3 : 0 < td.length
        · have q : r = true := by rw [FB.out, decide_eq_true e3]; rfl
          subst q
          clear FB LR LJ X
          have e3' : (0 : Int) < (td.length : Int) := by omega
          go_wp2
          go_ret
          exact ⟨rfl, B.out⟩
        have e3' : ¬ (0 : Int) < (td.length : Int) := by omega
        rw [decide_eq_false e3] at FB
        simp only [Bool.false_or] at FB
        go_wp2_with fail
        refine (LR.out wr B.out).mono ?_
        rintro e w2 ⟨ia, ib, ic, id, ie, ig, rfl, hb2⟩
        have B2 := hideIt (below_trans B.out hb2 B.out.size)
        have X2 := hideIt (box_below X.out hb2 z)
        have z2 : w.heap.size < w2.heap.size := Nat.lt_of_lt_of_le z hb2.size
        clear hb2 x0 x1 x2 x3 x5 B X LR
        obtain ⟨w3, hw3⟩ : ∃ w3, w3 = w2.alloc (.cells #[.slice ia ib ic, .slice id ie ig] 76) := ⟨_, rfl⟩
        have hb3 : Below w2.heap.size w2 w3 := by rw [hw3]; exact (Below.refl _ _).alloc (Nat.le_refl _) _
        have B3 := hideIt (below_trans B2.out hb3 B2.out.size)
        have X3 := hideIt (box_below X2.out hb3 z2)
        go_upto_region 15 with fail
        rw [← hw3]
        clear hw3 hb3 B2 X2
        obtain ⟨x0, x1, x2, x3⟩ := tenD X3.out
        by_cases f1 : rc = 0
        · subst f1
          by_cases f2 : ps.length = 0
          · have f2' : (ps.length : Int) = 0 := by omega
            by_cases f3 : qs.length = 0
            · have f3' : (qs.length : Int) = 0 := by omega
              have q : r = decide (jc = 0) := by rw [FB.out, decide_eq_true f2, decide_eq_true f3]; rfl
              clear FB f2 f3
              go_wp2_with fail
              refine (LJ.out (by simp) w3 B3.out).mono ?_
              rintro e w4 ⟨rfl, hb4⟩
              have B4 := hideIt (below_trans B3.out hb4 B3.out.size)
              clear hb4 B3 X3 x0 x1 x2 x3 LJ
              subst q
              go_wp2
              go_ret
              exact ⟨rfl, B4.out⟩
            · have q : r = false := by rw [FB.out, decide_eq_false f3]; simp
              subst q
              have f3' : ¬ (qs.length : Int) = 0 := by omega
              clear FB LJ X3
              go_wp2
              go_ret
              exact ⟨rfl, B3.out⟩
          · have q : r = false := by rw [FB.out, decide_eq_false f2]; simp
            subst q
            have f2' : ¬ (ps.length : Int) = 0 := by omega
            clear FB LJ X3
            go_wp2
            go_ret
            exact ⟨rfl, B3.out⟩
        · have q : r = false := by rw [FB.out, decide_eq_false f1]; rfl
          subst q
          clear FB LJ X3
          go_wp2
          go_ret
          exact ⟨rfl, B3.out⟩
      have cF' : fr = false := by simpa using cF
      by_cases a1 : cd = 0
      · by_cases a2 : vl = 0
        · by_cases a3 : nm.length = 0
          · have FB := hideIt (PY.out (.inr ⟨a1, a2, a3⟩))
            clear PX PY
            subst a1 a2 cF'
            have a3' : (nm.length : Int) = 0 := by omega
            go_upto_region 10 with fail
            clear x6 x7 x8 x9 a3 a3' REST
            obtain ⟨x0, x1, x2, x3⟩ := tenD X.out
            by_cases e1 : 400 < ps.length + td.length
            · have q : r = false := by rw [FB.out, decide_eq_false (p := ps.length + td.length ≤ 400) (by omega)]; rfl
              subst q
              clear FB LR LJ X
              have e1' : (400 : Int) < (ps.length : Int) + (td.length : Int) := by omega
              go_wp2
              go_ret
              exact ⟨rfl, B.out⟩
            have e1' : ¬ (400 : Int) < (ps.length : Int) + (td.length : Int) := by omega
            by_cases e2 : 400 < qs.length + td.length
            · have q : r = false := by rw [FB.out, decide_eq_false (p := qs.length + td.length ≤ 400) (by omega)]; simp
              subst q
              clear FB LR LJ X
              have e2' : (400 : Int) < (qs.length : Int) + (td.length : Int) := by omega
              go_wp2
              go_ret
              exact ⟨rfl, B.out⟩
            have e2' : ¬ (400 : Int) < (qs.length : Int) + (td.length : Int) := by omega
            rw [decide_eq_true (p := ps.length + td.length ≤ 400) (by omega), decide_eq_true (p := qs.length + td.length ≤ 400) (by omega)] at FB
            simp only [Bool.true_and] at FB
            by_cases e3 : 0 < td.length
            · have q : r = true := by rw [FB.out, decide_eq_true e3]; rfl
              subst q
              clear FB LR LJ X
              have e3' : (0 : Int) < (td.length : Int) := by omega
              go_wp2
              go_ret
              exact ⟨rfl, B.out⟩
            have e3' : ¬ (0 : Int) < (td.length : Int) := by omega
            rw [decide_eq_false e3] at FB
            simp only [Bool.false_or] at FB
            go_wp2_with fail
            refine (LR.out wr B.out).mono ?_
            rintro e w2 ⟨ia, ib, ic, id, ie, ig, rfl, hb2⟩
            have B2 := hideIt (below_trans B.out hb2 B.out.size)
            have X2 := hideIt (box_below X.out hb2 z)
            have z2 : w.heap.size < w2.heap.size := Nat.lt_of_lt_of_le z hb2.size
            clear hb2 x0 x1 x2 x3 x5 B X LR
            obtain ⟨w3, hw3⟩ : ∃ w3, w3 = w2.alloc (.cells #[.slice ia ib ic, .slice id ie ig] 76) := ⟨_, rfl⟩
            have hb3 : Below w2.heap.size w2 w3 := by rw [hw3]; exact (Below.refl _ _).alloc (Nat.le_refl _) _
            have B3 := hideIt (below_trans B2.out hb3 B2.out.size)
            have X3 := hideIt (box_below X2.out hb3 z2)
            go_upto_region 15 with fail
            rw [← hw3]
            clear hw3 hb3 B2 X2
            obtain ⟨x0, x1, x2, x3⟩ := tenD X3.out
            by_cases f1 : rc = 0
            · subst f1
              by_cases f2 : ps.length = 0
              · have f2' : (ps.length : Int) = 0 := by omega
                by_cases f3 : qs.length = 0
                · have f3' : (qs.length : Int) = 0 := by omega
                  have q : r = decide (jc = 0) := by rw [FB.out, decide_eq_true f2, decide_eq_true f3]; rfl
                  clear FB f2 f3
                  go_wp2_with fail
                  refine (LJ.out (by simp) w3 B3.out).mono ?_
                  rintro e w4 ⟨rfl, hb4⟩
                  have B4 := hideIt (below_trans B3.out hb4 B3.out.size)
                  clear hb4 B3 X3 x0 x1 x2 x3 LJ
                  subst q
                  go_wp2
                  go_ret
                  exact ⟨rfl, B4.out⟩
                · have q : r = false := by rw [FB.out, decide_eq_false f3]; simp
                  subst q
                  have f3' : ¬ (qs.length : Int) = 0 := by omega
                  clear FB LJ X3
                  go_wp2
                  go_ret
                  exact ⟨rfl, B3.out⟩
              · have q : r = false := by rw [FB.out, decide_eq_false f2]; simp
                subst q
                have f2' : ¬ (ps.length : Int) = 0 := by omega
                clear FB LJ X3
                go_wp2
                go_ret
                exact ⟨rfl, B3.out⟩
            · have q : r = false := by rw [FB.out, decide_eq_false f1]; rfl
              subst q
              clear FB LJ X3
              go_wp2
              go_ret
              exact ⟨rfl, B3.out⟩
          · obtain rfl := PX.out cF (fun q => a3 q.2.2)
            subst a1 a2 cF'
            have a3' : ¬ (nm.length : Int) = 0 := by omega
            clear PX PY LR LJ X
            go_wp2
            go_ret
            exact ⟨rfl, B.out⟩
        · obtain rfl := PX.out cF (fun q => a2 q.2.1)
          subst a1 cF'
          clear PX PY LR LJ X
          go_wp2
          go_ret
          exact ⟨rfl, B.out⟩
      · obtain rfl := PX.out cF (fun q => a1 q.1)
        subst cF'
        clear PX PY LR LJ X
        go_wp2
        go_ret
        exact ⟨rfl, B.out⟩
end Go.Proofs.YtbjjdkemappelaaGreatDoor

namespace Go.Proofs.YtbjjdkemappelaaGreatDoor
open Go.RowKit

/-- A number of heat. -/
def isH (n : Int) : Bool := decide (0 ≤ n ∧ n < 65)
def heatsB (zs : List Int) : Bool := decide (∀ k (h : k < zs.length), isH zs[k] = true)
theorem heatsB_mk {zs : List Int} (h : ∀ k (h : k < zs.length), isH zs[k] = true) : heatsB zs = true := decide_eq_true h
theorem heatsB_not {zs : List Int} {k : Nat} (hk : k < zs.length) (h : isH zs[k] = false) : heatsB zs = false := decide_eq_false (fun x => by have := x k hk; rw [h] at this; cases this)
theorem heat_every {hs : List Int} : heatB hs = (decide (hs.length = 128) && heatsB hs) := by
  unfold heatB heatsB isH
  rw [Bool.eq_iff_iff, Bool.and_eq_true]
  simp only [decide_eq_true_eq]
  constructor
  · exact fun h => ⟨h.1, fun k hk => ⟨(h.2 k hk).1, by have := (h.2 k hk).2; omega⟩⟩
  · exact fun h => ⟨h.1, fun k hk => ⟨(h.2 k hk).1, by have := (h.2 k hk).2; omega⟩⟩

theorem isHeat_any (n : Int) (w : World) : Calls Tryz.prog 124 #[.int .i64 n] w fun e w' => e = .returned (.bool (isH n)) ∧ w' = w := by
  by_cases h : 0 ≤ n ∧ n < 65
  · have e : isH n = true := decide_eq_true h
    rw [e]; clear e
    go_enter Tryz.func124, Tryz.ntmps124
    go_wp2_with fail
    refine (isIndex_yes _ _ _ h).mono ?_
    rintro e w' ⟨rfl, hw'⟩
    subst w'
    go_wp2
    go_ret
    exact ⟨rfl, rfl⟩
  · have e : isH n = false := decide_eq_false h
    rw [e]; clear e
    go_enter Tryz.func124, Tryz.ntmps124
    go_wp2_with fail
    refine (isIndex_no _ _ _ h).mono ?_
    rintro e w' ⟨rfl, hw'⟩
    subst w'
    go_wp2
    go_ret
    exact ⟨rfl, rfl⟩

set_option maxHeartbeats 2000000 in
theorem everyHeat_any (v : Value) (zs : List Int) (w : World) (h : RdI w v zs) (hn : zs.length ≤ 2147483648) :
    Calls Tryz.prog 123 #[v, .func (.func 124) #[] #[]] w fun e w' => e = .returned (.bool (heatsB zs)) ∧ w' = w := by
  obtain ⟨ao, cap, rfl, _, hc⟩ := h.shape
  clear h
  go_enter Tryz.func123, Tryz.ntmps123
  go_wp2
  go_loop [6, 9] (fun _ i => ∃ k : Nat, k ≤ zs.length ∧ i = .int .i64 k ∧ Hid (∀ j (h : j < zs.length), j < k → isH zs[j] = true)) (fun _ i => zs.length - (intOf i).toNat)
  case atStart => exact ⟨0, by omega, rfl, fun j h a => absurd a (by omega)⟩
  case round =>
    obtain ⟨k, hk, rfl, H⟩ := hrel
    by_cases hlt : k < zs.length
    · obtain ⟨b, o, rfl, hbl, hcell⟩ := hc (by omega)
      have hck := hcell k hlt
      clear hcell hc
      by_cases q : isH zs[k] = true
      · go_wp2_with (go_at_call 124; refine (isHeat_any _ _).mono ?_; rintro e w' ⟨rfl, rfl⟩)
        go_round
        case rel =>
          refine ⟨k + 1, by omega, by go_num, fun j h a => ?_⟩
          by_cases e : j = k
          · subst e; exact q
          · exact H.out j h (by omega)
        case measure => simp [intOf]; omega
      · have q' : isH zs[k] = false := by simpa using q
        have E := hideIt (heatsB_not hlt q')
        go_wp2_with (go_at_call 124; refine (isHeat_any _ _).mono ?_; rintro e w' ⟨rfl, rfl⟩)
        go_ret
        exact ⟨ret_bool E.out.symm, rfl⟩
    · have E := hideIt (heatsB_mk (fun j h => H.out j h (by omega)))
      clear H
      go_wp2
      go_ret
      exact ⟨ret_bool E.out.symm, rfl⟩

set_option maxRecDepth 100000 in
set_option maxHeartbeats 4000000 in
theorem implHeatOK_any (v : Value) (hs : List Int) (w : World) (h : RdI w v hs) (hn : hs.length ≤ 1048576) : Calls Tryz.prog 92 #[v] w fun e w' => e = .returned (.bool (heatB hs)) ∧ w' = w := by
  have LE := hideIt (everyHeat_any v hs w h (by omega))
  obtain ⟨ao, cap, rfl, -, -⟩ := h.shape
  rw [heat_every]
  clear h
  generalize heatsB hs = b at *
  by_cases c : hs.length = 128
  · rw [decide_eq_true c, Bool.true_and]
    have q : ((hs.length : Int) == 128) = true := by rw [beq_iff_eq]; omega
    clear c
    go_enter Tryz.func92, Tryz.ntmps92
    go_wp2_with fail
    refine LE.out.mono ?_
    rintro e w' ⟨rfl, hw'⟩
    subst w'
    go_wp2
    go_ret
    exact ⟨rfl, rfl⟩
  · rw [decide_eq_false c, Bool.false_and]
    have q : ((hs.length : Int) == 128) = false := by rw [beq_eq_false_iff_ne]; omega
    clear c LE
    go_enter Tryz.func92, Tryz.ntmps92
    go_wp2
    go_ret
    exact ⟨rfl, rfl⟩

@[go_sem] theorem eqlNilInt (a : Option Addr) (l c : Nat) (w : World) : (binOp .eql 22 (.slice a l c) (.slice none 0 0)).run Tryz.prog w = .ok (.bool a.isNone) w := by
  simp only [binOp]
  simp [run_equal_slice_nil w 22 3 a l c Tryz.underlying22]

end Go.Proofs.YtbjjdkemappelaaGreatDoor

namespace Go.Proofs.YtbjjdkemappelaaGreatDoor
open Go.RowKit

set_option maxHeartbeats 2000000 in
theorem implDevicesOK_any (v : Value) (ws : List Int) (ps : List St) (es : List Int) (qs : List Se) (w : World) (h : RdDev w v ws ps es qs) (hw : ws.length ≤ 1048576) (hp : ps.length ≤ 1048576) (he : es.length ≤ 1048576) (hq : qs.length ≤ 1048576) :
    Calls Tryz.prog 91 #[v] w fun e w' => e = .returned (.bool (pmB ws ps && blkB es qs)) ∧ Below w.heap.size w w' := by
  obtain ⟨aW, cW, aP, cP, aS, cS, aQ, cQ, rfl, h1, h2⟩ := h.form
  have H1 := hideIt h1
  have H2 := hideIt h2
  clear h h1 h2
  have hb0 : Below w.heap.size w (w.alloc (.cells #[.slice aW ws.length cW, .slice aP ps.length cP, .slice aS es.length cS, .slice aQ qs.length cQ] 41)) := (Below.refl _ _).alloc (Nat.le_refl _) _
  by_cases c : pmB ws ps = true
  · have C := hideIt c
    rw [c]
    clear c
    go_enter Tryz.func91, Tryz.ntmps91
    go_wp2_with fail
    refine (implPmOK_any _ ws ps _ (H1.out.below hb0) hw hp).mono ?_
    rw [C.out]
    rintro e w1 ⟨rfl, hb1⟩
    obtain ⟨x0, x1, x2, x3, -, -, -, -⟩ := four_cells ((hb1.block w.heap.size (by simp)).trans (at_new rfl))
    have B1 := hideIt (below_trans hb0 hb1 (by simp))
    clear hb0 hb1
    go_wp2_with fail
    refine (implBlkOK_any _ es qs _ (H2.out.below B1.out) he hq).mono ?_
    rintro e w2 ⟨rfl, hb2⟩
    have B2 := hideIt (below_trans B1.out hb2 B1.out.size)
    clear hb2
    go_wp2
    go_ret
    exact ⟨rfl, B2.out⟩
  · have c' : pmB ws ps = false := by simpa using c
    have C := hideIt c'
    rw [c']
    clear c c'
    go_enter Tryz.func91, Tryz.ntmps91
    go_wp2_with fail
    refine (implPmOK_any _ ws ps _ (H1.out.below hb0) hw hp).mono ?_
    rw [C.out]
    rintro e w1 ⟨rfl, hb1⟩
    have B1 := hideIt (below_trans hb0 hb1 (by simp))
    clear hb0 hb1
    go_wp2
    go_ret
    exact ⟨rfl, B1.out⟩

end Go.Proofs.YtbjjdkemappelaaGreatDoor

namespace Go.Proofs.YtbjjdkemappelaaGreatDoor
open Go.RowKit

/-- The table of bounds lies as the program's start has laid it. -/
def SB (w : World) : Prop := ∃ t fr, w.heap[0]? = some (.cells #[.int .i64 0, .int .i64 0, .int .i64 336, .int .i64 1099511627776, .int .i64 336, .int .i64 1, .int .i64 1, .int .i64 1, .int .i64 32, .int .i64 1099511627776, .int .i64 1, .int .i64 1] t fr)
theorem SB.lt {w : World} (h : SB w) : 0 < w.heap.size := by
  obtain ⟨t, fr, h⟩ := h
  exact (Array.getElem?_eq_some_iff.1 h).1
theorem SB.below {w w' : World} (h : SB w) (hb : Below w.heap.size w w') : SB w' := by
  have hl := h.lt
  obtain ⟨t, fr, h⟩ := h
  exact ⟨t, fr, (hb.block _ hl).trans h⟩
theorem SB.cells {w : World} (h : SB w) : w.cell? ⟨0, 0, none⟩ = some (.int .i64 0) ∧ w.cell? ⟨0, 1, none⟩ = some (.int .i64 0) ∧ w.cell? ⟨0, 2, none⟩ = some (.int .i64 336) ∧ w.cell? ⟨0, 3, none⟩ = some (.int .i64 1099511627776) ∧ w.cell? ⟨0, 4, none⟩ = some (.int .i64 336) ∧ w.cell? ⟨0, 5, none⟩ = some (.int .i64 1) ∧ w.cell? ⟨0, 6, none⟩ = some (.int .i64 1) ∧ w.cell? ⟨0, 7, none⟩ = some (.int .i64 1) ∧ w.cell? ⟨0, 8, none⟩ = some (.int .i64 32) ∧ w.cell? ⟨0, 9, none⟩ = some (.int .i64 1099511627776) ∧ w.cell? ⟨0, 10, none⟩ = some (.int .i64 1) ∧ w.cell? ⟨0, 11, none⟩ = some (.int .i64 1) := by
  obtain ⟨t, fr, h⟩ := h
  simp [World.cell?, h]
theorem miB_in {k a x : Int} (h : (k = 1 ∧ (0 ≤ a ∧ a < 336) ∧ 0 ≤ x ∧ x < 1099511627776) ∨ (k = 2 ∧ (0 ≤ a ∧ a < 336) ∧ x = 0) ∨ (k = 4 ∧ (0 ≤ a ∧ a < 32) ∧ 0 ≤ x ∧ x < 1099511627776) ∨ ((k = 3 ∨ k = 5) ∧ a = 0 ∧ x = 0)) : miB ⟨k, a, x⟩ = true := (miB_of k a x).2 h
theorem miB_out {k a x : Int} (h : ¬ ((k = 1 ∧ (0 ≤ a ∧ a < 336) ∧ 0 ≤ x ∧ x < 1099511627776) ∨ (k = 2 ∧ (0 ≤ a ∧ a < 336) ∧ x = 0) ∨ (k = 4 ∧ (0 ≤ a ∧ a < 32) ∧ 0 ≤ x ∧ x < 1099511627776) ∨ ((k = 3 ∨ k = 5) ∧ a = 0 ∧ x = 0))) : miB ⟨k, a, x⟩ = false := by
  cases e : miB ⟨k, a, x⟩ with
  | false => rfl
  | true => exact absurd ((miB_of k a x).1 e) h

set_option maxRecDepth 100000 in
set_option maxHeartbeats 8000000 in
theorem isStep_of (k a x : Int) (w : World) (hS : SB w) : Calls Tryz.prog 51 #[.agg #[.int .i64 k, .int .i64 a, .int .i64 x]] w fun e w' => e = .returned (.bool (miB ⟨k, a, x⟩)) ∧ Below w.heap.size w w' := by
  have hb0 : Below w.heap.size w (w.alloc (.cells #[.int .i64 k, .int .i64 a, .int .i64 x] 110)) := (Below.refl _ _).alloc (Nat.le_refl _) _
  obtain ⟨c0, c1, c2, c3, c4, c5, c6, c7, c8, c9, c10, c11⟩ := (hS.below hb0).cells
  clear hS
  by_cases hk : 0 ≤ k ∧ k < 6
  case neg =>
    have E := hideIt (miB_out (k := k) (a := a) (x := x) (by omega))
    have HK := hideIt hk
    clear hk c0 c1 c2 c3 c4 c5 c6 c7 c8 c9 c10 c11
    go_enter Tryz.func51, Tryz.ntmps51
    go_wp2_with (go_at_call 86; refine (isIndex_no _ _ _ HK.out).mono ?_; rintro e w' ⟨rfl, rfl⟩)
    go_ret
    exact ⟨ret_bool E.out.symm, hb0⟩
  rcases (show k = 0 ∨ k = 1 ∨ k = 2 ∨ k = 3 ∨ k = 4 ∨ k = 5 by omega) with rfl | rfl | rfl | rfl | rfl | rfl
  · have hb1 : Below w.heap.size w ((w.alloc (.cells #[.int .i64 0, .int .i64 a, .int .i64 x] 110)).alloc (.cells #[.int .i64 0, .int .i64 0] 146)) := hb0.alloc (by simp) _
    clear c2 c3 c4 c5 c6 c7 c8 c9 c10 c11
    have E := hideIt (miB_out (k := 0) (a := a) (x := x) (by omega))
    have HA : Hid (¬ (0 ≤ a ∧ a < 0)) := fun h => by omega
    go_enter Tryz.func51, Tryz.ntmps51
    go_wp2_with (first | (go_at_call 86; refine (isIndex_yes _ _ _ (by omega)).mono ?_; rintro e w' ⟨rfl, rfl⟩) | (go_at_call 86; refine (isIndex_no _ _ _ HA.out).mono ?_; rintro e w' ⟨rfl, rfl⟩))
    go_ret
    exact ⟨ret_bool E.out.symm, hb1⟩
  · have hb1 : Below w.heap.size w ((w.alloc (.cells #[.int .i64 1, .int .i64 a, .int .i64 x] 110)).alloc (.cells #[.int .i64 336, .int .i64 1099511627776] 146)) := hb0.alloc (by simp) _
    clear c0 c1 c4 c5 c6 c7 c8 c9 c10 c11
    by_cases ha : 0 ≤ a ∧ a < 336
    · by_cases hx : 0 ≤ x ∧ x < 1099511627776
      · have E := hideIt (miB_in (k := 1) (a := a) (x := x) (by omega))
        go_enter Tryz.func51, Tryz.ntmps51
        go_wp2_with (go_at_call 86; refine (isIndex_yes _ _ _ (by omega)).mono ?_; rintro e w' ⟨rfl, rfl⟩)
        go_ret
        exact ⟨ret_bool E.out.symm, hb1⟩
      · have E := hideIt (miB_out (k := 1) (a := a) (x := x) (by omega))
        have HX := hideIt hx
        clear hx
        go_enter Tryz.func51, Tryz.ntmps51
        go_wp2_with (first | (go_at_call 86; refine (isIndex_yes _ _ _ (by omega)).mono ?_; rintro e w' ⟨rfl, rfl⟩) | (go_at_call 86; refine (isIndex_no _ _ _ HX.out).mono ?_; rintro e w' ⟨rfl, rfl⟩))
        go_ret
        exact ⟨ret_bool E.out.symm, hb1⟩
    · have E := hideIt (miB_out (k := 1) (a := a) (x := x) (by omega))
      have HA := hideIt ha
      clear ha
      go_enter Tryz.func51, Tryz.ntmps51
      go_wp2_with (first | (go_at_call 86; refine (isIndex_yes _ _ _ (by omega)).mono ?_; rintro e w' ⟨rfl, rfl⟩) | (go_at_call 86; refine (isIndex_no _ _ _ HA.out).mono ?_; rintro e w' ⟨rfl, rfl⟩))
      go_ret
      exact ⟨ret_bool E.out.symm, hb1⟩
  · have hb1 : Below w.heap.size w ((w.alloc (.cells #[.int .i64 2, .int .i64 a, .int .i64 x] 110)).alloc (.cells #[.int .i64 336, .int .i64 1] 146)) := hb0.alloc (by simp) _
    clear c0 c1 c2 c3 c6 c7 c8 c9 c10 c11
    by_cases ha : 0 ≤ a ∧ a < 336
    · by_cases hx : 0 ≤ x ∧ x < 1
      · have E := hideIt (miB_in (k := 2) (a := a) (x := x) (by omega))
        go_enter Tryz.func51, Tryz.ntmps51
        go_wp2_with (go_at_call 86; refine (isIndex_yes _ _ _ (by omega)).mono ?_; rintro e w' ⟨rfl, rfl⟩)
        go_ret
        exact ⟨ret_bool E.out.symm, hb1⟩
      · have E := hideIt (miB_out (k := 2) (a := a) (x := x) (by omega))
        have HX := hideIt hx
        clear hx
        go_enter Tryz.func51, Tryz.ntmps51
        go_wp2_with (first | (go_at_call 86; refine (isIndex_yes _ _ _ (by omega)).mono ?_; rintro e w' ⟨rfl, rfl⟩) | (go_at_call 86; refine (isIndex_no _ _ _ HX.out).mono ?_; rintro e w' ⟨rfl, rfl⟩))
        go_ret
        exact ⟨ret_bool E.out.symm, hb1⟩
    · have E := hideIt (miB_out (k := 2) (a := a) (x := x) (by omega))
      have HA := hideIt ha
      clear ha
      go_enter Tryz.func51, Tryz.ntmps51
      go_wp2_with (first | (go_at_call 86; refine (isIndex_yes _ _ _ (by omega)).mono ?_; rintro e w' ⟨rfl, rfl⟩) | (go_at_call 86; refine (isIndex_no _ _ _ HA.out).mono ?_; rintro e w' ⟨rfl, rfl⟩))
      go_ret
      exact ⟨ret_bool E.out.symm, hb1⟩
  · have hb1 : Below w.heap.size w ((w.alloc (.cells #[.int .i64 3, .int .i64 a, .int .i64 x] 110)).alloc (.cells #[.int .i64 1, .int .i64 1] 146)) := hb0.alloc (by simp) _
    clear c0 c1 c2 c3 c4 c5 c8 c9 c10 c11
    by_cases ha : 0 ≤ a ∧ a < 1
    · by_cases hx : 0 ≤ x ∧ x < 1
      · have E := hideIt (miB_in (k := 3) (a := a) (x := x) (by omega))
        go_enter Tryz.func51, Tryz.ntmps51
        go_wp2_with (go_at_call 86; refine (isIndex_yes _ _ _ (by omega)).mono ?_; rintro e w' ⟨rfl, rfl⟩)
        go_ret
        exact ⟨ret_bool E.out.symm, hb1⟩
      · have E := hideIt (miB_out (k := 3) (a := a) (x := x) (by omega))
        have HX := hideIt hx
        clear hx
        go_enter Tryz.func51, Tryz.ntmps51
        go_wp2_with (first | (go_at_call 86; refine (isIndex_yes _ _ _ (by omega)).mono ?_; rintro e w' ⟨rfl, rfl⟩) | (go_at_call 86; refine (isIndex_no _ _ _ HX.out).mono ?_; rintro e w' ⟨rfl, rfl⟩))
        go_ret
        exact ⟨ret_bool E.out.symm, hb1⟩
    · have E := hideIt (miB_out (k := 3) (a := a) (x := x) (by omega))
      have HA := hideIt ha
      clear ha
      go_enter Tryz.func51, Tryz.ntmps51
      go_wp2_with (first | (go_at_call 86; refine (isIndex_yes _ _ _ (by omega)).mono ?_; rintro e w' ⟨rfl, rfl⟩) | (go_at_call 86; refine (isIndex_no _ _ _ HA.out).mono ?_; rintro e w' ⟨rfl, rfl⟩))
      go_ret
      exact ⟨ret_bool E.out.symm, hb1⟩
  · have hb1 : Below w.heap.size w ((w.alloc (.cells #[.int .i64 4, .int .i64 a, .int .i64 x] 110)).alloc (.cells #[.int .i64 32, .int .i64 1099511627776] 146)) := hb0.alloc (by simp) _
    clear c0 c1 c2 c3 c4 c5 c6 c7 c10 c11
    by_cases ha : 0 ≤ a ∧ a < 32
    · by_cases hx : 0 ≤ x ∧ x < 1099511627776
      · have E := hideIt (miB_in (k := 4) (a := a) (x := x) (by omega))
        go_enter Tryz.func51, Tryz.ntmps51
        go_wp2_with (go_at_call 86; refine (isIndex_yes _ _ _ (by omega)).mono ?_; rintro e w' ⟨rfl, rfl⟩)
        go_ret
        exact ⟨ret_bool E.out.symm, hb1⟩
      · have E := hideIt (miB_out (k := 4) (a := a) (x := x) (by omega))
        have HX := hideIt hx
        clear hx
        go_enter Tryz.func51, Tryz.ntmps51
        go_wp2_with (first | (go_at_call 86; refine (isIndex_yes _ _ _ (by omega)).mono ?_; rintro e w' ⟨rfl, rfl⟩) | (go_at_call 86; refine (isIndex_no _ _ _ HX.out).mono ?_; rintro e w' ⟨rfl, rfl⟩))
        go_ret
        exact ⟨ret_bool E.out.symm, hb1⟩
    · have E := hideIt (miB_out (k := 4) (a := a) (x := x) (by omega))
      have HA := hideIt ha
      clear ha
      go_enter Tryz.func51, Tryz.ntmps51
      go_wp2_with (first | (go_at_call 86; refine (isIndex_yes _ _ _ (by omega)).mono ?_; rintro e w' ⟨rfl, rfl⟩) | (go_at_call 86; refine (isIndex_no _ _ _ HA.out).mono ?_; rintro e w' ⟨rfl, rfl⟩))
      go_ret
      exact ⟨ret_bool E.out.symm, hb1⟩
  · have hb1 : Below w.heap.size w ((w.alloc (.cells #[.int .i64 5, .int .i64 a, .int .i64 x] 110)).alloc (.cells #[.int .i64 1, .int .i64 1] 146)) := hb0.alloc (by simp) _
    clear c0 c1 c2 c3 c4 c5 c6 c7 c8 c9
    by_cases ha : 0 ≤ a ∧ a < 1
    · by_cases hx : 0 ≤ x ∧ x < 1
      · have E := hideIt (miB_in (k := 5) (a := a) (x := x) (by omega))
        go_enter Tryz.func51, Tryz.ntmps51
        go_wp2_with (go_at_call 86; refine (isIndex_yes _ _ _ (by omega)).mono ?_; rintro e w' ⟨rfl, rfl⟩)
        go_ret
        exact ⟨ret_bool E.out.symm, hb1⟩
      · have E := hideIt (miB_out (k := 5) (a := a) (x := x) (by omega))
        have HX := hideIt hx
        clear hx
        go_enter Tryz.func51, Tryz.ntmps51
        go_wp2_with (first | (go_at_call 86; refine (isIndex_yes _ _ _ (by omega)).mono ?_; rintro e w' ⟨rfl, rfl⟩) | (go_at_call 86; refine (isIndex_no _ _ _ HX.out).mono ?_; rintro e w' ⟨rfl, rfl⟩))
        go_ret
        exact ⟨ret_bool E.out.symm, hb1⟩
    · have E := hideIt (miB_out (k := 5) (a := a) (x := x) (by omega))
      have HA := hideIt ha
      clear ha
      go_enter Tryz.func51, Tryz.ntmps51
      go_wp2_with (first | (go_at_call 86; refine (isIndex_yes _ _ _ (by omega)).mono ?_; rintro e w' ⟨rfl, rfl⟩) | (go_at_call 86; refine (isIndex_no _ _ _ HA.out).mono ?_; rintro e w' ⟨rfl, rfl⟩))
      go_ret
      exact ⟨ret_bool E.out.symm, hb1⟩
/-- All steps are right. -/
def misB (ps : List Mi) : Bool := decide (∀ k (h : k < ps.length), miB ps[k] = true)
theorem misB_mk {ps : List Mi} (h : ∀ k (h : k < ps.length), miB ps[k] = true) : misB ps = true := decide_eq_true h
theorem misB_not {ps : List Mi} {k : Nat} (hk : k < ps.length) (h : miB ps[k] = false) : misB ps = false := decide_eq_false (fun x => by have := x k hk; rw [h] at this; cases this)
set_option maxHeartbeats 4000000 in
theorem everyStep_any (v : Value) (ps : List Mi) (w : World) (hS : SB w) (h : RdM w v ps) (hn : ps.length ≤ 1048576) :
    Calls Tryz.prog 50 #[v, .func (.func 51) #[] #[]] w fun e w' => e = .returned (.bool (misB ps)) ∧ Below w.heap.size w w' := by
  obtain ⟨aP, cP, rfl, _, hcP⟩ := h.shape
  have HS := hideIt hS
  clear h hS
  go_enter Tryz.func50, Tryz.ntmps50
  go_wp2
  go_loopw [6, 9] (fun _ i wr => ∃ k : Nat, k ≤ ps.length ∧ i = .int .i64 k ∧ Hid (∀ j (h : j < ps.length), j < k → miB ps[j] = true) ∧ Below w.heap.size w wr) (fun _ i _ => ps.length - (intOf i).toNat)
  case atStart => exact ⟨0, by omega, rfl, fun j h a => absurd a (by omega), Below.refl _ _⟩
  case round =>
    obtain ⟨m, hm, rfl, H, hbw⟩ := hrel
    have hz := hbw.size
    by_cases hlt2 : m < ps.length
    · obtain ⟨b2, o2, rfl, hbl2, hcell2⟩ := hcP (by omega)
      obtain ⟨d0, d1, d2⟩ := hcell2 m hlt2
      have e0 := (hbw.cell (p := ⟨b2, o2 + m * 3, none⟩) hbl2).trans d0
      have e1 := (hbw.cell (p := ⟨b2, o2 + m * 3 + 1, none⟩) hbl2).trans d1
      have e2 := (hbw.cell (p := ⟨b2, o2 + m * 3 + 2, none⟩) hbl2).trans d2
      have hb1 := hideIt (hbw.alloc hz (.cells #[.int .i64 ps[m].kind, .int .i64 ps[m].at_, .int .i64 ps[m].val] 110))
      clear d0 d1 d2 hcell2 hcP
      by_cases q : miB ps[m] = true
      · have Q := hideIt q
        clear q
        go_wp2_with (go_at_call 51; refine (isStep_of ps[m].kind ps[m].at_ ps[m].val _ (HS.out.below hb1.out)).mono ?_; rw [Q.out]; rintro e w' ⟨rfl, hw'⟩)
        have hw2 := hb1.out.trans (hw'.mono (by simp; omega))
        clear hb1 hw'
        go_roundw
        case rel =>
          refine ⟨m + 1, by omega, by go_num, fun j h a => ?_, hw2⟩
          by_cases e : j = m
          · subst e; exact Q.out
          · exact H.out j h (by omega)
        case measure => simp [intOf]; omega
      · have Q := hideIt (show miB ps[m] = false by simpa using q)
        have E := hideIt (misB_not hlt2 Q.out)
        clear q
        go_wp2_with (go_at_call 51; refine (isStep_of ps[m].kind ps[m].at_ ps[m].val _ (HS.out.below hb1.out)).mono ?_; rw [Q.out]; rintro e w' ⟨rfl, hw'⟩)
        have hw2 := hb1.out.trans (hw'.mono (by simp; omega))
        go_ret
        exact ⟨ret_bool E.out.symm, hw2⟩
    · have E := hideIt (misB_mk (fun j h => H.out j h (by omega)))
      go_wp2
      go_ret
      exact ⟨ret_bool E.out.symm, hbw⟩
end Go.Proofs.YtbjjdkemappelaaGreatDoor

namespace Go.Proofs.YtbjjdkemappelaaGreatDoor
open Go.RowKit

set_option maxRecDepth 100000 in
set_option maxHeartbeats 8000000 in
theorem isNoAnswer_any (c v : Int) (a : Option Addr) (nm : List ByteArray) (cap : Nat) (w : World) (_hn : nm.length ≤ 1048576) :
    Calls Tryz.prog 94 #[.agg #[.int .i64 c, .int .i64 v, .slice a nm.length cap]] w fun e w' => e = .returned (.bool (noA c v nm)) ∧ Below w.heap.size w w' := by
  have BW : Hid (Below w.heap.size w (w.alloc (.cells #[.int .i64 c, .int .i64 v, .slice a nm.length cap] 65))) := (Below.refl _ _).alloc (Nat.le_refl _) _
  by_cases a1 : c = 0
  · by_cases a2 : v = 0
    · by_cases a3 : nm.length = 0
      · have q : noA c v nm = true := by unfold noA; rw [a1, a2, a3]; rfl
        rw [q]
        clear q
        have a3' : (nm.length : Int) = 0 := by omega
        subst a1 a2
        clear a3
        go_enter Tryz.func94, Tryz.ntmps94
        go_wp2
        go_ret
        exact ⟨ret_bool (by first | rfl | exact decide_eq_false (by assumption) | exact decide_eq_false (by omega) | exact decide_eq_true (by omega)), BW.out⟩
      · have q : noA c v nm = false := by unfold noA; rw [a1, a2, decide_eq_false a3]; rfl
        rw [q]
        clear q
        have a3' : ¬ (nm.length : Int) = 0 := by omega
        subst a1 a2
        clear a3
        go_enter Tryz.func94, Tryz.ntmps94
        go_wp2
        go_ret
        exact ⟨ret_bool (by first | rfl | exact decide_eq_false (by assumption) | exact decide_eq_false (by omega) | exact decide_eq_true (by omega)), BW.out⟩
    · have q : noA c v nm = false := by unfold noA; rw [decide_eq_false a2]; simp
      rw [q]
      clear q
      subst a1
      go_enter Tryz.func94, Tryz.ntmps94
      go_wp2
      go_ret
      exact ⟨ret_bool (by first | rfl | exact decide_eq_false (by assumption) | exact decide_eq_false (by omega) | exact decide_eq_true (by omega)), BW.out⟩
  · have q : noA c v nm = false := by unfold noA; rw [decide_eq_false a1]; rfl
    rw [q]
    clear q
    go_enter Tryz.func94, Tryz.ntmps94
    go_wp2
    go_ret
    exact ⟨ret_bool (by first | rfl | exact decide_eq_false (by assumption) | exact decide_eq_false (by omega) | exact decide_eq_true (by omega)), BW.out⟩
theorem mis_all' (td : List Mi) : misB td = td.all miB := by
  apply Bool.eq_iff_iff.2
  unfold misB
  simp only [decide_eq_true_eq, List.all_eq_true]
  constructor
  · intro h m hm
    obtain ⟨j, hj, rfl⟩ := List.getElem_of_mem hm
    exact h j hj
  · intro h j hj
    exact h _ (List.getElem_mem hj)
set_option maxRecDepth 100000 in
set_option maxHeartbeats 8000000 in
theorem todoOK_any (v : Value) (ws : List Int) (ps : List St) (es : List Int) (qs : List Se) (hs : List Int) (td : List Mi) (cd vl : Int) (nm : List ByteArray) (fr : Bool) (w : World) (h : RdF w v ws ps es qs hs td cd vl nm fr) (hps : ps.length ≤ 1048576) (hqs : qs.length ≤ 1048576) (htd : td.length ≤ 1048576) (hS : SB w) :
    Calls Tryz.prog 93 #[v] w fun e w' => e = .returned (.bool (todB ps qs td)) ∧ Below w.heap.size w w' := by
  obtain ⟨aW, cW, aP, cP, aS, cS, aQ, cQ, aH, cH, aT, cT, aN, cN, rfl, -, -, t1, -⟩ := h
  obtain ⟨M, eM⟩ : ∃ M, M = td.all miB := ⟨_, rfl⟩
  have LE : Hid (∀ w1, Below w.heap.size w w1 → Calls Tryz.prog 50 #[.slice aT td.length cT, .func (.func 51) #[] #[]] w1 fun e w' => e = .returned (.bool M) ∧ Below w1.heap.size w1 w') := fun w1 hb => by rw [eM, ← mis_all']; exact everyStep_any _ td w1 (hS.below hb) (Rd.below t1 hb) htd
  have FB : Hid (todB ps qs td = (decide (td.length ≤ 200) && (M && (decide (ps.length + td.length ≤ 400) && decide (qs.length + td.length ≤ 400))))) := by rw [eM]; rfl
  generalize todB ps qs td = r at *
  clear t1 eM hS
  obtain ⟨V, hV⟩ : ∃ V, V = w.alloc (.cells #[.slice aW ws.length cW, .slice aP ps.length cP, .slice aS es.length cS, .slice aQ qs.length cQ, .slice aH hs.length cH, .slice aT td.length cT, .int .i64 cd, .int .i64 vl, .slice aN nm.length cN, .bool fr] 67) := ⟨_, rfl⟩
  have BV : Hid (Below w.heap.size w V) := by rw [hV]; exact (Below.refl _ _).alloc (Nat.le_refl _) _
  have XV : Hid (V.heap[w.heap.size]? = some (.cells #[.slice aW ws.length cW, .slice aP ps.length cP, .slice aS es.length cS, .slice aQ qs.length cQ, .slice aH hs.length cH, .slice aT td.length cT, .int .i64 cd, .int .i64 vl, .slice aN nm.length cN, .bool fr] 67 (0, 0))) := by rw [hV]; exact at_new rfl
  have zV : w.heap.size < V.heap.size := lt_box XV.out
  go_enter Tryz.func93, Tryz.ntmps93
  go_upto_region 1 with fail
  rw [← hV]
  clear hV
  have x5 := tenT XV.out
  by_cases c1 : td.length ≤ 200
  · rw [decide_eq_true c1, Bool.true_and] at FB
    have c1' : (td.length : Int) ≤ 200 := by omega
    go_wp2_with fail
    refine (LE.out V BV.out).mono ?_
    rintro e w1 ⟨rfl, hb1⟩
    have B1 := hideIt (below_trans BV.out hb1 BV.out.size)
    have X1 := hideIt (box_below XV.out hb1 zV)
    clear hb1 x5 LE BV XV
    cases M with
    | false =>
      obtain rfl := FB.out
      clear FB X1
      go_wp2
      go_ret
      exact ⟨ret_bool (by first | rfl | exact decide_eq_false (by assumption) | exact decide_eq_false (by omega) | exact decide_eq_true (by omega)), B1.out⟩
    | true =>
      rw [Bool.true_and] at FB
      have x5 := tenT X1.out
      obtain ⟨x0, x1, x2, x3⟩ := tenD X1.out
      clear X1
      by_cases c2 : ps.length + td.length ≤ 400
      · rw [decide_eq_true c2, Bool.true_and] at FB
        have c2' : (ps.length : Int) + (td.length : Int) ≤ 400 := by omega
        by_cases c3 : qs.length + td.length ≤ 400
        · rw [decide_eq_true c3] at FB
          obtain rfl := FB.out
          have c3' : (qs.length : Int) + (td.length : Int) ≤ 400 := by omega
          clear FB
          go_wp2
          go_ret
          exact ⟨ret_bool (by first | rfl | exact decide_eq_false (by assumption) | exact decide_eq_false (by omega) | exact decide_eq_true (by omega)), B1.out⟩
        · rw [decide_eq_false c3] at FB
          obtain rfl := FB.out
          have c3' : ¬ (qs.length : Int) + (td.length : Int) ≤ 400 := by omega
          clear FB
          go_wp2
          go_ret
          exact ⟨ret_bool (by first | rfl | exact decide_eq_false (by assumption) | exact decide_eq_false (by omega) | exact decide_eq_true (by omega)), B1.out⟩
      · rw [decide_eq_false c2] at FB
        obtain rfl := FB.out
        have c2' : ¬ (ps.length : Int) + (td.length : Int) ≤ 400 := by omega
        clear FB
        go_wp2
        go_ret
        exact ⟨ret_bool (by first | rfl | exact decide_eq_false (by assumption) | exact decide_eq_false (by omega) | exact decide_eq_true (by omega)), B1.out⟩
  · rw [decide_eq_false c1] at FB
    obtain rfl := FB.out
    have c1' : ¬ (td.length : Int) ≤ 200 := by omega
    clear FB LE XV
    go_wp2
    go_ret
    exact ⟨ret_bool (by first | rfl | exact decide_eq_false (by assumption) | exact decide_eq_false (by omega) | exact decide_eq_true (by omega)), BV.out⟩
set_option maxRecDepth 100000 in
set_option maxHeartbeats 8000000 in
theorem allSure_any (aW aP aS aQ : Option Addr) (n m p q cW cP cS cQ : Nat) (w : World) (hm : m ≤ 1048576) (hq : q ≤ 1048576) :
    Calls Tryz.prog 65 #[.agg #[.slice aW n cW, .slice aP m cP, .slice aS p cS, .slice aQ q cQ]] w fun e w' => e = .returned (.bool (decide (m = 0) && decide (q = 0))) ∧ Below w.heap.size w w' := by
  have BW : Hid (Below w.heap.size w (w.alloc (.cells #[.slice aW n cW, .slice aP m cP, .slice aS p cS, .slice aQ q cQ] 41))) := (Below.refl _ _).alloc (Nat.le_refl _) _
  by_cases a1 : m = 0
  · subst a1
    by_cases a2 : q = 0
    · subst a2
      go_enter Tryz.func65, Tryz.ntmps65
      go_wp2
      go_ret
      exact ⟨ret_bool (by first | rfl | exact decide_eq_false (by assumption) | exact decide_eq_false (by omega) | exact decide_eq_true (by omega)), BW.out⟩
    · rw [decide_eq_false a2]
      have a2' : ¬ (q : Int) = 0 := by omega
      go_enter Tryz.func65, Tryz.ntmps65
      go_wp2
      go_ret
      exact ⟨ret_bool (by first | rfl | exact decide_eq_false (by assumption) | exact decide_eq_false (by omega) | exact decide_eq_true (by omega)), BW.out⟩
  · rw [decide_eq_false a1]
    have a1' : ¬ (m : Int) = 0 := by omega
    go_enter Tryz.func65, Tryz.ntmps65
    go_wp2
    go_ret
    exact ⟨ret_bool (by first | rfl | exact decide_eq_false (by assumption) | exact decide_eq_false (by omega) | exact decide_eq_true (by omega)), BW.out⟩
set_option maxRecDepth 100000 in
set_option maxHeartbeats 8000000 in
/-- What waits in a journal: something is told, and where nothing waits to be sure it is as the model says. -/
theorem implJournalCount_some (v : Value) (ws : List Int) (ps : List St) (w : World) (h : RdPm w v ws ps) (hw : ws.length ≤ 1048576) (hp : ps.length ≤ 1048576) (hok : pmB ws ps = true) :
    Calls Tryz.prog 125 #[v] w fun e w' => ∃ a c : Int, e = .returned (.tuple #[.int .i64 a, .int .i64 c]) ∧ (ps.length = 0 → (a = 0 ∧ c = 0 ↔ ldW ws ps 8 = 0)) ∧ Below w.heap.size w w' := by
  have hl8 : 8 < ws.length := by rw [pm_len hok]; decide
  have LP : Hid (∀ w1, Below w.heap.size w w1 → Calls Tryz.prog 122 #[v] w1 fun e w' => e = .returned (.bool true) ∧ Below w1.heap.size w1 w') := fun w1 hb => by rw [← hok]; exact implPmOK_any v ws ps w1 (h.below hb) hw hp
  have EL : Hid (ps.length = 0 → ldW ws ps 8 = ws[8]) := fun e => by
    obtain rfl := List.length_eq_zero_iff.1 e
    rw [ldW_at hl8]
    rfl
  obtain ⟨vW, vP, rfl, h1, h2⟩ := h
  obtain ⟨aW, cW, rfl, _, hcW⟩ := h1.shape
  obtain ⟨aP, cP, rfl, _⟩ := h2.shape
  obtain ⟨b, o, rfl, hbl, hcell⟩ := hcW (by omega)
  have d8 := hcell 8 hl8
  have hlt : (8 : Int) < (ws.length : Int) := by omega
  have hb0 : Below w.heap.size w (w.alloc (.cells #[.slice (some ⟨b, o, none⟩) ws.length cW, .slice aP ps.length cP] 36)) := (Below.refl _ _).alloc (Nat.le_refl _) _
  generalize ws[8] = n at *
  clear h1 h2 hcW hcell hok
  go_enter Tryz.func125, Tryz.ntmps125
  go_wp2_with fail
  refine (LP.out _ hb0).mono ?_
  rintro e w1 ⟨rfl, hb1⟩
  have B1 := hideIt (below_trans hb0 hb1 (by simp))
  have d8' := (B1.out.cell (p := ⟨b, o + 8, none⟩) hbl).trans d8
  obtain ⟨x1, x2, -, -⟩ := two_cells ((hb1.block w.heap.size (by simp)).trans (at_new rfl))
  clear hb0 hb1 d8 LP
  by_cases c : 16 < n
  · go_wp2
    go_ret2
    exact ⟨0, 3, rfl, fun e => by rw [EL.out e]; constructor <;> intro q <;> omega, B1.out⟩
  · go_wp2
    go_ret2
    exact ⟨n, 0, rfl, fun e => by rw [EL.out e]; constructor <;> intro q <;> omega, B1.out⟩
set_option maxRecDepth 100000 in
set_option maxHeartbeats 8000000 in
theorem isAtRest_any (v : Value) (ws : List Int) (ps : List St) (es : List Int) (qs : List Se) (w : World) (h : RdDev w v ws ps es qs) (hok : (pmB ws ps && blkB es qs) = true) (hws : ws.length ≤ 1048576) (hps : ps.length ≤ 1048576) (hes : es.length ≤ 1048576) (hqs : qs.length ≤ 1048576) (hT : TS w) (hE : ED w) (hF : FD w) :
    Calls Tryz.prog 95 #[v] w fun e w' => e = .returned (.bool (restB ws ps es qs)) ∧ Below w.heap.size w w' := by
  obtain ⟨aW, cW, aP, cP, aS, cS, aQ, cQ, rfl, -, -⟩ := h.form
  have hok' := hok
  simp only [Bool.and_eq_true] at hok'
  have LJ := hideIt (fun w1 (hb : Below w.heap.size w w1) => implJournalCount_some _ ws ps w1 (dev_pm (h.below hb)) hws hps hok'.1)
  have LA := hideIt (fun w1 => allSure_any aW aP aS aQ ws.length ps.length es.length qs.length cW cP cS cQ w1 hps hqs)
  have LS := hideIt (fun w1 (hb : Below w.heap.size w w1) => seenImage_any _ ws ps es qs w1 (h.below hb) hws hps hes hqs (hT.below hb) (hE.below hb) (hF.below hb))
  have LI := hideIt (fun v1 w1 (hb : Below w.heap.size w w1) (hr : RdIm w1 v1 (dvN ws ps es qs) (dvD ws ps es qs)) => implImageOK_any v1 (dvN ws ps es qs) (dvD ws ps es qs) w1 hr (dv_len ws ps es qs).1 (dv_len ws ps es qs).2 (hT.below hb) (hE.below hb) (hF.below hb) dv_R dv_name)
  rw [dv_img] at LI
  have FB : Hid (restB ws ps es qs = (dvB ws ps es qs && (decide (ps.length = 0) && (decide (qs.length = 0) && decide (ldW ws ps 8 = 0))))) := rfl
  generalize restB ws ps es qs = r at *
  generalize dvB ws ps es qs = d at *
  generalize dvN ws ps es qs = dn at *
  generalize dvD ws ps es qs = dd at *
  generalize ldW ws ps 8 = jc at *
  clear h hok hok' hT hE hF
  obtain ⟨V, hV⟩ : ∃ V, V = w.alloc (.cells #[.slice aW ws.length cW, .slice aP ps.length cP, .slice aS es.length cS, .slice aQ qs.length cQ] 41) := ⟨_, rfl⟩
  have BV : Hid (Below w.heap.size w V) := by rw [hV]; exact (Below.refl _ _).alloc (Nat.le_refl _) _
  have XV : Hid (V.heap[w.heap.size]? = some (.cells #[.slice aW ws.length cW, .slice aP ps.length cP, .slice aS es.length cS, .slice aQ qs.length cQ] 41 (0, 0))) := by rw [hV]; exact at_new rfl
  have zV : w.heap.size < V.heap.size := lt_box XV.out
  go_enter Tryz.func95, Tryz.ntmps95
  go_upto_region 1 with fail
  rw [← hV]
  clear hV
  obtain ⟨x0, x1, x2, x3, -⟩ := four_cells XV.out
  go_wp2_with fail
  refine (LJ.out V BV.out).mono ?_
  rintro e w1 ⟨ja, jb, rfl, hj, hb1⟩
  have B1 := hideIt (below_trans BV.out hb1 BV.out.size)
  have X1 := hideIt (box_below XV.out hb1 zV)
  have z1 : w.heap.size < w1.heap.size := Nat.lt_of_lt_of_le zV hb1.size
  have HJ := hideIt hj
  clear hb1 x0 x1 x2 x3 LJ BV XV hj
  obtain ⟨x0, x1, x2, x3, -⟩ := four_cells X1.out
  go_wp2_with fail
  refine (LA.out w1).mono ?_
  by_cases a1 : ps.length = 0
  · by_cases a2 : qs.length = 0
    · rw [decide_eq_true a1, decide_eq_true a2]
      rintro e w2 ⟨rfl, hb2⟩
      have B2 := hideIt (below_trans B1.out hb2 B1.out.size)
      have X2 := hideIt (box_below X1.out hb2 z1)
      have z2 : w.heap.size < w2.heap.size := Nat.lt_of_lt_of_le z1 hb2.size
      have IJ := hideIt (HJ.out a1)
      have q : r = (d && decide (jc = 0)) := by rw [FB.out, decide_eq_true a1, decide_eq_true a2]; rfl
      clear hb2 x0 x1 x2 x3 LA B1 X1 HJ FB a1 a2
      obtain ⟨x0, x1, x2, x3, -⟩ := four_cells X2.out
      by_cases b1 : ja = 0
      · subst b1
        by_cases b2 : jb = 0
        · subst b2
          have ej : jc = 0 := IJ.out.1 ⟨rfl, rfl⟩
          rw [decide_eq_true ej, Bool.and_true] at q
          subst q
          clear IJ ej
          go_wp2_with fail
          refine (LS.out w2 B2.out).mono ?_
          rintro e w3 ⟨v3, rfl, hr3, hb3⟩
          have B3 := hideIt (below_trans B2.out hb3 B2.out.size)
          have R3 := hideIt hr3.rd
          obtain ⟨vA, vB, rfl, ⟨-, ia, ic, rfl, -⟩, ⟨-, ib, id, rfl, -⟩⟩ := hr3.rd
          clear hr3 hb3 x0 x1 x2 x3 LS B2 X2
          go_wp2_with fail
          refine (LI.out _ w3 B3.out R3.out).mono ?_
          rintro e w4 ⟨rfl, hb4⟩
          have B4 := hideIt (below_trans B3.out hb4 B3.out.size)
          clear hb4 LI R3 B3
          go_wp2
          go_ret
          exact ⟨ret_bool (by first | rfl | exact decide_eq_false (by assumption) | exact decide_eq_false (by omega) | exact decide_eq_true (by omega)), B4.out⟩
        · have ej : ¬ jc = 0 := fun e => b2 (IJ.out.2 e).2
          rw [decide_eq_false ej, Bool.and_false] at q
          subst q
          clear IJ ej LS LI X2
          go_wp2
          go_ret
          exact ⟨ret_bool (by first | rfl | exact decide_eq_false (by assumption) | exact decide_eq_false (by omega) | exact decide_eq_true (by omega)), B2.out⟩
      · have ej : ¬ jc = 0 := fun e => b1 (IJ.out.2 e).1
        rw [decide_eq_false ej, Bool.and_false] at q
        subst q
        clear IJ ej LS LI X2
        go_wp2
        go_ret
        exact ⟨ret_bool (by first | rfl | exact decide_eq_false (by assumption) | exact decide_eq_false (by omega) | exact decide_eq_true (by omega)), B2.out⟩
    · have q : r = false := by rw [FB.out, decide_eq_false a2]; simp
      rw [decide_eq_false a2, Bool.and_false]
      rintro e w2 ⟨rfl, hb2⟩
      have B2 := hideIt (below_trans B1.out hb2 B1.out.size)
      subst q
      clear hb2 LA LS LI FB HJ X1
      go_wp2
      go_ret
      exact ⟨ret_bool (by first | rfl | exact decide_eq_false (by assumption) | exact decide_eq_false (by omega) | exact decide_eq_true (by omega)), B2.out⟩
  · have q : r = false := by rw [FB.out, decide_eq_false a1]; simp
    rw [decide_eq_false a1, Bool.false_and]
    rintro e w2 ⟨rfl, hb2⟩
    have B2 := hideIt (below_trans B1.out hb2 B1.out.size)
    subst q
    clear hb2 LA LS LI FB HJ X1
    go_wp2
    go_ret
    exact ⟨ret_bool (by first | rfl | exact decide_eq_false (by assumption) | exact decide_eq_false (by omega) | exact decide_eq_true (by omega)), B2.out⟩
set_option maxRecDepth 100000 in
set_option maxHeartbeats 8000000 in
theorem implFsOK_any (v : Value) (ws : List Int) (ps : List St) (es : List Int) (qs : List Se) (hs : List Int) (td : List Mi) (cd vl : Int) (nm : List ByteArray) (fr : Bool) (w : World) (h : RdF w v ws ps es qs hs td cd vl nm fr) (hws : ws.length ≤ 1048576) (hps : ps.length ≤ 1048576) (hes : es.length ≤ 1048576) (hqs : qs.length ≤ 1048576) (hhs : hs.length ≤ 1048576) (htd : td.length ≤ 1048576) (hnm : nm.length ≤ 1048576) (hS : SB w) (hT : TS w) (hE : ED w) (hF : FD w) :
    Calls Tryz.prog 64 #[v] w fun e w' => e = .returned (.bool (fsB ws ps es qs hs td cd vl nm fr)) ∧ Below w.heap.size w w' := by
  have HR := hideIt h
  obtain ⟨aW, cW, aP, cP, aS, cS, aQ, cQ, aH, cH, aT, cT, aN, cN, rfl, d1, h1, -, -⟩ := h
  obtain ⟨D, eD⟩ : ∃ D, D = (pmB ws ps && blkB es qs) := ⟨_, rfl⟩
  obtain ⟨H, eH⟩ : ∃ H, H = heatB hs := ⟨_, rfl⟩
  have LD : Hid (∀ w1, Below w.heap.size w w1 → Calls Tryz.prog 91 #[.agg #[.slice aW ws.length cW, .slice aP ps.length cP, .slice aS es.length cS, .slice aQ qs.length cQ]] w1 fun e w' => e = .returned (.bool D) ∧ Below w1.heap.size w1 w') := fun w1 hb => by rw [eD]; exact implDevicesOK_any _ ws ps es qs w1 (d1.below hb) hws hps hes hqs
  have LH : Hid (∀ w1, Below w.heap.size w w1 → Calls Tryz.prog 92 #[.slice aH hs.length cH] w1 fun e w' => e = .returned (.bool H) ∧ w' = w1) := fun w1 hb => by rw [eH]; exact implHeatOK_any _ hs w1 (Rd.below h1 hb) hhs
  have LT := hideIt (fun w1 (hb : Below w.heap.size w w1) => todoOK_any _ ws ps es qs hs td cd vl nm fr w1 (HR.out.below hb) hps hqs htd (hS.below hb))
  have LN := hideIt (fun w1 => isNoAnswer_any cd vl aN nm cN w1 hnm)
  have LR : Hid (D = true → ∀ w1, Below w.heap.size w w1 → Calls Tryz.prog 95 #[.agg #[.slice aW ws.length cW, .slice aP ps.length cP, .slice aS es.length cS, .slice aQ qs.length cQ]] w1 fun e w' => e = .returned (.bool (restB ws ps es qs)) ∧ Below w1.heap.size w1 w') := fun hD w1 hb => isAtRest_any _ ws ps es qs w1 (d1.below hb) (eD.symm.trans hD) hws hps hes hqs (hT.below hb) (hE.below hb) (hF.below hb)
  have FB : Hid (fsB ws ps es qs hs td cd vl nm fr = (D && (H && (todB ps qs td && ((fr || noA cd vl nm) && (decide (0 < td.length) || restB ws ps es qs)))))) := by rw [eD, eH]; rfl
  generalize fsB ws ps es qs hs td cd vl nm fr = r at *
  generalize todB ps qs td = tb at *
  generalize noA cd vl nm = na at *
  generalize restB ws ps es qs = rb at *
  clear eD eH d1 h1 hS hT hE hF HR
  obtain ⟨V, hV⟩ : ∃ V, V = w.alloc (.cells #[.slice aW ws.length cW, .slice aP ps.length cP, .slice aS es.length cS, .slice aQ qs.length cQ, .slice aH hs.length cH, .slice aT td.length cT, .int .i64 cd, .int .i64 vl, .slice aN nm.length cN, .bool fr] 67) := ⟨_, rfl⟩
  have BV : Hid (Below w.heap.size w V) := by rw [hV]; exact (Below.refl _ _).alloc (Nat.le_refl _) _
  have XV : Hid (V.heap[w.heap.size]? = some (.cells #[.slice aW ws.length cW, .slice aP ps.length cP, .slice aS es.length cS, .slice aQ qs.length cQ, .slice aH hs.length cH, .slice aT td.length cT, .int .i64 cd, .int .i64 vl, .slice aN nm.length cN, .bool fr] 67 (0, 0))) := by rw [hV]; exact at_new rfl
  have zV : w.heap.size < V.heap.size := lt_box XV.out
  go_enter Tryz.func64, Tryz.ntmps64
  go_upto_region 1 with fail
  rw [← hV]
  clear hV
  obtain ⟨x0, x1, x2, x3⟩ := tenD XV.out
  go_wp2_with fail
  refine (LD.out V BV.out).mono ?_
  rintro e w1 ⟨rfl, hb1⟩
  have B1 := hideIt (below_trans BV.out hb1 BV.out.size)
  have X1 := hideIt (box_below XV.out hb1 zV)
  have z1 : w.heap.size < w1.heap.size := Nat.lt_of_lt_of_le zV hb1.size
  clear hb1 x0 x1 x2 x3 LD BV XV
  cases D with
  | false =>
    obtain rfl := FB.out
    clear FB LH LR LT LN X1
    go_wp2
    go_ret
    exact ⟨ret_bool (by first | rfl | exact decide_eq_false (by assumption) | exact decide_eq_false (by omega) | exact decide_eq_true (by omega)), B1.out⟩
  | true =>
  have x4 := tenH X1.out
  go_wp2_with fail
  refine (LH.out w1 B1.out).mono ?_
  rintro e w' ⟨rfl, hw'⟩
  subst w'
  clear LH x4
  cases H with
  | false =>
    obtain rfl := FB.out
    clear FB LR LT LN X1
    go_wp2
    go_ret
    exact ⟨ret_bool (by first | rfl | exact decide_eq_false (by assumption) | exact decide_eq_false (by omega) | exact decide_eq_true (by omega)), B1.out⟩
  | true =>
  obtain ⟨x0, x1, x2, x3, x4, x5, x6, x7, x8, x9, -⟩ := ten_cells X1.out
  go_wp2_with fail
  refine (LT.out w1 B1.out).mono ?_
  rintro e w2 ⟨rfl, hb2⟩
  have B2 := hideIt (below_trans B1.out hb2 B1.out.size)
  have X2 := hideIt (box_below X1.out hb2 z1)
  have z2 : w.heap.size < w2.heap.size := Nat.lt_of_lt_of_le z1 hb2.size
  clear hb2 x0 x1 x2 x3 x4 x5 x6 x7 x8 x9 LT B1 X1
  cases tb with
  | false =>
    obtain rfl := FB.out
    clear FB LR LN X2
    go_wp2
    go_ret
    exact ⟨ret_bool (by first | rfl | exact decide_eq_false (by assumption) | exact decide_eq_false (by omega) | exact decide_eq_true (by omega)), B2.out⟩
  | true =>
  simp only [Bool.true_and] at FB
  have x9 := tenB X2.out
  cases fr with
  | true =>
    simp only [Bool.true_or, Bool.true_and] at FB
    clear LN
    go_upto_region 5 with fail
    clear x9
    have x5 := tenT X2.out
    by_cases c : 0 < td.length
    · rw [decide_eq_true c, Bool.true_or] at FB
      obtain rfl := FB.out
      have c' : (0 : Int) < (td.length : Int) := by omega
      clear FB LR X2
      go_wp2
      go_ret
      exact ⟨ret_bool (by first | rfl | exact decide_eq_false (by assumption) | exact decide_eq_false (by omega) | exact decide_eq_true (by omega)), B2.out⟩
    · rw [decide_eq_false c, Bool.false_or] at FB
      obtain rfl := FB.out
      have c' : ¬ (0 : Int) < (td.length : Int) := by omega
      obtain ⟨x0, x1, x2, x3⟩ := tenD X2.out
      go_wp2_with fail
      refine (LR.out (by simp) w2 B2.out).mono ?_
      rintro e w4 ⟨rfl, hb4⟩
      have B4 := hideIt (below_trans B2.out hb4 B2.out.size)
      clear hb4 x0 x1 x2 x3 x5 LR B2 X2 FB
      go_wp2
      go_ret
      exact ⟨ret_bool (by first | rfl | exact decide_eq_false (by assumption) | exact decide_eq_false (by omega) | exact decide_eq_true (by omega)), B4.out⟩
  | false =>
  simp only [Bool.false_or] at FB
  obtain ⟨x6, x7, x8⟩ := tenA X2.out
  go_wp2_with fail
  refine (LN.out w2).mono ?_
  rintro e w3 ⟨rfl, hb3⟩
  have B3 := hideIt (below_trans B2.out hb3 B2.out.size)
  have X3 := hideIt (box_below X2.out hb3 z2)
  have z3 : w.heap.size < w3.heap.size := Nat.lt_of_lt_of_le z2 hb3.size
  clear hb3 x6 x7 x8 x9 LN B2 X2
  cases na with
  | false =>
    obtain rfl := FB.out
    clear FB LR X3
    go_wp2
    go_ret
    exact ⟨ret_bool (by first | rfl | exact decide_eq_false (by assumption) | exact decide_eq_false (by omega) | exact decide_eq_true (by omega)), B3.out⟩
  | true =>
  simp only [Bool.true_and] at FB
  go_upto_region 5 with fail
  have x5 := tenT X3.out
  by_cases c : 0 < td.length
  · rw [decide_eq_true c, Bool.true_or] at FB
    obtain rfl := FB.out
    have c' : (0 : Int) < (td.length : Int) := by omega
    clear FB LR X3
    go_wp2
    go_ret
    exact ⟨ret_bool (by first | rfl | exact decide_eq_false (by assumption) | exact decide_eq_false (by omega) | exact decide_eq_true (by omega)), B3.out⟩
  · rw [decide_eq_false c, Bool.false_or] at FB
    obtain rfl := FB.out
    have c' : ¬ (0 : Int) < (td.length : Int) := by omega
    obtain ⟨x0, x1, x2, x3⟩ := tenD X3.out
    go_wp2_with fail
    refine (LR.out (by simp) w3 B3.out).mono ?_
    rintro e w4 ⟨rfl, hb4⟩
    have B4 := hideIt (below_trans B3.out hb4 B3.out.size)
    clear hb4 x0 x1 x2 x3 x5 LR B3 X3 FB
    go_wp2
    go_ret
    exact ⟨ret_bool (by first | rfl | exact decide_eq_false (by assumption) | exact decide_eq_false (by omega) | exact decide_eq_true (by omega)), B4.out⟩
end Go.Proofs.YtbjjdkemappelaaGreatDoor

namespace Go.Proofs.YtbjjdkemappelaaGreatDoor
open Go.RowKit

/-- Nothing is to be done, and nothing waits. -/
def suB (ws : List Int) (ps : List St) (es : List Int) (qs : List Se) (hs : List Int) (td : List Mi) (cd vl : Int) (nm : List ByteArray) (fr : Bool) : Bool := fsB ws ps es qs hs td cd vl nm fr && (decide (td.length = 0) && (decide (ps.length = 0) && decide (qs.length = 0)))
def suC (b : Bool) : Int := if b = true then 0 else 1
theorem su_ten {w : World} {b : Nat} {t : TypeId} {x0 x1 x2 x3 x4 x5 x6 x7 x8 x9 : Value} (h : w.heap[b]? = some (.cells #[x0, x1, x2, x3, x4, x5, x6, x7, x8, x9] t (0, 0))) : w.cell? ⟨b, 0, none⟩ = some x0 ∧ w.cell? ⟨b, 1, none⟩ = some x1 ∧ w.cell? ⟨b, 2, none⟩ = some x2 ∧ w.cell? ⟨b, 3, none⟩ = some x3 ∧ w.cell? ⟨b, 4, none⟩ = some x4 ∧ w.cell? ⟨b, 5, none⟩ = some x5 ∧ w.cell? ⟨b, 6, none⟩ = some x6 ∧ w.cell? ⟨b, 7, none⟩ = some x7 ∧ w.cell? ⟨b, 8, none⟩ = some x8 ∧ w.cell? ⟨b, 9, none⟩ = some x9 := by
  simp [World.cell?, h]
theorem su_len {α : Type} (l : List α) : (l.length = 0 ∧ ((l.length : Int) == 0) = true) ∨ (¬ l.length = 0 ∧ ((l.length : Int) == 0) = false) := by
  by_cases c : l.length = 0
  · exact .inl ⟨c, by rw [beq_iff_eq]; omega⟩
  · exact .inr ⟨c, by rw [beq_eq_false_iff_ne]; omega⟩

set_option maxRecDepth 100000 in
set_option maxHeartbeats 8000000 in
theorem specSureOf_any (v : Value) (ws : List Int) (ps : List St) (es : List Int) (qs : List Se) (hs : List Int) (td : List Mi) (cd vl : Int) (nm : List ByteArray) (fr : Bool) (w : World) (h : RdF w v ws ps es qs hs td cd vl nm fr) (hws : ws.length ≤ 1048576) (hps : ps.length ≤ 1048576) (hes : es.length ≤ 1048576) (hqs : qs.length ≤ 1048576) (hhs : hs.length ≤ 1048576) (htd : td.length ≤ 1048576) (hnm : nm.length ≤ 1048576) :
    Calls Tryz.prog 28 #[v] w fun e w' => e = .returned (.tuple #[.bool (suB ws ps es qs hs td cd vl nm fr), .int .i64 (suC (fsB ws ps es qs hs td cd vl nm fr))]) ∧ Below w.heap.size w w' := by
  have LF := hideIt (fun w1 (hb : Below w.heap.size w w1) => specFsOK_any v ws ps es qs hs td cd vl nm fr w1 (h.below hb) hws hps hes hqs hhs htd hnm)
  obtain ⟨aW, cW, aP, cP, aS, cS, aQ, cQ, aH, cH, aT, cT, aN, cN, rfl, -, -, -, -⟩ := h
  obtain ⟨V, hV⟩ : ∃ V, V = w.alloc (.cells #[.slice aW ws.length cW, .slice aP ps.length cP, .slice aS es.length cS, .slice aQ qs.length cQ, .slice aH hs.length cH, .slice aT td.length cT, .int .i64 cd, .int .i64 vl, .slice aN nm.length cN, .bool fr] 67) := ⟨_, rfl⟩
  have BV : Hid (Below w.heap.size w V) := by rw [hV]; exact (Below.refl _ _).alloc (Nat.le_refl _) _
  have XV : Hid (V.heap[w.heap.size]? = some (.cells #[.slice aW ws.length cW, .slice aP ps.length cP, .slice aS es.length cS, .slice aQ qs.length cQ, .slice aH hs.length cH, .slice aT td.length cT, .int .i64 cd, .int .i64 vl, .slice aN nm.length cN, .bool fr] 67 (0, 0))) := by rw [hV]; exact at_new rfl
  have zV : w.heap.size < V.heap.size := by rw [hV]; simp
  have SU : Hid (suB ws ps es qs hs td cd vl nm fr = (fsB ws ps es qs hs td cd vl nm fr && (decide (td.length = 0) && (decide (ps.length = 0) && decide (qs.length = 0))))) := rfl
  generalize suB ws ps es qs hs td cd vl nm fr = R at *
  generalize fsB ws ps es qs hs td cd vl nm fr = fb at *
  obtain ⟨x0, x1, x2, x3, x4, x5, x6, x7, x8, x9⟩ := su_ten XV.out
  cases fb with
  | false =>
    obtain rfl : R = false := SU.out
    rw [show suC false = 1 from rfl]
    go_enter Tryz.func28, Tryz.ntmps28
    go_upto_region 1 with fail
    rw [← hV]
    clear hV
    go_wp2_with fail
    refine (LF.out _ BV.out).mono ?_
    rintro e w1 ⟨rfl, hb1⟩
    have B1 := hideIt (below_trans BV.out hb1 BV.out.size)
    clear hb1 x0 x1 x2 x3 x4 x5 x6 x7 x8 x9
    go_wp2
    go_ret2
    exact ⟨rfl, B1.out⟩
  | true =>
  rw [show suC true = 0 from rfl]
  rcases su_len td with ⟨t0, t1⟩ | ⟨t0, t1⟩
  · rcases su_len ps with ⟨p0, p1⟩ | ⟨p0, p1⟩
    · rcases su_len qs with ⟨q0, q1⟩ | ⟨q0, q1⟩
      · obtain rfl : R = true := by rw [SU.out, decide_eq_true t0, decide_eq_true p0, decide_eq_true q0]; rfl
        clear SU t0 p0 q0
        go_enter Tryz.func28, Tryz.ntmps28
        go_upto_region 1 with fail
        rw [← hV]
        clear hV
        go_wp2_with fail
        refine (LF.out _ BV.out).mono ?_
        rintro e w1 ⟨rfl, hb1⟩
        have B1 := hideIt (below_trans BV.out hb1 BV.out.size)
        clear x0 x1 x2 x3 x4 x5 x6 x7 x8 x9
        obtain ⟨x0, x1, x2, x3, x4, x5, x6, x7, x8, x9⟩ := su_ten ((hb1.block _ zV).trans XV.out)
        clear hb1
        go_wp2
        go_ret2
        exact ⟨rfl, B1.out⟩
      · obtain rfl : R = false := by rw [SU.out, decide_eq_true t0, decide_eq_true p0, decide_eq_false q0]; rfl
        clear SU t0 p0 q0
        go_enter Tryz.func28, Tryz.ntmps28
        go_upto_region 1 with fail
        rw [← hV]
        clear hV
        go_wp2_with fail
        refine (LF.out _ BV.out).mono ?_
        rintro e w1 ⟨rfl, hb1⟩
        have B1 := hideIt (below_trans BV.out hb1 BV.out.size)
        clear x0 x1 x2 x3 x4 x5 x6 x7 x8 x9
        obtain ⟨x0, x1, x2, x3, x4, x5, x6, x7, x8, x9⟩ := su_ten ((hb1.block _ zV).trans XV.out)
        clear hb1
        go_wp2
        go_ret2
        exact ⟨rfl, B1.out⟩
    · obtain rfl : R = false := by rw [SU.out, decide_eq_true t0, decide_eq_false p0]; rfl
      clear SU t0 p0
      go_enter Tryz.func28, Tryz.ntmps28
      go_upto_region 1 with fail
      rw [← hV]
      clear hV
      go_wp2_with fail
      refine (LF.out _ BV.out).mono ?_
      rintro e w1 ⟨rfl, hb1⟩
      have B1 := hideIt (below_trans BV.out hb1 BV.out.size)
      clear x0 x1 x2 x3 x4 x5 x6 x7 x8 x9
      obtain ⟨x0, x1, x2, x3, x4, x5, x6, x7, x8, x9⟩ := su_ten ((hb1.block _ zV).trans XV.out)
      clear hb1
      go_wp2
      go_ret2
      exact ⟨rfl, B1.out⟩
  · obtain rfl : R = false := by rw [SU.out, decide_eq_false t0]; rfl
    clear SU t0
    go_enter Tryz.func28, Tryz.ntmps28
    go_upto_region 1 with fail
    rw [← hV]
    clear hV
    go_wp2_with fail
    refine (LF.out _ BV.out).mono ?_
    rintro e w1 ⟨rfl, hb1⟩
    have B1 := hideIt (below_trans BV.out hb1 BV.out.size)
    clear x0 x1 x2 x3 x4 x5 x6 x7 x8 x9
    obtain ⟨x0, x1, x2, x3, x4, x5, x6, x7, x8, x9⟩ := su_ten ((hb1.block _ zV).trans XV.out)
    clear hb1
    go_wp2
    go_ret2
    exact ⟨rfl, B1.out⟩

set_option maxRecDepth 100000 in
set_option maxHeartbeats 8000000 in
theorem implSureOf_any (v : Value) (ws : List Int) (ps : List St) (es : List Int) (qs : List Se) (hs : List Int) (td : List Mi) (cd vl : Int) (nm : List ByteArray) (fr : Bool) (w : World) (h : RdF w v ws ps es qs hs td cd vl nm fr) (hws : ws.length ≤ 1048576) (hps : ps.length ≤ 1048576) (hes : es.length ≤ 1048576) (hqs : qs.length ≤ 1048576) (hhs : hs.length ≤ 1048576) (htd : td.length ≤ 1048576) (hnm : nm.length ≤ 1048576) (hS : SB w) (hT : TS w) (hE : ED w) (hF : FD w) :
    Calls Tryz.prog 30 #[v] w fun e w' => e = .returned (.tuple #[.bool (suB ws ps es qs hs td cd vl nm fr), .int .i64 (suC (fsB ws ps es qs hs td cd vl nm fr))]) ∧ Below w.heap.size w w' := by
  have LF := hideIt (fun w1 (hb : Below w.heap.size w w1) => implFsOK_any v ws ps es qs hs td cd vl nm fr w1 (h.below hb) hws hps hes hqs hhs htd hnm (hS.below hb) (hT.below hb) (hE.below hb) (hF.below hb))
  obtain ⟨aW, cW, aP, cP, aS, cS, aQ, cQ, aH, cH, aT, cT, aN, cN, rfl, -, -, -, -⟩ := h
  clear hS hT hE hF
  obtain ⟨V, hV⟩ : ∃ V, V = w.alloc (.cells #[.slice aW ws.length cW, .slice aP ps.length cP, .slice aS es.length cS, .slice aQ qs.length cQ, .slice aH hs.length cH, .slice aT td.length cT, .int .i64 cd, .int .i64 vl, .slice aN nm.length cN, .bool fr] 67) := ⟨_, rfl⟩
  have BV : Hid (Below w.heap.size w V) := by rw [hV]; exact (Below.refl _ _).alloc (Nat.le_refl _) _
  have XV : Hid (V.heap[w.heap.size]? = some (.cells #[.slice aW ws.length cW, .slice aP ps.length cP, .slice aS es.length cS, .slice aQ qs.length cQ, .slice aH hs.length cH, .slice aT td.length cT, .int .i64 cd, .int .i64 vl, .slice aN nm.length cN, .bool fr] 67 (0, 0))) := by rw [hV]; exact at_new rfl
  have zV : w.heap.size < V.heap.size := by rw [hV]; simp
  have LA := hideIt (fun w1 => allSure_any aW aP aS aQ ws.length ps.length es.length qs.length cW cP cS cQ w1 hps hqs)
  have SU : Hid (suB ws ps es qs hs td cd vl nm fr = (fsB ws ps es qs hs td cd vl nm fr && (decide (td.length = 0) && (decide (ps.length = 0) && decide (qs.length = 0))))) := rfl
  generalize suB ws ps es qs hs td cd vl nm fr = R at *
  generalize fsB ws ps es qs hs td cd vl nm fr = fb at *
  obtain ⟨x0, x1, x2, x3, x4, x5, x6, x7, x8, x9⟩ := su_ten XV.out
  cases fb with
  | false =>
    obtain rfl : R = false := SU.out
    rw [show suC false = 1 from rfl]
    go_enter Tryz.func30, Tryz.ntmps30
    go_upto_region 1 with fail
    rw [← hV]
    clear hV
    go_wp2_with fail
    refine (LF.out _ BV.out).mono ?_
    rintro e w1 ⟨rfl, hb1⟩
    have B1 := hideIt (below_trans BV.out hb1 BV.out.size)
    clear hb1 x0 x1 x2 x3 x4 x5 x6 x7 x8 x9
    go_wp2
    go_ret2
    exact ⟨rfl, B1.out⟩
  | true =>
  rw [show suC true = 0 from rfl]
  rcases su_len td with ⟨t0, t1⟩ | ⟨t0, t1⟩
  · rw [decide_eq_true t0, Bool.true_and, Bool.true_and] at SU
    rw [← SU.out] at LA
    clear SU t0
    go_enter Tryz.func30, Tryz.ntmps30
    go_upto_region 1 with fail
    rw [← hV]
    clear hV
    go_wp2_with fail
    refine (LF.out _ BV.out).mono ?_
    rintro e w1 ⟨rfl, hb1⟩
    have B1 := hideIt (below_trans BV.out hb1 BV.out.size)
    clear x0 x1 x2 x3 x4 x5 x6 x7 x8 x9
    obtain ⟨x0, x1, x2, x3, x4, x5, x6, x7, x8, x9⟩ := su_ten ((hb1.block _ zV).trans XV.out)
    clear hb1
    go_wp2_with fail
    refine (LA.out _).mono ?_
    rintro e w2 ⟨rfl, hb2⟩
    have B2 := hideIt (below_trans B1.out hb2 B1.out.size)
    clear hb2
    go_wp2
    go_ret2
    exact ⟨rfl, B2.out⟩
  · obtain rfl : R = false := by rw [SU.out, decide_eq_false t0]; rfl
    clear SU t0
    go_enter Tryz.func30, Tryz.ntmps30
    go_upto_region 1 with fail
    rw [← hV]
    clear hV
    go_wp2_with fail
    refine (LF.out _ BV.out).mono ?_
    rintro e w1 ⟨rfl, hb1⟩
    have B1 := hideIt (below_trans BV.out hb1 BV.out.size)
    clear x0 x1 x2 x3 x4 x5 x6 x7 x8 x9
    obtain ⟨x0, x1, x2, x3, x4, x5, x6, x7, x8, x9⟩ := su_ten ((hb1.block _ zV).trans XV.out)
    clear hb1
    go_wp2
    go_ret2
    exact ⟨rfl, B1.out⟩
end Go.Proofs.YtbjjdkemappelaaGreatDoor

