/- The helpers of the laws over slices of writes. -/
import Derived.Test.YtbjcoeimcdodjaaDoorIntS
namespace Go.Proofs.YtbjcoeimcdodjaaDoor
open Go.RowKit
structure Se where
  at_ : Int
  val : Int
deriving DecidableEq
def Se.cells (s : Se) : List Value := [.int .i64 s.at_, .int .i64 s.val]
def ses (ps : List Se) : List Value := ps.flatMap Se.cells
theorem Se.cells_len (s : Se) : s.cells.length = 2 := rfl
theorem ses_len (ps : List Se) : (ses ps).length = ps.length * 2 := flatMap_len _ 2 Se.cells_len ps
theorem ses_at0 (ps : List Se) (k : Nat) (h : k < ps.length) : (ses ps)[k * 2]? = some (.int .i64 ps[k].at_) := flatMap_at _ 2 Se.cells_len ps k 0 h (by omega)
theorem ses_at1 (ps : List Se) (k : Nat) (h : k < ps.length) : (ses ps)[k * 2 + 1]? = some (.int .i64 ps[k].val) := flatMap_at _ 2 Se.cells_len ps k 1 h (by omega)
def RdE (w : World) (v : Value) (ps : List Se) : Prop := Rd w 2 v ps.length (ses ps)
theorem RdE.shape {w : World} {v : Value} {ps : List Se} (h : RdE w v ps) : ∃ ao cap, v = .slice ao ps.length cap ∧ ps.length ≤ cap ∧ (0 < ps.length → ∃ b o, ao = some ⟨b, o, none⟩ ∧ b < w.heap.size ∧
    ∀ k (h : k < ps.length), w.cell? ⟨b, o + k * 2, none⟩ = some (.int .i64 ps[k].at_) ∧ w.cell? ⟨b, o + k * 2 + 1, none⟩ = some (.int .i64 ps[k].val)) := by
  obtain ⟨_, ao, cap, rfl, h2, h3⟩ := h
  refine ⟨ao, cap, rfl, h2.1, fun hn => ?_⟩
  obtain ⟨b, o, rfl, hb, hc⟩ := h3 hn
  exact ⟨b, o, rfl, hb, fun k hk => ⟨(hc (k * 2) (by omega)).trans (ses_at0 ps k hk), (hc (k * 2 + 1) (by omega)).trans (ses_at1 ps k hk)⟩⟩
theorem infoSec : (Tryd.prog.info? 59).map (fun i => (i.zero, i.size, i.bytes)) = some (some (.agg #[.int .i64 0, .int .i64 0]), 2, 16) := by kernel_rfl
set_option maxHeartbeats 1000000 in
theorem toSector_any (a v : Int) (w : World) : Calls Tryd.prog 60 #[.agg #[.int .i64 a, .int .i64 v]] w fun e w' => e = .returned (.agg #[.int .i64 a, .int .i64 v]) ∧ Below w.heap.size w w' := by
  go_enter Tryd.func60, Tryd.ntmps60
  go_wp2
  refine bodyPost_ret (v := .agg #[.int .i64 a, .int .i64 v]) (by simp [results, Tryd.results60, go_sem]) rfl ⟨rfl, ?_⟩
  repeat (refine Below.alloc ?_ (by simp <;> omega) _)
  exact Below.refl _ _
def put2 (ys : List Value) (k : Nat) (a b : Value) : List Value := (ys.set (k * 2) a).set (k * 2 + 1) b
theorem put2_at {ys : List Value} {k : Nat} {a b : Value} {j : Nat} (hj : j < ys.length) : (put2 ys k a b)[j]? = if j = k * 2 + 1 then some b else if j = k * 2 then some a else ys[j]? := by
  unfold put2
  rw [set_at (by simpa using hj), set_at hj]
theorem put2_step {ys : List Value} {ps : List Se} {k : Nat} (hk : k < ps.length) (hl : ys.length = ps.length * 2) (h : ∀ j, j < k * 2 → ys[j]? = (ses ps)[j]?) :
    ∀ j, j < (k + 1) * 2 → (put2 ys k (.int .i64 ps[k].at_) (.int .i64 ps[k].val))[j]? = (ses ps)[j]? := by
  intro j hj
  rw [put2_at (by omega)]
  split
  · rename_i e; rw [e, ses_at1 ps k hk]
  · split
    · rename_i e; rw [e, ses_at0 ps k hk]
    · exact h j (by omega)
theorem ses_all {ys : List Value} {ps : List Se} (hl : ys.length = ps.length * 2) (h : ∀ j, j < ps.length * 2 → ys[j]? = (ses ps)[j]?) : ys = ses ps := by
  apply List.ext_getElem?
  intro j
  by_cases hj : j < ps.length * 2
  · exact h j hj
  · rw [List.getElem?_eq_none (by omega), List.getElem?_eq_none (by rw [ses_len]; omega)]
theorem Row.put2 {w : World} {e : TypeId} {lo hi : Nat} {b n cap : Nat} {ys : List Value} (h : Row w e 2 lo hi (.slice (some ⟨b, 0, none⟩) n cap) n ys) (k : Nat) (x y : Value) :
    Row ((w.setCell ⟨b, k * 2, none⟩ x).setCell ⟨b, k * 2 + 1, none⟩ y) e 2 lo hi (.slice (some ⟨b, 0, none⟩) n cap) n (put2 ys k x y) :=
  (h.stored (k * 2) x).stored (k * 2 + 1) y
set_option maxHeartbeats 1000000 in
theorem toSectorS_any (v : Value) (ps : List Se) (w : World) (h : RdE w v ps) (hn : ps.length ≤ 1048576) :
    Calls Tryd.prog 45 #[v] w fun e w' => ∃ v', e = .returned v' ∧ Row w' 59 2 w.heap.size w'.heap.size v' ps.length (ses ps) ∧ Below w.heap.size w w' := by
  obtain ⟨ao, cap, rfl, hcap, hc⟩ := h.shape
  clear h
  have hmk := run_make_rows (P := Tryd.prog) 24 59 (.agg #[.int .i64 0, .int .i64 0]) 2 16 Tryd.underlying24 infoSec .i64 .i64 ps.length (by omega) (by omega)
  go_enter Tryd.func45, Tryd.ntmps45
  go_wp2
  go_loopw [4] (fun i wr => ∃ k : Nat, k ≤ ps.length ∧ i = .int .i64 k ∧ (∃ ys, Row wr 59 2 w.heap.size (w.heap.size + 1) (.slice (some ⟨w.heap.size, 0, none⟩) ps.length ps.length) ps.length ys ∧ ∀ j, j < k * 2 → ys[j]? = (ses ps)[j]?) ∧ Below w.heap.size w wr ∧ w.heap.size + 1 ≤ wr.heap.size) (fun i _ => ps.length - (intOf i).toNat)
  case atStart =>
    refine ⟨0, by omega, rfl, ⟨_, row_made w (.agg #[.int .i64 0, .int .i64 0]) 2 ps.length 59 (by simp [maxLen]; omega), fun j hj => absurd hj (by omega)⟩, (Below.refl _ _).alloc (Nat.le_refl _) _, by simp⟩
  case round =>
    obtain ⟨k, hk, rfl, ⟨ys, hrow, hys⟩, hb, hz⟩ := hrel
    by_cases hlt : k < ps.length
    · obtain ⟨b, o, rfl, hbl, hcell⟩ := hc (by omega)
      obtain ⟨c0, c1⟩ := hcell k hlt
      have d0 := (hb.cell (p := ⟨b, o + k * 2, none⟩) hbl).trans c0
      have d1 := (hb.cell (p := ⟨b, o + k * 2 + 1, none⟩) hbl).trans c1
      have RH := hideIt hrow
      have YH := hideIt hys
      clear hcell hc c0 c1 hrow hys
      go_wp2_with fail
      refine (toSector_any _ _ _).mono ?_
      rintro e w1 ⟨rfl, hb1⟩
      have R1 := hideIt (RH.out.below hb1 (by omega))
      obtain ⟨_, _, _, hsz, hfr, hcl⟩ := R1.out.at
      have hl := RH.out.len
      have f0 := hfr (k * 2)
      have f1 := hfr (k * 2 + 1)
      have e0 : w1.cell? ⟨w.heap.size, k * 2, none⟩ = some (ys[k * 2]'(by omega)) := by rw [hcl _ (by omega)]; simp
      have e1 : w1.cell? ⟨w.heap.size, k * 2 + 1, none⟩ = some (ys[k * 2 + 1]'(by omega)) := by rw [hcl _ (by omega)]; simp
      have BH := hideIt (hb.trans (hb1.mono (show w.heap.size ≤ wr.heap.size by omega)))
      have hz1 := hb1.size
      clear hfr hcl hb1 hb d0 d1
      have P1 := hideIt (R1.out.put2 k (.int .i64 ps[k].at_) (.int .i64 ps[k].val))
      have B1 := hideIt ((BH.out.setCell (p := ⟨w.heap.size, k * 2, none⟩) (Nat.le_refl _) (.int .i64 ps[k].at_)).setCell (p := ⟨w.heap.size, k * 2 + 1, none⟩) (Nat.le_refl _) (.int .i64 ps[k].val))
      go_wp2
      go_roundw
      case rel => exact ⟨k + 1, by omega, by go_num, ⟨_, P1.out, put2_step hlt hl YH.out⟩, B1.out, by simp; omega⟩
      case measure => simp [intOf]; omega
    · have e : k = ps.length := by omega
      subst e
      have hl := hrow.len
      have RH := hideIt hrow
      have YH := hideIt hys
      clear hrow hys hc
      go_wp2
      go_ret
      have e := ses_all hl YH.out
      refine ⟨_, rfl, ?_, hb⟩
      rw [← e]
      exact RH.out.wide (Nat.le_refl _) hz
theorem szSectorS_any (ao : Option Addr) (n cap : Nat) (left : Int) (w : World) (hn : n ≤ maxLen) (h0 : 0 ≤ left) (h1 : left ≤ 1048576) :
    Calls Tryd.prog 44 #[.slice ao n cap, .int .i64 left] w fun e w' => e = .returned (.int .i64 (less left n)) ∧ w' = w := by
  unfold maxLen at hn
  by_cases h : left < n
  · have e : less left n = -1 := by unfold less; rw [if_pos h]
    rw [e]; clear e
    go_enter Tryd.func44, Tryd.ntmps44
    go_wp2
    go_ret
    exact ⟨rfl, rfl⟩
  · have e : less left n = left - n := by unfold less; rw [if_neg h]
    rw [e]; clear e
    go_enter Tryd.func44, Tryd.ntmps44
    go_wp2
    go_ret
    exact ⟨rfl, rfl⟩
set_option maxHeartbeats 1000000 in
theorem eqSector_same (a v : Int) (w : World) : Calls Tryd.prog 61 #[.agg #[.int .i64 a, .int .i64 v], .agg #[.int .i64 a, .int .i64 v]] w fun e w' => e = .returned (.bool true) ∧ Below w.heap.size w w' := by
  go_enter Tryd.func61, Tryd.ntmps61
  go_wp2
  go_ret
  refine ⟨rfl, ?_⟩
  repeat (refine Below.alloc ?_ (by simp <;> omega) _)
  exact Below.refl _ _
end Go.Proofs.YtbjcoeimcdodjaaDoor
