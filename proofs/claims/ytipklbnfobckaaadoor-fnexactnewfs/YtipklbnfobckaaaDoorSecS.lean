/- The helpers of the laws over slices of writes. -/
import Derived.Test.YtipklbnfobckaaaDoorIntS
namespace Go.Proofs.YtipklbnfobckaaaDoor
open Go.RowKit

/-- A write that is not sure: where, and what. -/
structure Se where
  at_ : Int
  val : Int
deriving DecidableEq

def Se.cells (s : Se) : List Value := [.int .i64 s.at_, .int .i64 s.val]
def ses (ps : List Se) : List Value := ps.flatMap Se.cells

theorem Se.cells_len (s : Se) : s.cells.length = 2 := rfl
theorem ses_len (ps : List Se) : (ses ps).length = ps.length * 2 := flatMap_len _ 2 Se.cells_len ps
theorem ses_at0 (ps : List Se) (k : Nat) (h : k < ps.length) : (ses ps)[k * 2]? = some (.int .i64 ps[k].at_) := flatMap_at _ 2 Se.cells_len ps k 0 h (by omega)
theorem ses_at1 (ps : List Se) (k : Nat) (h : k < ps.length) : (ses ps)[k * 2 + 1]? = some (.int .i64 ps[k].val) := flatMap_at _ 2 Se.cells_len ps k 1 h (by omega)

/-- A slice of writes that can be read. -/
def RdE (w : World) (v : Value) (ps : List Se) : Prop := Rd w 2 v ps.length (ses ps)
theorem RdE.shape {w : World} {v : Value} {ps : List Se} (h : RdE w v ps) : ∃ ao cap, v = .slice ao ps.length cap ∧ ps.length ≤ cap ∧ (0 < ps.length → ∃ b o, ao = some ⟨b, o, none⟩ ∧ b < w.heap.size ∧
    ∀ k (h : k < ps.length), w.cell? ⟨b, o + k * 2, none⟩ = some (.int .i64 ps[k].at_) ∧ w.cell? ⟨b, o + k * 2 + 1, none⟩ = some (.int .i64 ps[k].val)) := by
  obtain ⟨_, ao, cap, rfl, h2, h3⟩ := h
  refine ⟨ao, cap, rfl, h2.1, fun hn => ?_⟩
  obtain ⟨b, o, rfl, hb, hc⟩ := h3 hn
  exact ⟨b, o, rfl, hb, fun k hk => ⟨(hc (k * 2) (by omega)).trans (ses_at0 ps k hk), (hc (k * 2 + 1) (by omega)).trans (ses_at1 ps k hk)⟩⟩

/-- Two cells laid at element k. -/
def put2 (ys : List Value) (k : Nat) (a b : Value) : List Value := (ys.set (k * 2) a).set (k * 2 + 1) b
theorem put2_at {ys : List Value} {k : Nat} {a b : Value} {j : Nat} (hj : j < ys.length) : (put2 ys k a b)[j]? = if j = k * 2 + 1 then some b else if j = k * 2 then some a else ys[j]? := by
  unfold put2
  rw [set_at (by simpa using hj), set_at hj]
theorem put2_step {ys : List Value} {ps : List Se} {k : Nat} (hk : k < ps.length) (hl : ys.length = ps.length * 2) (h : ∀ j, j < k * 2 → ys[j]? = (ses ps)[j]?) :
    ∀ j, j < (k + 1) * 2 → (put2 ys k (.int .i64 ps[k].at_) (.int .i64 ps[k].val))[j]? = (ses ps)[j]? := by
  intro j hj
  rw [put2_at (by omega)]
  split
  · rename_i e; rw [e, ses_at1 ps k hk]
  · split
    · rename_i e; rw [e, ses_at0 ps k hk]
    · exact h j (by omega)
theorem ses_all {ys : List Value} {ps : List Se} (hl : ys.length = ps.length * 2) (h : ∀ j, j < ps.length * 2 → ys[j]? = (ses ps)[j]?) : ys = ses ps := by
  apply List.ext_getElem?
  intro j
  by_cases hj : j < ps.length * 2
  · exact h j hj
  · rw [List.getElem?_eq_none (by omega), List.getElem?_eq_none (by rw [ses_len]; omega)]
theorem Row.put2 {w : World} {e : TypeId} {lo hi : Nat} {b n cap : Nat} {ys : List Value} (h : Row w e 2 lo hi (.slice (some ⟨b, 0, none⟩) n cap) n ys) (k : Nat) (x y : Value) :
    Row ((w.setCell ⟨b, k * 2, none⟩ x).setCell ⟨b, k * 2 + 1, none⟩ y) e 2 lo hi (.slice (some ⟨b, 0, none⟩) n cap) n (put2 ys k x y) :=
  (h.stored (k * 2) x).stored (k * 2 + 1) y

set_option maxHeartbeats 1000000 in
theorem eqSector_same (a v : Int) (w : World) : Calls Tryd.prog 54 #[.agg #[.int .i64 a, .int .i64 v], .agg #[.int .i64 a, .int .i64 v]] w fun e w' => e = .returned (.bool true) ∧ Below w.heap.size w w' := by
  go_enter Tryd.func54, Tryd.ntmps54
  go_wp2
  go_ret
  refine ⟨rfl, ?_⟩
  repeat (refine Below.alloc ?_ (by simp <;> omega) _)
  exact Below.refl _ _
end Go.Proofs.YtipklbnfobckaaaDoor
