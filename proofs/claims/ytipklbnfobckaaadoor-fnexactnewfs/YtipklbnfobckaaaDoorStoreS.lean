/- The helpers of the laws over slices of stores. -/
import Derived.Test.YtipklbnfobckaaaDoorIntS
namespace Go.Proofs.YtipklbnfobckaaaDoor
open Go.RowKit

/-- A store that is not sure: where, what, and whether it is flushed. -/
structure St where
  at_ : Int
  val : Int
  fl : Bool
deriving DecidableEq

def St.cells (s : St) : List Value := [.int .i64 s.at_, .int .i64 s.val, .bool s.fl]
def sts (ps : List St) : List Value := ps.flatMap St.cells

theorem St.cells_len (s : St) : s.cells.length = 3 := rfl
theorem sts_len (ps : List St) : (sts ps).length = ps.length * 3 := flatMap_len _ 3 St.cells_len ps
theorem sts_at0 (ps : List St) (k : Nat) (h : k < ps.length) : (sts ps)[k * 3]? = some (.int .i64 ps[k].at_) := flatMap_at _ 3 St.cells_len ps k 0 h (by omega)
theorem sts_at1 (ps : List St) (k : Nat) (h : k < ps.length) : (sts ps)[k * 3 + 1]? = some (.int .i64 ps[k].val) := flatMap_at _ 3 St.cells_len ps k 1 h (by omega)
theorem sts_at2 (ps : List St) (k : Nat) (h : k < ps.length) : (sts ps)[k * 3 + 2]? = some (.bool ps[k].fl) := flatMap_at _ 3 St.cells_len ps k 2 h (by omega)

/-- A slice of stores that can be read. -/
def RdS (w : World) (v : Value) (ps : List St) : Prop := Rd w 3 v ps.length (sts ps)
theorem RdS.shape {w : World} {v : Value} {ps : List St} (h : RdS w v ps) : ∃ ao cap, v = .slice ao ps.length cap ∧ ps.length ≤ cap ∧ (0 < ps.length → ∃ b o, ao = some ⟨b, o, none⟩ ∧ b < w.heap.size ∧
    ∀ k (h : k < ps.length), w.cell? ⟨b, o + k * 3, none⟩ = some (.int .i64 ps[k].at_) ∧ w.cell? ⟨b, o + k * 3 + 1, none⟩ = some (.int .i64 ps[k].val) ∧ w.cell? ⟨b, o + k * 3 + 2, none⟩ = some (.bool ps[k].fl)) := by
  obtain ⟨_, ao, cap, rfl, h2, h3⟩ := h
  refine ⟨ao, cap, rfl, h2.1, fun hn => ?_⟩
  obtain ⟨b, o, rfl, hb, hc⟩ := h3 hn
  exact ⟨b, o, rfl, hb, fun k hk => ⟨(hc (k * 3) (by omega)).trans (sts_at0 ps k hk), (hc (k * 3 + 1) (by omega)).trans (sts_at1 ps k hk), (hc (k * 3 + 2) (by omega)).trans (sts_at2 ps k hk)⟩⟩

/-- Three cells laid at element k. -/
def put3 (ys : List Value) (k : Nat) (a b c : Value) : List Value := ((ys.set (k * 3) a).set (k * 3 + 1) b).set (k * 3 + 2) c
theorem put3_len (ys : List Value) (k : Nat) (a b c : Value) : (put3 ys k a b c).length = ys.length := by simp [put3]
theorem put3_at {ys : List Value} {k : Nat} {a b c : Value} {j : Nat} (hj : j < ys.length) : (put3 ys k a b c)[j]? = if j = k * 3 + 2 then some c else if j = k * 3 + 1 then some b else if j = k * 3 then some a else ys[j]? := by
  unfold put3
  rw [set_at (by simpa using hj), set_at (by simpa using hj), set_at hj]
theorem put3_step {ys : List Value} {ps : List St} {k : Nat} (hk : k < ps.length) (hl : ys.length = ps.length * 3) (h : ∀ j, j < k * 3 → ys[j]? = (sts ps)[j]?) :
    ∀ j, j < (k + 1) * 3 → (put3 ys k (.int .i64 ps[k].at_) (.int .i64 ps[k].val) (.bool ps[k].fl))[j]? = (sts ps)[j]? := by
  intro j hj
  rw [put3_at (by omega)]
  split
  · rename_i e; rw [e, sts_at2 ps k hk]
  · split
    · rename_i e; rw [e, sts_at1 ps k hk]
    · split
      · rename_i e; rw [e, sts_at0 ps k hk]
      · exact h j (by omega)
theorem sts_all {ys : List Value} {ps : List St} (hl : ys.length = ps.length * 3) (h : ∀ j, j < ps.length * 3 → ys[j]? = (sts ps)[j]?) : ys = sts ps := by
  apply List.ext_getElem?
  intro j
  by_cases hj : j < ps.length * 3
  · exact h j hj
  · rw [List.getElem?_eq_none (by omega), List.getElem?_eq_none (by rw [sts_len]; omega)]
theorem Row.put3 {w : World} {e : TypeId} {lo hi : Nat} {b n cap : Nat} {ys : List Value} (h : Row w e 3 lo hi (.slice (some ⟨b, 0, none⟩) n cap) n ys) (k : Nat) (x y z : Value) :
    Row (((w.setCell ⟨b, k * 3, none⟩ x).setCell ⟨b, k * 3 + 1, none⟩ y).setCell ⟨b, k * 3 + 2, none⟩ z) e 3 lo hi (.slice (some ⟨b, 0, none⟩) n cap) n (put3 ys k x y z) :=
  ((h.stored (k * 3) x).stored (k * 3 + 1) y).stored (k * 3 + 2) z

set_option maxHeartbeats 1000000 in
theorem eqStore_same (a v : Int) (f : Bool) (w : World) : Calls Tryd.prog 53 #[.agg #[.int .i64 a, .int .i64 v, .bool f], .agg #[.int .i64 a, .int .i64 v, .bool f]] w fun e w' => e = .returned (.bool true) ∧ Below w.heap.size w w' := by
  go_enter Tryd.func53, Tryd.ntmps53
  go_wp2
  go_ret
  refine ⟨rfl, ?_⟩
  repeat (refine Below.alloc ?_ (by simp <;> omega) _)
  exact Below.refl _ _
end Go.Proofs.YtipklbnfobckaaaDoor
