/- The helpers of the laws over slices of steps. -/
import Derived.Test.YtpgdpachomdfhaaStoreS
import Derived.Test.YtpgdpachomdfhaaMiS
namespace Go.Proofs.Ytpgdpachomdfhaa
open Go.RowKit

def Mi.cells (s : Mi) : List Value := [.int .i64 s.kind, .int .i64 s.at_, .int .i64 s.val]
def mis (ps : List Mi) : List Value := ps.flatMap Mi.cells

theorem Mi.cells_len (s : Mi) : s.cells.length = 3 := rfl
theorem mis_len (ps : List Mi) : (mis ps).length = ps.length * 3 := flatMap_len _ 3 Mi.cells_len ps
theorem mis_at0 (ps : List Mi) (k : Nat) (h : k < ps.length) : (mis ps)[k * 3]? = some (.int .i64 ps[k].kind) := flatMap_at _ 3 Mi.cells_len ps k 0 h (by omega)
theorem mis_at1 (ps : List Mi) (k : Nat) (h : k < ps.length) : (mis ps)[k * 3 + 1]? = some (.int .i64 ps[k].at_) := flatMap_at _ 3 Mi.cells_len ps k 1 h (by omega)
theorem mis_at2 (ps : List Mi) (k : Nat) (h : k < ps.length) : (mis ps)[k * 3 + 2]? = some (.int .i64 ps[k].val) := flatMap_at _ 3 Mi.cells_len ps k 2 h (by omega)

/-- A slice of steps that can be read. -/
def RdM (w : World) (v : Value) (ps : List Mi) : Prop := Rd w 3 v ps.length (mis ps)
theorem RdM.shape {w : World} {v : Value} {ps : List Mi} (h : RdM w v ps) : ∃ ao cap, v = .slice ao ps.length cap ∧ ps.length ≤ cap ∧ (0 < ps.length → ∃ b o, ao = some ⟨b, o, none⟩ ∧ b < w.heap.size ∧
    ∀ k (h : k < ps.length), w.cell? ⟨b, o + k * 3, none⟩ = some (.int .i64 ps[k].kind) ∧ w.cell? ⟨b, o + k * 3 + 1, none⟩ = some (.int .i64 ps[k].at_) ∧ w.cell? ⟨b, o + k * 3 + 2, none⟩ = some (.int .i64 ps[k].val)) := by
  obtain ⟨_, ao, cap, rfl, h2, h3⟩ := h
  refine ⟨ao, cap, rfl, h2.1, fun hn => ?_⟩
  obtain ⟨b, o, rfl, hb, hc⟩ := h3 hn
  exact ⟨b, o, rfl, hb, fun k hk => ⟨(hc (k * 3) (by omega)).trans (mis_at0 ps k hk), (hc (k * 3 + 1) (by omega)).trans (mis_at1 ps k hk), (hc (k * 3 + 2) (by omega)).trans (mis_at2 ps k hk)⟩⟩

theorem put3M_step {ys : List Value} {ps : List Mi} {k : Nat} (hk : k < ps.length) (hl : ys.length = ps.length * 3) (h : ∀ j, j < k * 3 → ys[j]? = (mis ps)[j]?) :
    ∀ j, j < (k + 1) * 3 → (put3 ys k (.int .i64 ps[k].kind) (.int .i64 ps[k].at_) (.int .i64 ps[k].val))[j]? = (mis ps)[j]? := by
  intro j hj
  rw [put3_at (by omega)]
  split
  · rename_i e; rw [e, mis_at2 ps k hk]
  · split
    · rename_i e; rw [e, mis_at1 ps k hk]
    · split
      · rename_i e; rw [e, mis_at0 ps k hk]
      · exact h j (by omega)
theorem mis_all {ys : List Value} {ps : List Mi} (hl : ys.length = ps.length * 3) (h : ∀ j, j < ps.length * 3 → ys[j]? = (mis ps)[j]?) : ys = mis ps := by
  apply List.ext_getElem?
  intro j
  by_cases hj : j < ps.length * 3
  · exact h j hj
  · rw [List.getElem?_eq_none (by omega), List.getElem?_eq_none (by rw [mis_len]; omega)]

end Go.Proofs.Ytpgdpachomdfhaa
