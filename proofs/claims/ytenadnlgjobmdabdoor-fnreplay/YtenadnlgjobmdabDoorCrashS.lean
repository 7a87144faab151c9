/- What a crash leaves: by the model. -/
import Derived.Test.YtenadnlgjobmdabDoorCrash
import Derived.Test.YtenadnlgjobmdabDoorPmOwn
import Derived.BigRegion
namespace Go.Proofs.YtenadnlgjobmdabDoor
open Go.RowKit

/-- In the midst of the model's crash: the words so far, the stores, the places. -/
structure CrInv (w wr : World) (n : Nat) (X : List Int) (ps : List St) (us : List Int) (lo hi hi2 : Nat) (vW vP vU : Value) : Prop where
  words : Row wr 3 1 lo hi vW n (ints X)
  pend : Row wr 75 3 lo hi vP ps.length (sts ps)
  plc : Row wr 3 1 hi hi2 vU us.length (ints us)
  box : wr.heap[w.heap.size]? = some (.cells #[vW, vP] 31 (0, 0))
  res : wr.heap[w.heap.size + 1]? = some (.cells #[.slice none 0 0, .slice none 0 0] 31 (0, 0))
  below : Below w.heap.size w wr
  size : hi2 ≤ wr.heap.size

theorem CrInv.drewN {w wr : World} {n : Nat} {X : List Int} {ps : List St} {us : List Int} {lo hi hi2 : Nat} {vW vP vU : Value} (h : CrInv w wr n X ps us lo hi hi2 vW vP vU) (m : Nat) : CrInv w (wr.drewN m) n X ps us lo hi hi2 vW vP vU := by
  obtain ⟨h1, h2, h3, h4, h5, h6, h7⟩ := h
  exact ⟨h1.same (fun _ _ _ => rfl), h2.same (fun _ _ _ => rfl), h3.same (fun _ _ _ => rfl), h4, h5, below_drewN h6 m, h7⟩
theorem CrInv.drew {w wr : World} {n : Nat} {X : List Int} {ps : List St} {us : List Int} {lo hi hi2 : Nat} {vW vP vU : Value} (h : CrInv w wr n X ps us lo hi hi2 vW vP vU) : CrInv w wr.drew n X ps us lo hi hi2 vW vP vU := by
  obtain ⟨h1, h2, h3, h4, h5, h6, h7⟩ := h
  exact ⟨h1.same (fun _ _ _ => rfl), h2.same (fun _ _ _ => rfl), h3.same (fun _ _ _ => rfl), h4, h5, h6.drew, h7⟩
theorem CrInv.store {w wr : World} {n : Nat} {X : List Int} {ps : List St} {us : List Int} {lo hi hi2 : Nat} {b cap : Nat} {vP vU : Value} (h : CrInv w wr n X ps us lo hi hi2 (.slice (some ⟨b, 0, none⟩) n cap) vP vU) (hlo : w.heap.size + 2 ≤ lo) (a : Nat) (x : Int) :
    CrInv w (wr.setCell ⟨b, a, none⟩ (.int .i64 x)) n (X.set a x) ps us lo hi hi2 (.slice (some ⟨b, 0, none⟩) n cap) vP vU := by
  obtain ⟨h1, h2, h3, h4, h5, h6, h7⟩ := h
  obtain ⟨_, hb1, hb2, _⟩ := h1.at
  refine ⟨?_, h2.apart h1 (by decide) (World.ownsRow.stored h1.1 _ _).2, h3.same (fun k hk _ => Below.heap_setCell _ _ _ _ (by simp only; omega)), ?_, ?_, h6.setCell (by simp only; omega) _, by simp; omega⟩
  · rw [← ints_set]; exact h1.stored _ _
  · rw [Below.heap_setCell _ _ _ _ (by simp only; omega)]; exact h4
  · rw [Below.heap_setCell _ _ _ _ (by simp only; omega)]; exact h5

/-- The words, one place in the midst of being reckoned. -/
def midW (us : List Nat) (zs : List Int) (ps : List St) (ws : List Int) (i n : Nat) : List Int :=
  (spW us zs ps ws i).set (us[i]?.getD 0) (keptS (us[i]?.getD 0) ((spW us zs ps ws i)[us[i]?.getD 0]?.getD 0, keepI zs i) (ps.take n)).1
def midK (us : List Nat) (zs : List Int) (ps : List St) (ws : List Int) (i n : Nat) : Int :=
  (keptS (us[i]?.getD 0) ((spW us zs ps ws i)[us[i]?.getD 0]?.getD 0, keepI zs i) (ps.take n)).2
theorem midW_zero (us : List Nat) (zs : List Int) (ps : List St) (ws : List Int) (i : Nat) (h : us[i]?.getD 0 < ws.length) : midW us zs ps ws i 0 = spW us zs ps ws i := by
  unfold midW
  have hl : us[i]?.getD 0 < (spW us zs ps ws i).length := by rw [spW_len]; exact h
  rw [List.take_zero, keptS_nil]
  simp [hl]
theorem midK_zero (us : List Nat) (zs : List Int) (ps : List St) (ws : List Int) (i : Nat) : midK us zs ps ws i 0 = keepI zs i := rfl
theorem keptS_cut {a : Nat} {s : Int × Int} {ps : List St} {n : Nat} (h : ¬ 0 < (keptS a s (ps.take n)).2) : keptS a s ps = keptS a s (ps.take n) := by
  have e : keptS a s (ps.take n ++ ps.drop n) = keptS a s (ps.take n) := by rw [keptS_append, keptS_stop h]
  rw [List.take_append_drop] at e
  exact e
theorem midW_end {us : List Nat} {zs : List Int} {ps : List St} {ws : List Int} {i n : Nat} (_hn : n ≤ ps.length) (h : n = ps.length ∨ ¬ 0 < midK us zs ps ws i n) : midW us zs ps ws i n = spW us zs ps ws (i + 1) := by
  unfold midW
  rw [spW]
  congr 2
  rcases h with h | h
  · rw [h, List.take_length]
  · exact (keptS_cut h).symm
theorem mid_hit {us : List Nat} {zs : List Int} {ps : List St} {ws : List Int} {i n : Nat} (hn : n < ps.length) (hk : 0 < midK us zs ps ws i n) (h : ps[n].at_ = ((us[i]?.getD 0 : Nat) : Int)) :
    midW us zs ps ws i (n + 1) = (midW us zs ps ws i n).set (us[i]?.getD 0) ps[n].val ∧ midK us zs ps ws i (n + 1) = midK us zs ps ws i n - 1 := by
  unfold midW midK at *
  rw [take_snoc ps n hn, keptS_snoc]
  unfold kept1
  rw [if_pos ⟨h, hk⟩]
  exact ⟨by rw [List.set_set], rfl⟩
theorem mid_miss {us : List Nat} {zs : List Int} {ps : List St} {ws : List Int} {i n : Nat} (hn : n < ps.length) (h : ¬ ps[n].at_ = ((us[i]?.getD 0 : Nat) : Int)) :
    midW us zs ps ws i (n + 1) = midW us zs ps ws i n ∧ midK us zs ps ws i (n + 1) = midK us zs ps ws i n := by
  unfold midW midK
  rw [take_snoc ps n hn, keptS_snoc]
  unfold kept1
  rw [if_neg (fun x => h x.1)]
  exact ⟨rfl, rfl⟩
theorem midW_len (us : List Nat) (zs : List Int) (ps : List St) (ws : List Int) (i n : Nat) : (midW us zs ps ws i n).length = ws.length := by unfold midW; rw [List.length_set, spW_len]
theorem midK_bd {us : List Nat} {zs : List Int} {ps : List St} {ws : List Int} {i n : Nat} (h : 0 ≤ keepI zs i ∧ keepI zs i ≤ 400) : 0 ≤ midK us zs ps ws i n ∧ midK us zs ps ws i n ≤ 400 := by
  have := keptS_nonneg (a := us[i]?.getD 0) (ps.take n) ((spW us zs ps ws i)[us[i]?.getD 0]?.getD 0, keepI zs i) h.1
  unfold midK
  simp only at this
  omega

end Go.Proofs.YtenadnlgjobmdabDoor
