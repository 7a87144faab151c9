/- The journal's applying: by the model. -/
import Derived.Test.YtpgdpachomdfhaaJrP
namespace Go.Proofs.Ytpgdpachomdfhaa
open Go.RowKit

/-- Updates as stores. -/
def upsL (us : List Se) : List St := us.map (fun s => up s.at_ s.val)
theorem upsL_len (us : List Se) : (upsL us).length = us.length := by simp [upsL]
theorem upsL_at (us : List Se) (k : Nat) (h : k < us.length) : (upsL us)[k]? = some (up us[k].at_ us[k].val) := by simp [upsL, h]
def apM (us : List Se) (m : Nat) : List Mi := ((upsL us).take m).map stM
def apP (us : List Se) (m : Nat) : List Int := ((upsL us).take m).map (·.at_)
theorem apM_len (us : List Se) (m : Nat) : (apM us m).length ≤ m := by simp [apM]; omega
theorem apP_len (us : List Se) (m : Nat) : (apP us m).length ≤ m := by simp [apP]; omega
theorem take_next {α : Type} (l : List α) (m : Nat) (x : α) (h : l[m]? = some x) : l.take (m + 1) = l.take m ++ [x] := by
  rw [List.take_add_one, h]; rfl
theorem apM_succ (us : List Se) (m : Nat) (h : m < us.length) : apM us (m + 1) = apM us m ++ [⟨1, us[m].at_, us[m].val⟩] := by
  unfold apM; rw [take_next _ _ _ (upsL_at us m h), List.map_append]; rfl
theorem apP_succ (us : List Se) (m : Nat) (h : m < us.length) : apP us (m + 1) = apP us m ++ [us[m].at_] := by
  unfold apP; rw [take_next _ _ _ (upsL_at us m h), List.map_append]; rfl
theorem apM_all (us : List Se) : apM us us.length = (upsL us).map stM := by unfold apM; rw [List.take_of_length_le (by rw [upsL_len]; omega)]
theorem apP_all (us : List Se) : apP us us.length = (upsL us).map (·.at_) := by unfold apP; rw [List.take_of_length_le (by rw [upsL_len]; omega)]
theorem apP_place (us : List Se) (m : Nat) (hz : ∀ k (h : k < us.length), 0 ≤ us[k].at_ ∧ us[k].at_ < 336) : ∀ k (h : k < (apP us m).length), 0 ≤ (apP us m)[k] ∧ (apP us m)[k] < 336 := by
  intro k h
  have h' := h
  simp only [apP, List.length_map, List.length_take, upsL_len] at h'
  have := hz k (by omega)
  simpa [apP, upsL, up] using this

theorem below_of_drew {w w' : World} (h : Below w.drew.heap.size w.drew w') : Below w.heap.size w w' := below_trans ((Below.refl w.heap.size w).drew) h (Nat.le_refl _)
theorem rd_oneJ (w1 : World) (x : Int) : RdI (w1.alloc (.cells #[.int .i64 x] 3)) (.slice (some ⟨w1.heap.size, 0, none⟩) 1 1) [x] := by
  refine ⟨rfl, _, _, rfl, ⟨Nat.le_refl _, fun e => by cases e⟩, fun _ => ⟨w1.heap.size, 0, rfl, by simp, fun j hj => ?_⟩⟩
  obtain rfl : j = 0 := by simp at hj; omega
  have e := at_new (w := w1) (o := .cells #[.int .i64 x] 3) rfl
  unfold World.cell?
  simp only [e]
  rfl
theorem mis_one_ (m : Mi) : mis [m] = m.cells := by simp [mis]

end Go.Proofs.Ytpgdpachomdfhaa
