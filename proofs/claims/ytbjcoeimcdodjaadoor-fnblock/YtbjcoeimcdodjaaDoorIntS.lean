/- The helpers of the laws over slices of numbers: copied, held against one another, marked, looked at. -/
import Derived.Test.YtbjcoeimcdodjaaDoorMem
import Derived.Deep.OwnRows
import Derived.Deep.QuietTactic
import Derived.BigQuiet
namespace Go.Proofs.YtbjcoeimcdodjaaDoor
open Go.RowKit
theorem info3 : (Tryd.prog.info? 3).map (fun i => (i.zero, i.size, i.bytes)) = some (some (.int .i64 0), 1, 8) := by kernel_rfl
theorem ints_one (zs : List Int) : ∀ u ∈ ints zs, u.oneCell' = true := ints_oneCell _ zs
theorem RdI.form {w : World} {v : Value} {zs : List Int} (h : RdI w v zs) {n : Nat} (hn : zs.length = n) : ∃ ao cap, v = .slice ao n cap := by
  obtain ⟨ao, cap, e, _⟩ := h.shape
  exact ⟨ao, cap, by rw [← hn]; exact e⟩
theorem ints_set (zs : List Int) (j : Nat) (x : Int) : (ints zs).set j (.int .i64 x) = ints (zs.set j x) := by simp [ints, List.map_set]
theorem ints_snoc (zs : List Int) (x : Int) : ints (zs ++ [x]) = ints zs ++ [.int .i64 x] := by simp [ints]
theorem rd_int (w1 : World) (x : Int) : Rd (w1.alloc (.cells #[.int .i64 x] 3)) 1 (.slice (some ⟨w1.heap.size, 0, none⟩) 1 1) 1 [.int .i64 x] := by
  refine ⟨rfl, _, _, rfl, ⟨Nat.le_refl _, fun e => by cases e⟩, fun _ => ⟨w1.heap.size, 0, rfl, by simp, fun j hj => ?_⟩⟩
  have hj0 : j = 0 := by omega
  subst hj0
  have e := at_new (w := w1) (o := .cells #[.int .i64 x] 3) rfl
  simp only [World.cell?, Nat.add_zero]
  rw [e]
  rfl
end Go.Proofs.YtbjcoeimcdodjaaDoor
