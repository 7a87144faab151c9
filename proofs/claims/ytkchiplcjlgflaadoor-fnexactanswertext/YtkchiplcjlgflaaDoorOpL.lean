/- Operations handed to a law: their texts counted, and handed on. -/
import Derived.Test.YtkchiplcjlgflaaDoorZAG
namespace Go.Proofs.YtkchiplcjlgflaaDoor
open Go.RowKit
set_option maxRecDepth 100000 in
set_option maxHeartbeats 2000000 in
theorem toOp_any (k : Int) (p t : ByteArray) (g x : Int) (w : World) : Calls Tryd.prog 7 #[.agg #[.int .i64 k, .string p, .string t, .int .i64 g, .int .i64 x]] w fun e w' => e = .returned (.agg #[.int .i64 k, .string p, .string t, .int .i64 g, .int .i64 x]) ∧ Below w.heap.size w w' := by
  go_enter Tryd.func7, Tryd.ntmps7
  go_wp2
  refine bodyPost_ret (v := .agg #[.int .i64 k, .string p, .string t, .int .i64 g, .int .i64 x]) (by simp [results, Tryd.results7, go_sem]) rfl ⟨rfl, ?_⟩
  repeat (first | exact Below.refl _ _ | refine Below.setCell ?_ (by simp only; omega) _ | refine Below.alloc ?_ (by simp <;> omega) _)
def opZ (p t : ByteArray) (left : Int) : Int := if left < (p.size : Int) + (t.size : Int) then -1 else left - (p.size : Int) - (t.size : Int)
set_option maxRecDepth 100000 in
set_option maxHeartbeats 2000000 in
theorem szOp_any (k : Int) (p t : ByteArray) (g x left : Int) (w : World) (hp : p.size ≤ maxLen) (ht : t.size ≤ maxLen) (h0 : 0 ≤ left) (h1 : left ≤ 1048576) : Calls Tryd.prog 4 #[.agg #[.int .i64 k, .string p, .string t, .int .i64 g, .int .i64 x], .int .i64 left] w fun e w' => e = .returned (.int .i64 (opZ p t left)) ∧ Below w.heap.size w w' := by
  unfold maxLen at hp ht
  have EO := hideIt (show opZ p t left = if left < (p.size : Int) + (t.size : Int) then -1 else left - (p.size : Int) - (t.size : Int) from rfl)
  have BW := hideIt ((Below.refl w.heap.size w).alloc (Nat.le_refl _) (.cells #[.int .i64 k, .string p, .string t, .int .i64 g, .int .i64 x] 23))
  generalize opZ p t left = r at *
  by_cases c : left < (p.size : Int)
  · rw [if_pos (by omega)] at EO
    obtain rfl := EO.out
    have c' : left - (p.size : Int) < 0 := by omega
    go_enter Tryd.func4, Tryd.ntmps4
    go_wp2
    go_ret
    exact ⟨rfl, BW.out⟩
  have c' : ¬ left - (p.size : Int) < 0 := by omega
  by_cases d : left < (p.size : Int) + (t.size : Int)
  · rw [if_pos d] at EO
    obtain rfl := EO.out
    have d' : left - (p.size : Int) - (t.size : Int) < 0 := by omega
    go_enter Tryd.func4, Tryd.ntmps4
    go_wp2
    go_ret
    exact ⟨rfl, BW.out⟩
  · rw [if_neg d] at EO
    obtain rfl := EO.out
    have d' : ¬ left - (p.size : Int) - (t.size : Int) < 0 := by omega
    go_enter Tryd.func4, Tryd.ntmps4
    go_wp2
    go_ret
    exact ⟨rfl, BW.out⟩
end Go.Proofs.YtkchiplcjlgflaaDoor
