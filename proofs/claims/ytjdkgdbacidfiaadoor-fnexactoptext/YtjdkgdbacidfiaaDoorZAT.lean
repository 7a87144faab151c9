/- Several texts laid together: OpL, LawOpText, OpenA. -/
import Derived.Test.YtjdkgdbacidfiaaDoorZAF
import Derived.Test.YtjdkgdbacidfiaaDoorOtC
import Derived.Test.YtjdkgdbacidfiaaDoorMem
import Derived.ProofKit
import Derived.OpenShut
import Derived.ShutString
import Derived.ChangeOld
import Derived.Lib.SmallJoins
import Derived.Deep.Slices
import Derived.Deep.Strs
import Derived.Deep.OwnRows
import Derived.Deep.QuietTactic
import Derived.BigQuiet
namespace Go.Proofs.YtjdkgdbacidfiaaDoor
open Go.RowKit
set_option maxRecDepth 100000 in
set_option maxHeartbeats 2000000 in
theorem toOp_any (k : Int) (p t : ByteArray) (g x : Int) (w : World) : Calls Tryd.prog 8 #[.agg #[.int .i64 k, .string p, .string t, .int .i64 g, .int .i64 x]] w fun e w' => e = .returned (.agg #[.int .i64 k, .string p, .string t, .int .i64 g, .int .i64 x]) ∧ Below w.heap.size w w' := by
  go_enter Tryd.func8, Tryd.ntmps8
  go_wp2
  refine bodyPost_ret (v := .agg #[.int .i64 k, .string p, .string t, .int .i64 g, .int .i64 x]) (by simp [results, Tryd.results8, go_sem]) rfl ⟨rfl, ?_⟩
  repeat (first | exact Below.refl _ _ | refine Below.setCell ?_ (by simp only; omega) _ | refine Below.alloc ?_ (by simp <;> omega) _)
def opZ (p t : ByteArray) (left : Int) : Int := if left < (p.size : Int) + (t.size : Int) then -1 else left - (p.size : Int) - (t.size : Int)
set_option maxRecDepth 100000 in
set_option maxHeartbeats 2000000 in
theorem szOp_any (k : Int) (p t : ByteArray) (g x left : Int) (w : World) (hp : p.size ≤ maxLen) (ht : t.size ≤ maxLen) (h0 : 0 ≤ left) (h1 : left ≤ 1048576) : Calls Tryd.prog 6 #[.agg #[.int .i64 k, .string p, .string t, .int .i64 g, .int .i64 x], .int .i64 left] w fun e w' => e = .returned (.int .i64 (opZ p t left)) ∧ Below w.heap.size w w' := by
  unfold maxLen at hp ht
  have EO := hideIt (show opZ p t left = if left < (p.size : Int) + (t.size : Int) then -1 else left - (p.size : Int) - (t.size : Int) from rfl)
  have BW := hideIt ((Below.refl w.heap.size w).alloc (Nat.le_refl _) (.cells #[.int .i64 k, .string p, .string t, .int .i64 g, .int .i64 x] 23))
  generalize opZ p t left = r at *
  by_cases c : left < (p.size : Int)
  · rw [if_pos (by omega)] at EO
    obtain rfl := EO.out
    have c' : left - (p.size : Int) < 0 := by omega
    go_enter Tryd.func6, Tryd.ntmps6
    go_wp2
    go_ret
    exact ⟨rfl, BW.out⟩
  have c' : ¬ left - (p.size : Int) < 0 := by omega
  by_cases d : left < (p.size : Int) + (t.size : Int)
  · rw [if_pos d] at EO
    obtain rfl := EO.out
    have d' : left - (p.size : Int) - (t.size : Int) < 0 := by omega
    go_enter Tryd.func6, Tryd.ntmps6
    go_wp2
    go_ret
    exact ⟨rfl, BW.out⟩
  · rw [if_neg d] at EO
    obtain rfl := EO.out
    have d' : ¬ left - (p.size : Int) - (t.size : Int) < 0 := by omega
    go_enter Tryd.func6, Tryd.ntmps6
    go_wp2
    go_ret
    exact ⟨rfl, BW.out⟩
end Go.Proofs.YtjdkgdbacidfiaaDoor

namespace Go.Proofs.YtjdkgdbacidfiaaDoor
open Go.RowKit
set_option maxRecDepth 100000 in
set_option maxHeartbeats 4000000 in
theorem opText_law (k : Int) (p t : ByteArray) (g x : Int) (w : World) (hp : p.size ≤ maxLen) (ht : t.size ≤ maxLen) (hg : -9223372036854775808 ≤ g ∧ g ≤ 9223372036854775807) (hx : -9223372036854775808 ≤ x ∧ x ≤ 9223372036854775807) (hP : PT w) :
    Calls Tryd.prog 3 #[.agg #[.int .i64 k, .string p, .string t, .int .i64 g, .int .i64 x]] w fun e w' => e = .returned (.bool true) ∧ Below w.heap.size w w' := by
  have SZ := hideIt (fun w1 => szOp_any k p t g x 1048576 w1 hp ht (by omega) (by omega))
  have SC := hideIt (fun w1 => specOpText_any k p t g x w1)
  have IC := hideIt (fun w1 (hb : Below w.heap.size w w1) => implOpText_any k p t g x w1 (hP.below hb) hg hx)
  have TO := hideIt (fun w1 => toOp_any k p t g x w1)
  have EO := hideIt (show opZ p t 1048576 = if 1048576 < (p.size : Int) + (t.size : Int) then -1 else 1048576 - (p.size : Int) - (t.size : Int) from rfl)
  obtain ⟨W, hW⟩ : ∃ W, W = w.alloc (.cells #[.int .i64 k, .string p, .string t, .int .i64 g, .int .i64 x] 23) := ⟨_, rfl⟩
  have CA : Hid (∀ w', Below W.heap.size W w' → w'.cell? ⟨w.heap.size, 0, none⟩ = some (.int .i64 k) ∧ w'.cell? ⟨w.heap.size, 1, none⟩ = some (.string p) ∧ w'.cell? ⟨w.heap.size, 2, none⟩ = some (.string t) ∧ w'.cell? ⟨w.heap.size, 3, none⟩ = some (.int .i64 g) ∧ w'.cell? ⟨w.heap.size, 4, none⟩ = some (.int .i64 x)) := fun w' hb => by
    have q : w'.heap[w.heap.size]? = some (.cells ([.int .i64 k, .string p, .string t, .int .i64 g, .int .i64 x] : List Value).toArray 23 (0, 0)) := (hb.block _ (by rw [hW]; simp)).trans (by rw [hW]; exact at_new rfl)
    exact ⟨(eight_at q 0).1, (eight_at q 1).1, (eight_at q 2).1, (eight_at q 3).1, (eight_at q 4).1⟩
  have BW : Hid (Below w.heap.size w W) := by rw [hW]; exact (Below.refl _ _).alloc (Nat.le_refl _) _
  generalize opZ p t 1048576 = r at *
  generalize otS k p t g x = s at *
  generalize otC k p t g x = cd at *
  clear hg hx hP
  obtain ⟨x0, x1, x2, x3, x4⟩ := CA.out _ (Below.refl _ _)
  rw [hW] at x0 x1 x2 x3 x4
  go_enter Tryd.func3, Tryd.ntmps3
  go_wp2_with fail
  rw [← hW]
  clear hW x0 x1 x2 x3 x4
  refine (SZ.out _).mono ?_
  rintro e w1 ⟨rfl, hb1⟩
  have A1 := hideIt hb1
  have B1 := hideIt (below_trans BW.out hb1 BW.out.size)
  clear hb1
  by_cases c : 1048576 < (p.size : Int) + (t.size : Int)
  · rw [if_pos c] at EO
    rw [EO.out]
    clear EO c
    go_wp2
    go_ret
    exact ⟨rfl, B1.out⟩
  rw [if_neg c] at EO
  have c2 : ¬ r < 0 := by rw [EO.out]; omega
  clear EO c
  obtain ⟨x0, x1, x2, x3, x4⟩ := CA.out _ A1.out
  go_wp2_with fail
  refine (TO.out _).mono ?_
  rintro e w2 ⟨rfl, hb2⟩
  have A2 := hideIt (below_trans A1.out hb2 A1.out.size)
  clear hb2 A1 x0 x1 x2 x3 x4 c2
  go_wp2_with fail
  refine (SC.out _).mono ?_
  rintro e w3 ⟨rfl, hb3⟩
  have A3 := hideIt (below_trans A2.out hb3 A2.out.size)
  clear hb3 A2
  obtain ⟨x0, x1, x2, x3, x4⟩ := CA.out _ A3.out
  go_wp2_with fail
  refine (TO.out _).mono ?_
  rintro e w4 ⟨rfl, hb4⟩
  have A4 := hideIt (below_trans A3.out hb4 A3.out.size)
  clear hb4 A3 x0 x1 x2 x3 x4
  go_wp2_with fail
  refine (IC.out _ (below_trans BW.out A4.out BW.out.size)).mono ?_
  rintro e w5 ⟨rfl, hb5⟩
  have B5 := hideIt (below_trans BW.out (below_trans A4.out hb5 A4.out.size) BW.out.size)
  clear hb5 A4
  go_wp2
  go_ret
  exact ⟨rfl, B5.out⟩
end Go.Proofs.YtjdkgdbacidfiaaDoor

namespace Go.Proofs.YtjdkgdbacidfiaaDoor
open Go.ChangeShapes Go.WideShapes Go.ChangeAt Go.RowKit Go.Joins
theorem own : ownKnob Tryd.prog.godebug = none := by kernel_rfl
theorem laidOut : laidOutB Tryd.prog = true := by kernel_rfl
section
variable {H : Type} {enc : TypeId × Value → H} {W : World} {sp : Nat → Bool} {held : Bool} {fuel : Nat} {v : Value} {y : DataW H × List MemPlace}
end
end Go.Proofs.YtjdkgdbacidfiaaDoor
