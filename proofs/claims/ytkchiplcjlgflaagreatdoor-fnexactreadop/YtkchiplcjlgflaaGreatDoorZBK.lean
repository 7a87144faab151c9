/- Several texts laid together: LawReadOp, ErV, OpenA. -/
import Derived.Test.YtkchiplcjlgflaaGreatDoorRoN
import Derived.Test.YtkchiplcjlgflaaGreatDoorRoI
import GoSem.ClaimChange
import Derived.Test.YtkchiplcjlgflaaGreatDoorZAD
import Derived.ProofKit
import Derived.OpenShut
import Derived.ShutString
import Derived.ChangeOld
import Derived.Lib.SmallJoins
import Derived.Deep.Slices
import Derived.Deep.Strs
namespace Go.Proofs.YtkchiplcjlgflaaGreatDoor
open Go.RowKit
set_option maxHeartbeats 2000000 in
theorem eqOp_self (k : Int) (p t : ByteArray) (g x : Int) (w : World) : Calls Tryz.prog 6 #[.agg #[.int .i64 k, .string p, .string t, .int .i64 g, .int .i64 x], .agg #[.int .i64 k, .string p, .string t, .int .i64 g, .int .i64 x]] w fun e w' => e = .returned (.bool true) ∧ Below w.heap.size w w' := by
  have BW : Hid (Below w.heap.size w ((w.alloc (.cells #[.int .i64 k, .string p, .string t, .int .i64 g, .int .i64 x] 23)).alloc (.cells #[.int .i64 k, .string p, .string t, .int .i64 g, .int .i64 x] 23))) := ((Below.refl _ _).alloc (Nat.le_refl _) _).alloc (by simp) _
  go_enter Tryz.func6, Tryz.ntmps6
  go_wp2
  go_ret
  exact ⟨rfl, BW.out⟩
theorem rp_same {s : ByteArray} {e1 e2 : Ending} (h1 : rpP s e1) (h2 : rpP s e2) : e2 = e1 := by
  obtain ⟨k, p, t, g, x, c, rfl, h1⟩ := h1
  obtain ⟨k', p', t', g', x', c', rfl, h2⟩ := h2
  rcases h1 with ⟨a, rfl, rfl, rfl, rfl, rfl, rfl⟩ | ⟨a, b, rfl, rfl, rfl, rfl, rfl, rfl⟩ | ⟨a, n, u, v, b, rfl, rfl, rfl, rfl⟩
  · rcases h2 with ⟨a', rfl, rfl, rfl, rfl, rfl, rfl⟩ | ⟨a', -⟩ | ⟨a', -⟩
    · rfl
    · omega
    · omega
  · rcases h2 with ⟨a', -⟩ | ⟨a', b', rfl, rfl, rfl, rfl, rfl, rfl⟩ | ⟨a', n', u', v', b', -⟩
    · omega
    · rfl
    · rw [b] at b'; cases b'
  · rcases h2 with ⟨a', -⟩ | ⟨a', b', -⟩ | ⟨a', n', u', v', b', rfl, rfl, rfl, rfl⟩
    · omega
    · rw [b] at b'; cases b'
    · rw [b] at b'; cases b'; rfl
set_option maxRecDepth 100000 in
set_option maxHeartbeats 4000000 in
theorem readOp_law (s : ByteArray) (w : World) (hP : PT w) (hS : SY w) (hR : RY w) :
    Calls Tryz.prog 3 #[.string s] w fun e w' => e = .returned (.bool true) ∧ Below w.heap.size w w' := by
  have SC := hideIt (fun w1 => specReadOp_any s w1)
  have IC := hideIt (fun w1 (hb : Below w.heap.size w w1) => implReadOp_any s w1 (hP.below hb) (hS.below hb) (hR.below hb))
  have SAME := hideIt (fun e1 e2 h1 h2 => rp_same (s := s) (e1 := e1) (e2 := e2) h1 h2)
  have FORM := hideIt (fun e h => show ∃ (k : Int) (p t : ByteArray) (g x c : Int), e = Ending.returned (.tuple #[.agg #[.int .i64 k, .string p, .string t, .int .i64 g, .int .i64 x], .int .i64 c]) by obtain ⟨k, p, t, g, x, c, a, -⟩ := (h : rpP s e); exact ⟨k, p, t, g, x, c, a⟩)
  clear hP hS hR
  generalize rpP s = PP at *
  by_cases hl : s.size ≤ 1048576
  · have h1 : ¬ (s.size : Int) > 1048576 := by omega
    go_enter Tryz.func3, Tryz.ntmps3
    go_wp2_with fail
    refine (SC.out _).mono ?_
    rintro e w1 ⟨hr, hb1⟩
    have SM := hideIt (fun e2 h2 => SAME.out e e2 hr h2)
    obtain ⟨k, p, t, g, x, c, rfl⟩ := FORM.out e hr
    have B1 := hideIt hb1
    clear hb1 hr SC SAME FORM
    obtain ⟨W2, hW2⟩ : ∃ W2, W2 = w1.alloc (.cells #[.int .i64 k, .string p, .string t, .int .i64 g, .int .i64 x] 23) := ⟨_, rfl⟩
    have b2 : Below w1.heap.size w1 W2 := by rw [hW2]; exact (Below.refl _ _).alloc (Nat.le_refl _) _
    have Y2 : Hid (W2.heap[w1.heap.size]? = some (.cells #[.int .i64 k, .string p, .string t, .int .i64 g, .int .i64 x] 23 (0, 0))) := by rw [hW2]; exact at_new rfl
    have B2 := hideIt (below_trans B1.out b2 B1.out.size)
    have y2z := (Array.getElem?_eq_some_iff.1 Y2.out).1
    go_upto_region 4 with fail
    rw [← hW2]
    clear hW2 b2 B1
    go_wp2_with fail
    refine (IC.out _ B2.out).mono ?_
    rintro e w3 ⟨hr, hb3⟩
    obtain rfl := SM.out e hr
    have B3 := hideIt (below_trans B2.out hb3 B2.out.size)
    have Y3 := hideIt ((hb3.block _ y2z).trans Y2.out)
    clear hb3 hr SM IC B2 Y2
    have y3z := (Array.getElem?_eq_some_iff.1 Y3.out).1
    obtain ⟨W4, hW4⟩ : ∃ W4, W4 = w3.alloc (.cells #[.int .i64 k, .string p, .string t, .int .i64 g, .int .i64 x] 23) := ⟨_, rfl⟩
    have b4 : Below w3.heap.size w3 W4 := by rw [hW4]; exact (Below.refl _ _).alloc (Nat.le_refl _) _
    have Z4 : Hid (W4.heap[w3.heap.size]? = some (.cells #[.int .i64 k, .string p, .string t, .int .i64 g, .int .i64 x] 23 (0, 0))) := by rw [hW4]; exact at_new rfl
    have Y4 := hideIt ((b4.block _ y3z).trans Y3.out)
    have B4 := hideIt (below_trans B3.out b4 B3.out.size)
    have LE := hideIt (fun w5 => eqOp_self k p t g x w5)
    go_upto_region 5 with fail
    rw [← hW4]
    clear hW4 b4 B3 Y3
    obtain ⟨⟨x0, x1, x2, x3, x4⟩, -⟩ := five_box Y4.out
    obtain ⟨⟨z0, z1, z2, z3, z4⟩, -⟩ := five_box Z4.out
    go_wp2_with fail
    refine (LE.out _).mono ?_
    rintro e w5 ⟨rfl, hb5⟩
    have B5 := hideIt (below_trans B4.out hb5 B4.out.size)
    clear hb5 B4 Y4 Z4 x0 x1 x2 x3 x4 z0 z1 z2 z3 z4
    go_wp2
    go_ret
    exact ⟨rfl, B5.out⟩
  · have h1 : (s.size : Int) > 1048576 := by omega
    go_enter Tryz.func3, Tryz.ntmps3
    go_wp2
    go_ret
    exact ⟨rfl, Below.refl _ _⟩
end Go.Proofs.YtkchiplcjlgflaaGreatDoor

namespace Go.Proofs.YtkchiplcjlgflaaGreatDoor
open Go.RowKit
theorem err_cell {H : Type} {enc : TypeId × Value → H} {P : Program} {W : World} {spare : Nat → Bool} {fuel : Nat} {t : TypeId} {cs : List Value} {d : DataW H} {p : List MemPlace} (ht : ∃ m, P.underlying t = some (.interface m)) (hd : DataW.trod enc P W 0 spare false fuel t cs = some (d, p)) :
    ∃ ev, cs = [ev] ∧ (ev = .nilIface ∨ ∃ te pe, ev = .iface te pe) := by
  obtain ⟨m, ht⟩ := ht
  cases fuel with
  | zero => cases hd
  | succ fuel =>
    unfold DataW.trod at hd
    rw [ht] at hd
    split at hd <;> rename_i h1 <;> first | (cases h1; done) | skip
    all_goals first | (cases h1; exact ⟨_, rfl, .inl rfl⟩) | (cases h1; exact ⟨_, rfl, .inr ⟨_, _, rfl⟩⟩) | (cases hd)
theorem err_var {W : World} {g : Nat} {cs : Array Value} {t : TypeId} {fr : Nat × Nat} (hh : W.heap[g]? = some (.cells cs t fr)) (e : ∃ ev, cs.toList = [ev] ∧ (ev = .nilIface ∨ ∃ te pe, ev = .iface te pe)) : ∃ ev, W.cell? ⟨g, 0, none⟩ = some ev ∧ (ev = .nilIface ∨ ∃ te pe, ev = .iface te pe) := by
  obtain ⟨ev, e, h⟩ := e
  refine ⟨ev, ?_, h⟩
  obtain ⟨l⟩ := cs
  simp only at e
  subst e
  simp [World.cell?, hh]
end Go.Proofs.YtkchiplcjlgflaaGreatDoor

namespace Go.Proofs.YtkchiplcjlgflaaGreatDoor
open Go.ChangeShapes Go.WideShapes Go.ChangeAt Go.RowKit Go.Joins
theorem own : ownKnob Tryz.prog.godebug = none := by kernel_rfl
theorem laidOut : laidOutB Tryz.prog = true := by kernel_rfl
section
variable {H : Type} {enc : TypeId × Value → H} {W : World} {sp : Nat → Bool} {held : Bool} {fuel : Nat} {v : Value} {y : DataW H × List MemPlace}
end
end Go.Proofs.YtkchiplcjlgflaaGreatDoor
