/- Several texts laid together: MtC, LawMicroText, OpenA, OpenM. -/
import Derived.Test.YtjdkgdbacidfiaaDoorMtB
import Derived.Test.YtjdkgdbacidfiaaDoorZAA
import Derived.ProofKit
import Derived.OpenShut
import Derived.ShutString
import Derived.ChangeOld
import Derived.Lib.SmallJoins
import Derived.Deep.Slices
import Derived.Deep.Strs
import Derived.Deep.OwnRows
import Derived.Deep.QuietTactic
import Derived.BigQuiet
import Derived.Test.YtjdkgdbacidfiaaDoorMiS
import Derived.Deep.RegionWith
namespace Go.Proofs.YtjdkgdbacidfiaaDoor
open Go.RowKit
set_option maxRecDepth 100000 in
set_option maxHeartbeats 4000000 in
theorem implMicroText_any (m : Mi) (w : World) (hS : SB w) (hF : StF w) (hP : PT w) : Calls Tryd.prog 12 #[m.v] w fun e w' => e = .returned (.tuple #[.string (mtS m), .int .i64 (mtK m)]) ∧ Below w.heap.size w w' := by
  have LM := hideIt (fun w1 (hb : Below w.heap.size w w1) => isStep_any m w1 (hS.below hb))
  have LT := hideIt (fun (h : miB m = true) w1 (hb : Below w.heap.size w w1) => stepText_any m w1 h (hF.below hb) (hP.below hb))
  clear hS hF hP
  obtain ⟨V, hV⟩ : ∃ V, V = w.alloc (.cells #[.int .i64 m.kind, .int .i64 m.at_, .int .i64 m.val] 33) := ⟨_, rfl⟩
  have hb0 : Hid (Below w.heap.size w V) := by rw [hV]; exact (Below.refl _ _).alloc (Nat.le_refl _) _
  have XV : Hid (V.heap[w.heap.size]? = some (.cells #[.int .i64 m.kind, .int .i64 m.at_, .int .i64 m.val] 33 (0, 0))) := by rw [hV]; exact at_new rfl
  unfold Mi.v at LM LT ⊢
  unfold mtS mtK
  have zV := (Array.getElem?_eq_some_iff.1 XV.out).1
  cases hm : miB m with
  | false =>
    rw [hm] at LM
    rw [if_neg (by decide), if_neg (by decide)]
    clear LT hm
    generalize m.kind = k at *
    generalize m.at_ = a at *
    generalize m.val = v at *
    go_enter Tryd.func12, Tryd.ntmps12
    go_upto_region 1 with fail
    rw [← hV]
    clear hV
    obtain ⟨x0, x1, x2⟩ := three_cells XV.out
    go_wp2_with fail
    refine (LM.out _ hb0.out).mono ?_
    rintro e w1 ⟨rfl, hb1⟩
    have B1 := hideIt (below_trans hb0.out hb1 hb0.out.size)
    clear hb1 x0 x1 x2
    go_wp2
    go_ret2
    exact ⟨rfl, B1.out⟩
  | true =>
    rw [hm] at LM
    have LT1 := hideIt (LT.out hm)
    rw [if_pos rfl, if_pos rfl]
    clear LT hm
    generalize miT m = s at *
    generalize m.kind = k at *
    generalize m.at_ = a at *
    generalize m.val = v at *
    go_enter Tryd.func12, Tryd.ntmps12
    go_upto_region 1 with fail
    rw [← hV]
    clear hV
    obtain ⟨x0, x1, x2⟩ := three_cells XV.out
    go_wp2_with fail
    refine (LM.out _ hb0.out).mono ?_
    rintro e w1 ⟨rfl, hb1⟩
    have B1 := hideIt (below_trans hb0.out hb1 hb0.out.size)
    have X1 := hideIt ((hb1.block _ zV).trans XV.out)
    clear hb1 x0 x1 x2
    obtain ⟨x0, x1, x2⟩ := three_cells X1.out
    go_wp2_with fail
    refine (LT1.out _ B1.out).mono ?_
    rintro e w2 ⟨rfl, hb2⟩
    have B2 := hideIt (below_trans B1.out hb2 B1.out.size)
    clear hb2 x0 x1 x2
    go_wp2
    go_ret2
    exact ⟨rfl, B2.out⟩
end Go.Proofs.YtjdkgdbacidfiaaDoor

namespace Go.Proofs.YtjdkgdbacidfiaaDoor
open Go.RowKit
set_option maxRecDepth 100000 in
set_option maxHeartbeats 4000000 in
theorem microText_law (m : Mi) (w : World) (hS : SB w) (hF : StF w) (hP : PT w) :
    Calls Tryd.prog 4 #[m.v] w fun e w' => e = .returned (.bool true) ∧ Below w.heap.size w w' := by
  have LM := hideIt (fun w1 => toMicro_any m w1)
  have SC := hideIt (fun w1 => specMicroText_any m w1)
  have IC := hideIt (fun w1 (hb : Below w.heap.size w w1) => implMicroText_any m w1 (hS.below hb) (hF.below hb) (hP.below hb))
  clear hS hF hP
  obtain ⟨V, hV⟩ : ∃ V, V = w.alloc (.cells #[.int .i64 m.kind, .int .i64 m.at_, .int .i64 m.val] 31) := ⟨_, rfl⟩
  have hb0 : Hid (Below w.heap.size w V) := by rw [hV]; exact (Below.refl _ _).alloc (Nat.le_refl _) _
  have XV : Hid (V.heap[w.heap.size]? = some (.cells #[.int .i64 m.kind, .int .i64 m.at_, .int .i64 m.val] 31 (0, 0))) := by rw [hV]; exact at_new rfl
  have zV := (Array.getElem?_eq_some_iff.1 XV.out).1
  unfold Mi.v at LM SC IC ⊢
  generalize mtS m = s at *
  generalize mtK m = cd at *
  generalize m.kind = k at *
  generalize m.at_ = a at *
  generalize m.val = v at *
  go_enter Tryd.func4, Tryd.ntmps4
  go_upto_region 1 with fail
  rw [← hV]
  clear hV
  obtain ⟨x0, x1, x2⟩ := three_cells XV.out
  go_wp2_with fail
  refine (LM.out _).mono ?_
  rintro e w1 ⟨rfl, hb1⟩
  have B1 := hideIt (below_trans hb0.out hb1 hb0.out.size)
  have X1 := hideIt ((hb1.block _ zV).trans XV.out)
  clear hb1 x0 x1 x2 hb0 XV
  go_wp2_with fail
  refine (SC.out _).mono ?_
  rintro e w2 ⟨rfl, hb2⟩
  have z1 := (Array.getElem?_eq_some_iff.1 X1.out).1
  have B2 := hideIt (below_trans B1.out hb2 B1.out.size)
  have X2 := hideIt ((hb2.block _ z1).trans X1.out)
  clear hb2 B1 X1
  obtain ⟨x0, x1, x2⟩ := three_cells X2.out
  go_wp2_with fail
  refine (LM.out _).mono ?_
  rintro e w3 ⟨rfl, hb3⟩
  have B3 := hideIt (below_trans B2.out hb3 B2.out.size)
  clear hb3 x0 x1 x2 B2 X2
  go_wp2_with fail
  refine (IC.out _ B3.out).mono ?_
  rintro e w4 ⟨rfl, hb4⟩
  have B4 := hideIt (below_trans B3.out hb4 B3.out.size)
  clear hb4 B3
  go_wp2
  go_ret
  exact ⟨rfl, B4.out⟩
end Go.Proofs.YtjdkgdbacidfiaaDoor

namespace Go.Proofs.YtjdkgdbacidfiaaDoor
open Go.ChangeShapes Go.WideShapes Go.ChangeAt Go.RowKit Go.Joins
theorem own : ownKnob Tryd.prog.godebug = none := by kernel_rfl
theorem laidOut : laidOutB Tryd.prog = true := by kernel_rfl
section
variable {H : Type} {enc : TypeId × Value → H} {W : World} {sp : Nat → Bool} {held : Bool} {fuel : Nat} {v : Value} {y : DataW H × List MemPlace}
end
end Go.Proofs.YtjdkgdbacidfiaaDoor

namespace Go.Proofs.YtjdkgdbacidfiaaDoor
open Go.ChangeShapes Go.WideShapes Go.ChangeAt Go.RowKit Go.Joins
section
variable {H : Type} {enc : TypeId × Value → H} {W : World} {sp : Nat → Bool} {held : Bool} {fuel : Nat} {v : Value} {y : DataW H × List MemPlace}
end
set_option maxRecDepth 100000 in
theorem open_mic {H : Type} {enc : TypeId × Value → H} {W : World} {sp : Nat → Bool} {held : Bool} {r : Reach} {b0 : Nat} {v : Value} {d : DataW H} {p : List MemPlace}
    (hv : Value.okWide Tryd.prog W r b0 31 v) (h : DataW.Trod enc Tryd.prog W 0 sp held 31 v d p) :
    ∃ m : Mi, v = m.v ∧ (Lit.int .i64 m.kind).wf = true ∧ (Lit.int .i64 m.at_).wf = true ∧ (Lit.int .i64 m.val).wf = true := by
  obtain ⟨v0, v1, v2, y0, y1, y2, n, rfl, _, _, t0, t1, t2⟩ := open_agg3 Tryd.underlying31 (by kernel_rfl) (by kernel_rfl) hv h
  obtain ⟨z0, e0, _, w0⟩ := DataW.trod_int Tryd.underlying3 t0
  obtain ⟨z1, e1, _, w1⟩ := DataW.trod_int Tryd.underlying3 t1
  obtain ⟨z2, e2, _, w2⟩ := DataW.trod_int Tryd.underlying3 t2
  simp only [List.cons.injEq, and_true] at e0 e1 e2
  subst e0 e1 e2
  exact ⟨⟨z0, z1, z2⟩, rfl, w0, w1, w2⟩
end Go.Proofs.YtjdkgdbacidfiaaDoor
