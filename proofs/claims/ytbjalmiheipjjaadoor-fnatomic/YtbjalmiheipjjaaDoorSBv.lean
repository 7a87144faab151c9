/- The table of bounds: what its datum says of its cells. -/
import Derived.Test.YtbjalmiheipjjaaDoorJiA
import Derived.ProofKit
import Derived.ChangeSame
import Derived.OpenShut
import Derived.ChangeOld
import Derived.Lib.LaidTab
namespace Go.Proofs.YtbjalmiheipjjaaDoor
open Go.ChangeShapes Go.WideShapes Go.ChangeAt Go.RowKit
theorem cells3' : Tryd.prog.cellsOf 3 = 1 := by kernel_rfl
theorem cellsPair : Tryd.prog.cellsOf 81 = 2 := by kernel_rfl
theorem cellsSB : Tryd.prog.cellsOf 82 = 12 := by kernel_rfl
set_option maxRecDepth 100000 in
theorem cells_pair {H : Type} {enc : TypeId × Value → H} {w : World} {base : Nat} {sp : Nat → Bool} {held : Bool} {fuel : Nat} {cs : List Value} {p : List MemPlace} {a b : Int}
    (h : DataW.trod enc Tryd.prog w base sp held fuel 81 cs = some (.agg [.lit (.int .i64 a), .lit (.int .i64 b)], p)) : cs = [.int .i64 a, .int .i64 b] := by
  obtain ⟨y0, y1, n, hx, hl, t0, t1⟩ := trod_struct2 Tryd.underlying81 h
  obtain ⟨z0, e0, hy0, _⟩ := DataW.trod_int Tryd.underlying3 t0
  obtain ⟨z1, e1, hy1, _⟩ := DataW.trod_int Tryd.underlying3 t1
  rw [cellsPair] at hl
  subst hy0 hy1
  simp only [cells3'] at e0 e1
  match cs, hl with
  | [c0, c1], _ =>
    simp at e0 e1 hx
    subst e0 e1
    rw [hx.1.1, hx.1.2]
set_option maxRecDepth 100000 in
theorem pairs_all {zs : List (Int × Int)} {cs : List Value} (hz : zs.length = 6) (hl : cs.length = 12) (chunk : ∀ i, i < 6 → ∃ z, zs[i]? = some z ∧ (cs.drop (i * 2)).take 2 = [.int .i64 z.1, .int .i64 z.2]) : cs = zs.flatMap fun z => [.int .i64 z.1, .int .i64 z.2] := by
  match zs, hz, cs, hl, chunk with
  | [z0, z1, z2, z3, z4, z5], _, [c0, c1, c2, c3, c4, c5, c6, c7, c8, c9, c10, c11], _, chunk =>
    have k0 := chunk 0 (by omega)
    have k1 := chunk 1 (by omega)
    have k2 := chunk 2 (by omega)
    have k3 := chunk 3 (by omega)
    have k4 := chunk 4 (by omega)
    have k5 := chunk 5 (by omega)
    simp at k0 k1 k2 k3 k4 k5
    simp [k0, k1, k2, k3, k4, k5]
theorem cells_sb {H : Type} {enc : TypeId × Value → H} {w : World} {base : Nat} {sp : Nat → Bool} {held : Bool} {fuel : Nat} {cs : List Value} {p : List MemPlace} {zs : List (Int × Int)} (hz : zs.length = 6)
    (h : DataW.trod enc Tryd.prog w base sp held fuel 82 cs = some (.agg (zs.map fun z => .agg [.lit (.int .i64 z.1), .lit (.int .i64 z.2)]), p)) : cs = zs.flatMap fun z => [.int .i64 z.1, .int .i64 z.2] := by
  cases fuel with
  | zero => simp [DataW.trod] at h
  | succ fuel =>
    simp only [DataW.trod, Tryd.underlying82, cellsPair, cellsSB] at h
    split at h
    · rename_i hl
      obtain ⟨xs, hm, hx⟩ := Option.map_eq_some_iff.1 h
      have hxs : xs.map (·.1) = zs.map fun z => (DataW.agg [.lit (.int .i64 z.1), .lit (.int .i64 z.2)] : DataW H) := by
        have := congrArg Prod.fst hx
        simpa using this
      refine pairs_all hz hl (fun i hi => ?_)
      obtain ⟨b, hb, hf⟩ := Lib.mapM_at hm i i (by simp [hi])
      have h2 : (xs.map (·.1))[i]? = some b.1 := by simp [hb]
      rw [hxs, List.getElem?_map, List.getElem?_eq_getElem (by omega)] at h2
      have h3 := Option.some.inj h2
      obtain ⟨b1, b2⟩ := b
      simp only at h3
      subst h3
      exact ⟨_, List.getElem?_eq_getElem (by omega), cells_pair hf⟩
    · cases h
end Go.Proofs.YtbjalmiheipjjaaDoor
