/- Several texts laid together: ErV, SBv, SFv. -/
import Derived.Test.YtjkdmhdehihcbaaGreatDoorRoI
import GoSem.ClaimChange
import Derived.Test.YtjkdmhdehihcbaaGreatDoorJiA
import Derived.ProofKit
import Derived.ChangeSame
import Derived.OpenShut
import Derived.ChangeOld
import Derived.Lib.LaidTab
namespace Go.Proofs.YtjkdmhdehihcbaaGreatDoor
open Go.RowKit
theorem err_cell {H : Type} {enc : TypeId × Value → H} {P : Program} {W : World} {spare : Nat → Bool} {fuel : Nat} {t : TypeId} {cs : List Value} {d : DataW H} {p : List MemPlace} (ht : ∃ m, P.underlying t = some (.interface m)) (hd : DataW.trod enc P W 0 spare false fuel t cs = some (d, p)) :
    ∃ ev, cs = [ev] ∧ (ev = .nilIface ∨ ∃ te pe, ev = .iface te pe) := by
  obtain ⟨m, ht⟩ := ht
  cases fuel with
  | zero => cases hd
  | succ fuel =>
    unfold DataW.trod at hd
    rw [ht] at hd
    split at hd <;> rename_i h1 <;> first | (cases h1; done) | skip
    all_goals first | (cases h1; exact ⟨_, rfl, .inl rfl⟩) | (cases h1; exact ⟨_, rfl, .inr ⟨_, _, rfl⟩⟩) | (cases hd)
theorem err_var {W : World} {g : Nat} {cs : Array Value} {t : TypeId} {fr : Nat × Nat} (hh : W.heap[g]? = some (.cells cs t fr)) (e : ∃ ev, cs.toList = [ev] ∧ (ev = .nilIface ∨ ∃ te pe, ev = .iface te pe)) : ∃ ev, W.cell? ⟨g, 0, none⟩ = some ev ∧ (ev = .nilIface ∨ ∃ te pe, ev = .iface te pe) := by
  obtain ⟨ev, e, h⟩ := e
  refine ⟨ev, ?_, h⟩
  obtain ⟨l⟩ := cs
  simp only at e
  subst e
  simp [World.cell?, hh]
end Go.Proofs.YtjkdmhdehihcbaaGreatDoor

namespace Go.Proofs.YtjkdmhdehihcbaaGreatDoor
open Go.ChangeShapes Go.WideShapes Go.ChangeAt Go.RowKit
theorem cells3' : Tryz.prog.cellsOf 3 = 1 := by kernel_rfl
theorem cellsPair : Tryz.prog.cellsOf 123 = 2 := by kernel_rfl
theorem cellsSB : Tryz.prog.cellsOf 124 = 12 := by kernel_rfl
set_option maxRecDepth 100000 in
theorem cells_pair {H : Type} {enc : TypeId × Value → H} {w : World} {base : Nat} {sp : Nat → Bool} {held : Bool} {fuel : Nat} {cs : List Value} {p : List MemPlace} {a b : Int}
    (h : DataW.trod enc Tryz.prog w base sp held fuel 123 cs = some (.agg [.lit (.int .i64 a), .lit (.int .i64 b)], p)) : cs = [.int .i64 a, .int .i64 b] := by
  obtain ⟨y0, y1, n, hx, hl, t0, t1⟩ := trod_struct2 Tryz.underlying123 h
  obtain ⟨z0, e0, hy0, _⟩ := DataW.trod_int Tryz.underlying3 t0
  obtain ⟨z1, e1, hy1, _⟩ := DataW.trod_int Tryz.underlying3 t1
  rw [cellsPair] at hl
  subst hy0 hy1
  simp only [cells3'] at e0 e1
  match cs, hl with
  | [c0, c1], _ =>
    simp at e0 e1 hx
    subst e0 e1
    rw [hx.1.1, hx.1.2]
set_option maxRecDepth 100000 in
theorem pairs_all {zs : List (Int × Int)} {cs : List Value} (hz : zs.length = 6) (hl : cs.length = 12) (chunk : ∀ i, i < 6 → ∃ z, zs[i]? = some z ∧ (cs.drop (i * 2)).take 2 = [.int .i64 z.1, .int .i64 z.2]) : cs = zs.flatMap fun z => [.int .i64 z.1, .int .i64 z.2] := by
  match zs, hz, cs, hl, chunk with
  | [z0, z1, z2, z3, z4, z5], _, [c0, c1, c2, c3, c4, c5, c6, c7, c8, c9, c10, c11], _, chunk =>
    have k0 := chunk 0 (by omega)
    have k1 := chunk 1 (by omega)
    have k2 := chunk 2 (by omega)
    have k3 := chunk 3 (by omega)
    have k4 := chunk 4 (by omega)
    have k5 := chunk 5 (by omega)
    simp at k0 k1 k2 k3 k4 k5
    simp [k0, k1, k2, k3, k4, k5]
theorem cells_sb {H : Type} {enc : TypeId × Value → H} {w : World} {base : Nat} {sp : Nat → Bool} {held : Bool} {fuel : Nat} {cs : List Value} {p : List MemPlace} {zs : List (Int × Int)} (hz : zs.length = 6)
    (h : DataW.trod enc Tryz.prog w base sp held fuel 124 cs = some (.agg (zs.map fun z => .agg [.lit (.int .i64 z.1), .lit (.int .i64 z.2)]), p)) : cs = zs.flatMap fun z => [.int .i64 z.1, .int .i64 z.2] := by
  cases fuel with
  | zero => simp [DataW.trod] at h
  | succ fuel =>
    simp only [DataW.trod, Tryz.underlying124, cellsPair, cellsSB] at h
    split at h
    · rename_i hl
      obtain ⟨xs, hm, hx⟩ := Option.map_eq_some_iff.1 h
      have hxs : xs.map (·.1) = zs.map fun z => (DataW.agg [.lit (.int .i64 z.1), .lit (.int .i64 z.2)] : DataW H) := by
        have := congrArg Prod.fst hx
        simpa using this
      refine pairs_all hz hl (fun i hi => ?_)
      obtain ⟨b, hb, hf⟩ := Lib.mapM_at hm i i (by simp [hi])
      have h2 : (xs.map (·.1))[i]? = some b.1 := by simp [hb]
      rw [hxs, List.getElem?_map, List.getElem?_eq_getElem (by omega)] at h2
      have h3 := Option.some.inj h2
      obtain ⟨b1, b2⟩ := b
      simp only at h3
      subst h3
      exact ⟨_, List.getElem?_eq_getElem (by omega), cells_pair hf⟩
    · cases h
end Go.Proofs.YtjkdmhdehihcbaaGreatDoor

namespace Go.Proofs.YtjkdmhdehihcbaaGreatDoor
open Go.ChangeShapes Go.WideShapes Go.ChangeAt Go.RowKit
theorem cells9' : Tryz.prog.cellsOf 9 = 1 := by kernel_rfl
theorem cellsForm : Tryz.prog.cellsOf 125 = 2 := by kernel_rfl
theorem cellsSF : Tryz.prog.cellsOf 126 = 12 := by kernel_rfl
set_option maxRecDepth 100000 in
theorem cells_form {H : Type} {enc : TypeId × Value → H} {w : World} {base : Nat} {sp : Nat → Bool} {held : Bool} {fuel : Nat} {cs : List Value} {p : List MemPlace} {a : List UInt8} {b : Int}
    (h : DataW.trod enc Tryz.prog w base sp held fuel 125 cs = some (.agg [.lit (.string a), .lit (.int .i64 b)], p)) : cs = [.string ⟨a.toArray⟩, .int .i64 b] := by
  obtain ⟨y0, y1, n, hx, hl, t0, t1⟩ := trod_struct2 Tryz.underlying125 h
  obtain ⟨s, e0, hy0, _⟩ := DataW.trod_string Tryz.underlying9 t0
  obtain ⟨z1, e1, hy1, _⟩ := DataW.trod_int Tryz.underlying3 t1
  rw [cellsForm] at hl
  subst hy0 hy1
  simp only [cells3', cells9'] at e0 e1
  simp only [Prod.mk.injEq, DataW.agg.injEq, List.cons.injEq, DataW.lit.injEq, Lit.int.injEq, Lit.string.injEq, true_and, and_true] at hx
  obtain ⟨⟨g0, g1⟩, _⟩ := hx
  match cs, hl with
  | [c0, c1], _ =>
    simp at e0 e1
    have hs : s = ⟨a.toArray⟩ := by
      obtain ⟨⟨l⟩⟩ := s
      have g1' : a = l := g0
      rw [← g1']
    rw [e0, e1, ← g1, hs]
set_option maxRecDepth 100000 in
theorem forms_all {zs : List (List UInt8 × Int)} {cs : List Value} (hz : zs.length = 6) (hl : cs.length = 12) (chunk : ∀ i, i < 6 → ∃ z, zs[i]? = some z ∧ (cs.drop (i * 2)).take 2 = [.string ⟨z.1.toArray⟩, .int .i64 z.2]) : cs = zs.flatMap fun z => [.string ⟨z.1.toArray⟩, .int .i64 z.2] := by
  match zs, hz, cs, hl, chunk with
  | [z0, z1, z2, z3, z4, z5], _, [c0, c1, c2, c3, c4, c5, c6, c7, c8, c9, c10, c11], _, chunk =>
    have k0 := chunk 0 (by omega)
    have k1 := chunk 1 (by omega)
    have k2 := chunk 2 (by omega)
    have k3 := chunk 3 (by omega)
    have k4 := chunk 4 (by omega)
    have k5 := chunk 5 (by omega)
    simp at k0 k1 k2 k3 k4 k5
    simp [k0, k1, k2, k3, k4, k5]
theorem cells_sf {H : Type} {enc : TypeId × Value → H} {w : World} {base : Nat} {sp : Nat → Bool} {held : Bool} {fuel : Nat} {cs : List Value} {p : List MemPlace} {zs : List (List UInt8 × Int)} (hz : zs.length = 6)
    (h : DataW.trod enc Tryz.prog w base sp held fuel 126 cs = some (.agg (zs.map fun z => .agg [.lit (.string z.1), .lit (.int .i64 z.2)]), p)) : cs = zs.flatMap fun z => [.string ⟨z.1.toArray⟩, .int .i64 z.2] := by
  cases fuel with
  | zero => simp [DataW.trod] at h
  | succ fuel =>
    simp only [DataW.trod, Tryz.underlying126, cellsForm, cellsSF] at h
    split at h
    · rename_i hl
      obtain ⟨xs, hm, hx⟩ := Option.map_eq_some_iff.1 h
      have hxs : xs.map (·.1) = zs.map fun z => (DataW.agg [.lit (.string z.1), .lit (.int .i64 z.2)] : DataW H) := by
        have := congrArg Prod.fst hx
        simpa using this
      refine forms_all hz hl (fun i hi => ?_)
      obtain ⟨b, hb, hf⟩ := Lib.mapM_at hm i i (by simp [hi])
      have h2 : (xs.map (·.1))[i]? = some b.1 := by simp [hb]
      rw [hxs, List.getElem?_map, List.getElem?_eq_getElem (by omega)] at h2
      have h3 := Option.some.inj h2
      obtain ⟨b1, b2⟩ := b
      simp only at h3
      subst h3
      exact ⟨_, List.getElem?_eq_getElem (by omega), cells_form hf⟩
    · cases h
end Go.Proofs.YtjkdmhdehihcbaaGreatDoor
