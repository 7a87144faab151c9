/- Several texts laid together: OpenA, AtE, SameI. -/
import Derived.Test.YtbjcoeimcdodjaaDoorIntS
import Derived.ProofKit
import Derived.OpenShut
import Derived.ShutString
import Derived.ChangeOld
import Derived.Lib.SmallJoins
import Derived.Deep.Slices
import Derived.Deep.Strs
import Derived.Test.YtbjcoeimcdodjaaDoorDraw
namespace Go.Proofs.YtbjcoeimcdodjaaDoor
open Go.ChangeShapes Go.WideShapes Go.ChangeAt Go.RowKit Go.Joins
theorem own : ownKnob Tryd.prog.godebug = none := by kernel_rfl
theorem laidOut : laidOutB Tryd.prog = true := by kernel_rfl
theorem cells3 : Tryd.prog.cellsOf 3 = 1 := by kernel_rfl
section
variable {H : Type} {enc : TypeId × Value → H} {W : World} {sp : Nat → Bool} {held : Bool} {fuel : Nat} {v : Value} {y : DataW H × List MemPlace}
end
end Go.Proofs.YtbjcoeimcdodjaaDoor

namespace Go.Proofs.YtbjcoeimcdodjaaDoor
open Go.ChangeShapes Go.WideShapes Go.ChangeAt Go.RowKit Go.Joins
theorem Below.drewN'' {B : Nat} {a w : World} (h : Below B a w) (n : Nat) : Below B a (w.drewN n) := by
  induction n with
  | zero => exact h
  | succ n ih => exact ⟨ih.os, ih.tape, ih.output, ih.size, ih.block⟩
def atX (bs : List Int) (i : Int) : Int := bs[(i % (bs.length : Int)).toNat]?.getD 0
def atV (bs : List Int) (i n : Int) : Int := if bs.length = 0 then i * 7 % n else (atX bs i * 31 + atX bs (i + 1) + i / (bs.length : Int)) % n
theorem atV_bd (bs : List Int) (i n : Int) (h : 2 ≤ n) : 0 ≤ atV bs i n ∧ atV bs i n < n := by
  unfold atV
  split
  · exact ⟨Int.emod_nonneg _ (by omega), Int.emod_lt_of_pos _ (by omega)⟩
  · exact ⟨Int.emod_nonneg _ (by omega), Int.emod_lt_of_pos _ (by omega)⟩
set_option maxRecDepth 100000 in
set_option maxHeartbeats 8000000 in
theorem at_exact (v : Value) (bs : List Int) (i n : Int) (w : World) (h : RdB w v bs) (hl : bs.length ≤ 1048576) (h0 : 0 ≤ i) (h1 : i ≤ 9) (hn : 2 ≤ n) (hn2 : n ≤ 100000) :
    Calls Tryd.prog 6 #[v, .int .i64 i, .int .i64 n] w fun e w' => e = .returned (.int .i64 (atV bs i n)) ∧ Below w.heap.size w w' := by
  obtain ⟨aC, cC, rfl, _, hc⟩ := h.shape
  by_cases c : bs.length = 0
  · have c' : ((bs.length : Int) == 0) = true := by simp [c]
    have E := hideIt (show atV bs i n = i * 7 % n by unfold atV; rw [if_pos c])
    clear hc
    go_enter Tryd.func6, Tryd.ntmps6
    go_wp2
    go_ret
    exact ⟨ret_int (by rw [E.out]), Below.refl _ _⟩
  · obtain ⟨b, o, rfl, hb, hc⟩ := hc (by omega)
    have l0 : (0 : Int) < (bs.length : Int) := by omega
    have i0 := Int.emod_nonneg i (b := (bs.length : Int)) (by omega)
    have i1 := Int.emod_lt_of_pos i l0
    have j0 := Int.emod_nonneg (i + 1) (b := (bs.length : Int)) (by omega)
    have j1 := Int.emod_lt_of_pos (i + 1) l0
    have x0 := hc (i % (bs.length : Int)).toNat (by omega)
    have y0 := hc ((i + 1) % (bs.length : Int)).toNat (by omega)
    have bx := h.2 (i % (bs.length : Int)).toNat (by omega)
    have byy := h.2 ((i + 1) % (bs.length : Int)).toNat (by omega)
    have d0 : 0 ≤ i / (bs.length : Int) := Int.ediv_nonneg h0 (by omega)
    have d1 : i / (bs.length : Int) ≤ 9 := Int.le_trans (Int.ediv_le_self _ h0) h1
    have c' : ((bs.length : Int) == 0) = false := by simpa using c
    have ex : atX bs i = bs[(i % (bs.length : Int)).toNat] := by unfold atX; rw [List.getElem?_eq_getElem (by omega)]; rfl
    have ey : atX bs (i + 1) = bs[((i + 1) % (bs.length : Int)).toNat] := by unfold atX; rw [List.getElem?_eq_getElem (by omega)]; rfl
    have E := hideIt (show atV bs i n = (bs[(i % (bs.length : Int)).toNat] * 31 + bs[((i + 1) % (bs.length : Int)).toNat] + i / (bs.length : Int)) % n by unfold atV; rw [if_neg c, ex, ey])
    clear hc ex ey
    generalize bs[(i % (bs.length : Int)).toNat] = x at *
    generalize bs[((i + 1) % (bs.length : Int)).toNat] = y at *
    go_enter Tryd.func6, Tryd.ntmps6
    go_wp2
    go_quiet (fail)
    go_wp2
    go_ret
    exact ⟨ret_int (by rw [E.out]), Below.drewN'' (Below.refl _ _) _⟩
theorem cells5 : Tryd.prog.cellsOf 5 = 1 := by kernel_rfl
section
variable {H : Type} {enc : TypeId × Value → H} {W : World} {sp : Nat → Bool} {held : Bool} {fuel : Nat} {v : Value} {y : DataW H × List MemPlace}
theorem wf_u8 {z : Int} (h : (Lit.int .u8 z).wf = true) : 0 ≤ z ∧ z < 256 := by
  have h1 : IntKind.u8.min ≤ z ∧ z ≤ IntKind.u8.max := by simpa [Lit.wf] using h
  have a : IntKind.u8.min = 0 := by rfl
  have b : IntKind.u8.max = 255 := by rfl
  omega
theorem open_RdB (h : DataW.trod enc Tryd.prog W 0 sp held fuel 22 [v] = some y) : ∃ zs : List Int, RdB W v zs ∧ zs.length ≤ maxLen := by
  rcases open_ints Tryd.underlying22 Tryd.underlying5 cells5 h with ⟨hcs, _⟩ | ⟨a, len, cap, zs, hcs, _, hl, hm, hz, _, hcell, hwz⟩
  · simp only [List.cons.injEq, and_true] at hcs
    subst hcs
    exact ⟨[], ⟨⟨rfl, none, 0, rfl, ⟨Nat.le_refl _, fun _ => rfl⟩, fun h => absurd h (by simp)⟩, fun k hk => by simp at hk⟩, by simp⟩
  · simp only [List.cons.injEq, and_true] at hcs
    subst hcs
    have hzl : len ≤ zs.length := by rw [hz]; split <;> omega
    have e : (zs.take len).length = len := by simp; omega
    refine ⟨zs.take len, ⟨⟨by simp [bys], some a, cap, by rw [e], ⟨by rw [e]; exact hl, fun e => by cases e⟩, fun hn => ?_⟩, fun k hk => wf_u8 (hwz _ (List.mem_of_mem_take (List.getElem_mem hk)))⟩, by rw [e]; omega⟩
    rw [e] at hn
    obtain ⟨b, off, spot⟩ := a
    have hc := hcell 0 (by omega)
    have hspot : spot = none := by simpa [Addr.add] using World.cell?_spot hc
    subst hspot
    refine ⟨b, off, rfl, World.block_lt_of_cell? W _ (by simpa [Addr.add] using hc), fun j hj => ?_⟩
    rw [e] at hj
    have hc := hcell j (by omega)
    rw [Addr.add_lit] at hc
    rw [hc, bys_at _ j (by rw [e]; omega)]
    simp [List.getD, show j < zs.length by omega]
end
end Go.Proofs.YtbjcoeimcdodjaaDoor

namespace Go.Proofs.YtbjcoeimcdodjaaDoor
open Go.RowKit
set_option maxHeartbeats 1000000 in
theorem sameIntsE_same (va vb : Value) (zs : List Int) (w : World) (ha : RdI w va zs) (hb : RdI w vb zs) (hn : zs.length ≤ 2147483648) :
    Calls Tryd.prog 16 #[va, vb] w fun e w' => e = .returned (.bool true) ∧ Below w.heap.size w w' := by
  obtain ⟨ao, cap, rfl, hcap, hc⟩ := ha.shape
  obtain ⟨ao2, cap2, rfl, hcap2, hc2⟩ := hb.shape
  clear ha hb
  go_enter Tryd.func16, Tryd.ntmps16
  go_wp2
  go_loopw [5] (fun i wr => ∃ k : Nat, k ≤ zs.length ∧ i = .int .i64 k ∧ Below w.heap.size w wr) (fun i _ => zs.length - (intOf i).toNat)
  case atStart => exact ⟨0, by omega, rfl, Below.refl _ _⟩
  case round =>
    obtain ⟨k, hk, rfl, hbw⟩ := hrel
    by_cases hlt : k < zs.length
    · obtain ⟨b, o, rfl, hbl, hcell⟩ := hc (by omega)
      obtain ⟨b2, o2, rfl, hbl2, hcell2⟩ := hc2 (by omega)
      have hck : wr.cell? ⟨b, o + k, none⟩ = some (.int .i64 zs[k]) := (hbw.cell (p := ⟨b, o + k, none⟩) hbl).trans (hcell k hlt)
      have hck2 : wr.cell? ⟨b2, o2 + k, none⟩ = some (.int .i64 zs[k]) := (hbw.cell (p := ⟨b2, o2 + k, none⟩) hbl2).trans (hcell2 k hlt)
      have hlt' : (k : Int) < (zs.length : Int) := by omega
      have hge : (0 : Int) ≤ (k : Int) := by omega
      clear hcell hcell2 hc hc2
      go_wp2
      go_quiet (fail)
      go_wp2
      go_roundw
      case rel => exact ⟨k + 1, by omega, by go_num, Below.drewN'' hbw _⟩
      case measure => simp [intOf]; omega
    · go_wp2
      go_ret
      exact ⟨rfl, hbw⟩
end Go.Proofs.YtbjcoeimcdodjaaDoor
