/- Several texts laid together: At, SeenM. -/
import Derived.Test.YtbjcoeimcdodjaaZAY
import Derived.Test.YtbjcoeimcdodjaaZAL
import Derived.Test.YtbjcoeimcdodjaaZAE
namespace Go.Proofs.Ytbjcoeimcdodjaa
open Go.ChangeShapes Go.WideShapes Go.ChangeAt Go.RowKit Go.Joins
theorem Below.drewN' {B : Nat} {a w : World} (h : Below B a w) (n : Nat) : Below B a (w.drewN n) := by
  induction n with
  | zero => exact h
  | succ n ih => exact ⟨ih.os, ih.tape, ih.output, ih.size, ih.block⟩
set_option maxRecDepth 100000 in
set_option maxHeartbeats 8000000 in
theorem at_any (v : Value) (bs : List Int) (i : Int) (w : World) (h : RdB w v bs) (hl : bs.length ≤ 1048576) (h0 : 0 ≤ i) (h1 : i ≤ 1) :
    Calls Try.prog 7 #[v, .int .i64 i, .int .i64 336] w fun e w' => ∃ r : Int, e = .returned (.int .i64 r) ∧ 0 ≤ r ∧ r < 336 ∧ Below w.heap.size w w' := by
  obtain ⟨aC, cC, rfl, _, hc⟩ := h.shape
  by_cases c : bs.length = 0
  · have c' : ((bs.length : Int) == 0) = true := by simp [c]
    clear hc
    go_enter Try.func7, Try.ntmps7
    go_wp2
    go_ret
    exact ⟨_, rfl, by omega, by omega, Below.refl _ _⟩
  · obtain ⟨b, o, rfl, hb, hc⟩ := hc (by omega)
    have l0 : (0 : Int) < (bs.length : Int) := by omega
    have i0 := Int.emod_nonneg i (b := (bs.length : Int)) (by omega)
    have i1 := Int.emod_lt_of_pos i l0
    have j0 := Int.emod_nonneg (i + 1) (b := (bs.length : Int)) (by omega)
    have j1 := Int.emod_lt_of_pos (i + 1) l0
    have x0 := hc (i % (bs.length : Int)).toNat (by omega)
    have y0 := hc ((i + 1) % (bs.length : Int)).toNat (by omega)
    have bx := h.2 (i % (bs.length : Int)).toNat (by omega)
    have byy := h.2 ((i + 1) % (bs.length : Int)).toNat (by omega)
    have d0 : 0 ≤ i / (bs.length : Int) := Int.ediv_nonneg h0 (by omega)
    have d1 : i / (bs.length : Int) ≤ 1 := Int.le_trans (Int.ediv_le_self _ h0) h1
    have c' : ((bs.length : Int) == 0) = false := by simpa using c
    clear hc
    generalize bs[(i % (bs.length : Int)).toNat] = x at *
    generalize bs[((i + 1) % (bs.length : Int)).toNat] = y at *
    go_enter Try.func7, Try.ntmps7
    go_wp2
    go_quiet (fail)
    go_wp2
    go_ret
    exact ⟨_, rfl, by omega, by omega, Below.drewN' (Below.refl _ _) _⟩
set_option maxHeartbeats 1000000 in
theorem sameInts_same (va vb : Value) (zs : List Int) (w : World) (ha : RdI w va zs) (hb : RdI w vb zs) (hn : zs.length ≤ 2147483648) :
    Calls Try.prog 19 #[va, vb] w fun e w' => e = .returned (.bool true) ∧ Below w.heap.size w w' := by
  obtain ⟨ao, cap, rfl, hcap, hc⟩ := ha.shape
  obtain ⟨ao2, cap2, rfl, hcap2, hc2⟩ := hb.shape
  clear ha hb
  go_enter Try.func19, Try.ntmps19
  go_wp2
  go_loopw [5] (fun i wr => ∃ k : Nat, k ≤ zs.length ∧ i = .int .i64 k ∧ Below w.heap.size w wr) (fun i _ => zs.length - (intOf i).toNat)
  case atStart => exact ⟨0, by omega, rfl, Below.refl _ _⟩
  case round =>
    obtain ⟨k, hk, rfl, hbw⟩ := hrel
    by_cases hlt : k < zs.length
    · obtain ⟨b, o, rfl, hbl, hcell⟩ := hc (by omega)
      obtain ⟨b2, o2, rfl, hbl2, hcell2⟩ := hc2 (by omega)
      have hck : wr.cell? ⟨b, o + k, none⟩ = some (.int .i64 zs[k]) := (hbw.cell (p := ⟨b, o + k, none⟩) hbl).trans (hcell k hlt)
      have hck2 : wr.cell? ⟨b2, o2 + k, none⟩ = some (.int .i64 zs[k]) := (hbw.cell (p := ⟨b2, o2 + k, none⟩) hbl2).trans (hcell2 k hlt)
      have hlt' : (k : Int) < (zs.length : Int) := by omega
      have hge : (0 : Int) ≤ (k : Int) := by omega
      clear hcell hcell2 hc hc2
      go_wp2
      go_quiet (fail)
      go_wp2
      go_roundw
      case rel => exact ⟨k + 1, by omega, by go_num, Below.drewN' hbw _⟩
      case measure => simp [intOf]; omega
    · go_wp2
      go_ret
      exact ⟨rfl, hbw⟩
end Go.Proofs.Ytbjcoeimcdodjaa

namespace Go.Proofs.Ytbjcoeimcdodjaa
open Go.RowKit
theorem below_allocS {a w : World} (h : Below a.heap.size a w) (o : Obj) : Below a.heap.size a (w.alloc o) := h.alloc h.size o
end Go.Proofs.Ytbjcoeimcdodjaa
