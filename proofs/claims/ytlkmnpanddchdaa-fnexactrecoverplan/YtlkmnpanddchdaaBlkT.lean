/- The helpers of the laws over devices: held against one another, marked, looked at, counted. -/
import Derived.Test.YtlkmnpanddchdaaBlk
namespace Go.Proofs.Ytlkmnpanddchdaa
open Go.RowKit

set_option maxHeartbeats 2000000 in
theorem eqBlk_same (va vb : Value) (ws : List Int) (ps : List Se) (w : World) (ha : RdBlk w va ws ps) (hb : RdBlk w vb ws ps) (hw : ws.length ≤ 2147483648) (hp : ps.length ≤ 2147483648) :
    Calls Try.prog 24 #[va, vb] w fun e w' => e = .returned (.bool true) ∧ Below w.heap.size w w' := by
  obtain ⟨vW, vP, rfl, h1, h2⟩ := ha
  obtain ⟨uW, uP, rfl, h3, h4⟩ := hb
  obtain ⟨aW, cW, rfl, _⟩ := h1.shape
  obtain ⟨aP, cP, rfl, _⟩ := h2.shape
  obtain ⟨bW, dW, rfl, _⟩ := h3.shape
  obtain ⟨bP, dP, rfl, _⟩ := h4.shape
  have H1 := hideIt h1
  have H2 := hideIt h2
  have H3 := hideIt h3
  have H4 := hideIt h4
  clear h1 h2 h3 h4
  go_enter Try.func24, Try.ntmps24
  go_wp2_with fail
  have hb0 : Below w.heap.size w ((w.alloc (.cells #[.slice aW ws.length cW, .slice aP ps.length cP] 40)).alloc (.cells #[.slice bW ws.length dW, .slice bP ps.length dP] 40)) := by
    repeat (refine Below.alloc ?_ (by simp <;> omega) _)
    exact Below.refl _ _
  refine (eqIntS_same _ _ ws _ (Rd.below H1.out hb0) (Rd.below H3.out hb0) hw).mono ?_
  rintro e w1 ⟨rfl, hb1⟩
  have hz1 : w.heap.size + 2 ≤ w1.heap.size := by have := hb1.size; simp at this; omega
  have V0 := (hb1.block w.heap.size (by simp <;> omega)).trans (at_old (at_new rfl))
  have V1 := (hb1.block (w.heap.size + 1) (by simp <;> omega)).trans (at_new (by simp))
  have B1 := hb0.trans (hb1.mono (by simp <;> omega))
  obtain ⟨x1, x2, _, _⟩ := two_cells V0
  obtain ⟨y1, y2, _, _⟩ := two_cells V1
  clear hb0 hb1 V0 V1
  go_wp2_with fail
  refine (eqSectorS_same _ _ ps _ (Rd.below H2.out B1) (Rd.below H4.out B1) hp).mono ?_
  rintro e w2 ⟨rfl, hb2⟩
  go_wp2
  go_ret
  exact ⟨rfl, B1.trans (hb2.mono (by omega))⟩

set_option maxHeartbeats 2000000 in
theorem markBlk_any (v : Value) (ws : List Int) (ps : List Se) (k0 : Int) (lo hi : Nat) (w : World) (h : RowBlk w lo hi v ws ps) (hi1 : hi ≤ w.heap.size) (hw : ws.length ≤ 2147483648) (hp : ps.length ≤ 2147483648) (h0 : 0 ≤ k0) (h1 : k0 ≤ 1073741824) :
    Calls Try.prog 26 #[v, .int .i64 k0] w fun e w' => e = .returned (.int .i64 (k0 + ws.length + 2 * ps.length)) ∧ RowBlk w' lo hi v (marks k0 ws.length) (marksE (k0 + ws.length) ps.length) ∧ Outside lo hi w w' := by
  obtain ⟨vW, vP, rfl, h1, h2⟩ := h
  obtain ⟨_, aW, cW, rfl, _⟩ := h1.rd
  obtain ⟨_, aP, cP, rfl, _⟩ := h2.rd
  obtain ⟨e1, he1, h1⟩ := h1
  have HE := hideIt he1
  have H1 := hideIt h1
  have H2 := hideIt h2
  clear h1 h2 he1
  go_enter Try.func26, Try.ntmps26
  go_wp2_with fail
  have hb0 : Below w.heap.size w (w.alloc (.cells #[.slice aW ws.length cW, .slice aP ps.length cP] 40)) := (Below.refl _ _).alloc (Nat.le_refl _) _
  refine (markIntS_any _ _ (ints ws) k0 lo hi _ (H1.out.below hb0 hi1) (fun u hu => by simp only [ints, List.mem_map] at hu; obtain ⟨z, _, rfl⟩ := hu; exact ⟨z, rfl⟩) hw h0 (by omega)).mono ?_
  rintro e w1 ⟨rfl, hr1, hg1, hz1⟩
  simp only [World.size_alloc] at hz1
  have ho1 := Row.grown_outside H1.out hg1
  have V0 := (ho1.block w.heap.size (by simp) (.inr hi1)).trans (at_new rfl)
  obtain ⟨x1, x2, _, _⟩ := two_cells V0
  have O1 := hideIt ((Outside.of_below (lo := lo) (hi := hi) hb0).trans ho1)
  have R1 := hideIt hr1
  have R2 := hideIt ((H2.out.below hb0 hi1).apart (H1.out.below hb0 hi1) (Ne.symm HE.out) hg1)
  clear hr1 hg1 ho1 V0
  go_wp2_with fail
  refine (markSectorS_any _ _ (ses ps) (k0 + ws.length) lo hi _ R2.out (isSes ps) hp (by omega) (by omega)).mono ?_
  rintro e w2 ⟨rfl, hr2, hg2, hz2⟩
  have O2 := hideIt (O1.out.trans (Row.grown_outside R2.out hg2))
  have R3 := hideIt (R1.out.apart R2.out HE.out hg2)
  have R4 := hideIt hr2
  clear hr2 hg2
  go_wp2
  go_ret
  refine ⟨rfl, ⟨_, _, rfl, ?_, ?_⟩, O2.out⟩
  · rw [marks_len]; exact ⟨e1, HE.out, R3.out⟩
  · rw [marksE_len]; exact R4.out

end Go.Proofs.Ytlkmnpanddchdaa
