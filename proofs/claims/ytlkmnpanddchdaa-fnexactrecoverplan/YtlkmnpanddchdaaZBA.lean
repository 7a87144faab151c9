/- Several texts laid together: Open, SeenM, MemM. -/
import Derived.Test.YtlkmnpanddchdaaPm
import Derived.Test.YtlkmnpanddchdaaZAZ
import Derived.Test.YtlkmnpanddchdaaZAQ
namespace Go.Proofs.Ytlkmnpanddchdaa
open Go.ChangeShapes Go.WideShapes Go.ChangeAt Go.RowKit Go.Joins

theorem cellsStore : Try.prog.cellsOf 95 = 3 := by kernel_rfl
theorem cellsPm : Try.prog.cellsOf 25 = 2 := by kernel_rfl

section

variable {H : Type} {enc : TypeId × Value → H} {W : World} {sp : Nat → Bool} {held : Bool} {fuel : Nat} {v : Value} {y : DataW H × List MemPlace}

set_option maxRecDepth 100000 in
theorem open_RdS (h : DataW.trod enc Try.prog W 0 sp held fuel 23 [v] = some y) : ∃ ps : List St, RdS W v ps ∧ ps.length ≤ maxLen ∧ ∀ p ∈ ps, (Lit.int .i64 p.at_).wf = true ∧ (Lit.int .i64 p.val).wf = true := by
  rcases Deep.open_slice Try.underlying23 h with ⟨hcs, _⟩ | ⟨a, len, cap, m, n, D, Pl, hcs, _, hl, hm, hmm, _, hel⟩
  · simp only [List.cons.injEq, and_true] at hcs
    subst hcs
    exact ⟨[], ⟨rfl, none, 0, rfl, ⟨Nat.le_refl _, fun _ => rfl⟩, fun h => absurd h (by simp)⟩, by simp, fun p hp => by simp at hp⟩
  · simp only [List.cons.injEq, and_true] at hcs
    subst hcs
    have hlm : len ≤ m := by rw [hmm]; split <;> omega
    have one : ∀ i, i < len → ∃ s : St, (W.cell? ((a.add (i * 3)).add 0) = some (.int .i64 s.at_) ∧ W.cell? ((a.add (i * 3)).add 1) = some (.int .i64 s.val) ∧ W.cell? ((a.add (i * 3)).add 2) = some (.bool s.fl)) ∧ (Lit.int .i64 s.at_).wf = true ∧ (Lit.int .i64 s.val).wf = true := by
      intro i hi
      obtain ⟨cs, hcs, ht⟩ := hel i (by omega)
      rw [cellsStore] at hcs
      obtain ⟨_, hlen, hc⟩ := World.cells?_some hcs
      obtain ⟨y0, y1, y2, n', _, _, t0, t1, t2⟩ := Deep.trod_struct3 Try.underlying95 ht
      obtain ⟨z0, e0, _, w0⟩ := DataW.trod_int Try.underlying3 t0
      obtain ⟨z1, e1, _, w1⟩ := DataW.trod_int Try.underlying3 t1
      obtain ⟨z2, e2, _⟩ := DataW.trod_bool Try.underlying4 t2
      simp only [cells3, cells4] at e0 e1 e2
      match cs, hlen with
      | [c0, c1, c2], _ =>
        simp at e0 e1 e2
        subst e0 e1 e2
        exact ⟨⟨z0, z1, z2⟩, ⟨by simpa using hc 0 (by omega), by simpa using hc 1 (by omega), by simpa using hc 2 (by omega)⟩, w0, w1⟩
    obtain ⟨ps, hpl, hps⟩ := exists_list len one
    refine ⟨ps, ⟨sts_len ps, some a, cap, by rw [hpl], ⟨by rw [hpl]; exact hl, fun e => by cases e⟩, fun hn => ?_⟩, by rw [hpl]; omega, fun p hp => ?_⟩
    · obtain ⟨b, off, spot⟩ := a
      have hc := (hps 0 hn).1.1
      have hspot : spot = none := by simpa [Addr.add] using World.cell?_spot hc
      subst hspot
      refine ⟨b, off, rfl, World.block_lt_of_cell? W _ (by simpa [Addr.add] using hc), fun j hj => ?_⟩
      have hk : j / 3 < ps.length := by omega
      obtain ⟨⟨q0, q1, q2⟩, _⟩ := hps (j / 3) hk
      simp only [Addr.add_lit, Nat.add_zero] at q0 q1 q2
      have hj3 : j = j / 3 * 3 + j % 3 := by omega
      rcases (show j % 3 = 0 ∨ j % 3 = 1 ∨ j % 3 = 2 from by omega) with r | r | r
      · rw [hj3, r, Nat.add_zero, q0, sts_at0 ps _ hk]
      · rw [hj3, r, ← Nat.add_assoc, q1, sts_at1 ps _ hk]
      · rw [hj3, r, ← Nat.add_assoc, q2, sts_at2 ps _ hk]
    · obtain ⟨i, hi, rfl⟩ := List.getElem_of_mem hp
      exact (hps i hi).2

end

end Go.Proofs.Ytlkmnpanddchdaa

namespace Go.Proofs.Ytlkmnpanddchdaa
open Go.RowKit

/-- Behind the region that draws a place and flushes there. -/
structure CutF (w3 wx : World) (ws : List Int) (ps : List St) (k : Int) (aW aP : Option Addr) (cW cP bx : Nat) : Prop where
  k0 : 0 ≤ k
  k1 : k < 336
  lo : w3.heap.size ≤ bx
  hi : bx < wx.heap.size
  box : wx.heap[bx]? = some (.cells #[.slice aW 336 cW, .slice aP ps.length cP] 37 (0, 0))
  rd : RdPm wx (.agg #[.slice aW 336 cW, .slice aP ps.length cP]) ws (ps.map (fl1 k))
  below : Below w3.heap.size w3 wx
theorem CutF.drew {w3 wx : World} {ws : List Int} {ps : List St} {k : Int} {aW aP : Option Addr} {cW cP bx : Nat} (h : CutF w3 wx ws ps k aW aP cW cP bx) : CutF w3 wx.drew ws ps k aW aP cW cP bx :=
  ⟨h.k0, h.k1, h.lo, h.hi, h.box, h.rd.below ((Below.refl _ _).drew), h.below.drew⟩
end Go.Proofs.Ytlkmnpanddchdaa

namespace Go.Proofs.Ytlkmnpanddchdaa
open Go.RowKit

/-- Behind a region that draws what is kept, and crashes. -/
structure CutC (w0 wx : World) (X : List Int) (aW aP : Option Addr) (cW cP bx : Nat) : Prop where
  lo : w0.heap.size ≤ bx
  hi : bx < wx.heap.size
  box : wx.heap[bx]? = some (.cells #[.slice aW 336 cW, .slice aP 0 cP] 37 (0, 0))
  rd : RdPm wx (.agg #[.slice aW 336 cW, .slice aP 0 cP]) X []
  below : Below w0.heap.size w0 wx
theorem CutC.drew {w0 wx : World} {X : List Int} {aW aP : Option Addr} {cW cP bx : Nat} (h : CutC w0 wx X aW aP cW cP bx) : CutC w0 wx.drew X aW aP cW cP bx :=
  ⟨h.lo, h.hi, h.box, h.rd.below ((Below.refl _ _).drew), h.below.drew⟩
end Go.Proofs.Ytlkmnpanddchdaa
