/- From what the arguments read as to the words of the walks: a slice of updates. -/
import Derived.Test.YtpgdpachomdfhaaUpL
import Derived.Test.YtpgdpachomdfhaaOpenA
namespace Go.Proofs.Ytpgdpachomdfhaa
open Go.ChangeShapes Go.WideShapes Go.ChangeAt Go.RowKit Go.Joins

theorem cellsUp : Try.prog.cellsOf 52 = 2 := by kernel_rfl

section

variable {H : Type} {enc : TypeId × Value → H} {W : World} {sp : Nat → Bool} {held : Bool} {fuel : Nat} {v : Value} {y : DataW H × List MemPlace}

set_option maxRecDepth 100000 in
theorem open_RdU (h : DataW.trod enc Try.prog W 0 sp held fuel 26 [v] = some y) : ∃ ps : List Se, RdE W v ps ∧ ps.length ≤ maxLen ∧ ∀ p ∈ ps, (Lit.int .i64 p.at_).wf = true ∧ (Lit.int .i64 p.val).wf = true := by
  rcases Deep.open_slice Try.underlying26 h with ⟨hcs, _⟩ | ⟨a, len, cap, m, n, D, Pl, hcs, _, hl, hm, hmm, _, hel⟩
  · simp only [List.cons.injEq, and_true] at hcs
    subst hcs
    exact ⟨[], ⟨rfl, none, 0, rfl, ⟨Nat.le_refl _, fun _ => rfl⟩, fun h => absurd h (by simp)⟩, by simp, fun p hp => by simp at hp⟩
  · simp only [List.cons.injEq, and_true] at hcs
    subst hcs
    have hlm : len ≤ m := by rw [hmm]; split <;> omega
    have one : ∀ i, i < len → ∃ s : Se, (W.cell? ((a.add (i * 2)).add 0) = some (.int .i64 s.at_) ∧ W.cell? ((a.add (i * 2)).add 1) = some (.int .i64 s.val) ) ∧ (Lit.int .i64 s.at_).wf = true ∧ (Lit.int .i64 s.val).wf = true := by
      intro i hi
      obtain ⟨cs, hcs, ht⟩ := hel i (by omega)
      rw [cellsUp] at hcs
      obtain ⟨_, hlen, hc⟩ := World.cells?_some hcs
      obtain ⟨y0, y1, n', _, _, t0, t1⟩ := ChangeShapes.trod_struct2 Try.underlying52 ht
      obtain ⟨z0, e0, _, w0⟩ := DataW.trod_int Try.underlying3 t0
      obtain ⟨z1, e1, _, w1⟩ := DataW.trod_int Try.underlying3 t1
      simp only [cells3] at e0 e1
      match cs, hlen with
      | [c0, c1], _ =>
        simp at e0 e1
        subst e0 e1
        exact ⟨⟨z0, z1⟩, ⟨by simpa using hc 0 (by omega), by simpa using hc 1 (by omega)⟩, w0, w1⟩
    obtain ⟨ps, hpl, hps⟩ := exists_list len one
    refine ⟨ps, ⟨ses_len ps, some a, cap, by rw [hpl], ⟨by rw [hpl]; exact hl, fun e => by cases e⟩, fun hn => ?_⟩, by rw [hpl]; omega, fun p hp => ?_⟩
    · obtain ⟨b, off, spot⟩ := a
      have hc := (hps 0 hn).1.1
      have hspot : spot = none := by simpa [Addr.add] using World.cell?_spot hc
      subst hspot
      refine ⟨b, off, rfl, World.block_lt_of_cell? W _ (by simpa [Addr.add] using hc), fun j hj => ?_⟩
      have hk : j / 2 < ps.length := by omega
      obtain ⟨⟨q0, q1⟩, _⟩ := hps (j / 2) hk
      simp only [Addr.add_lit, Nat.add_zero] at q0 q1
      have hj3 : j = j / 2 * 2 + j % 2 := by omega
      rcases (show j % 2 = 0 ∨ j % 2 = 1 from by omega) with r | r
      · rw [hj3, r, Nat.add_zero, q0, ses_at0 ps _ hk]
      · rw [hj3, r, ← Nat.add_assoc, q1, ses_at1 ps _ hk]
    · obtain ⟨i, hi, rfl⟩ := List.getElem_of_mem hp
      exact (hps i hi).2

end

end Go.Proofs.Ytpgdpachomdfhaa
