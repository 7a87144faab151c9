/- Several texts laid together: OpenB, OpenD. -/
import Derived.Test.YtgnfbiohjdepcaaGreatDoorZAZ
import Derived.Test.YtgnfbiohjdepcaaGreatDoorZAX
import Derived.Test.YtgnfbiohjdepcaaGreatDoorDev
namespace Go.Proofs.YtgnfbiohjdepcaaGreatDoor
open Go.ChangeShapes Go.WideShapes Go.ChangeAt Go.RowKit Go.Joins
theorem cellsSec : Tryz.prog.cellsOf 140 = 2 := by kernel_rfl
theorem cellsBlk : Tryz.prog.cellsOf 28 = 2 := by kernel_rfl
section
variable {H : Type} {enc : TypeId × Value → H} {W : World} {sp : Nat → Bool} {held : Bool} {fuel : Nat} {v : Value} {y : DataW H × List MemPlace}
set_option maxRecDepth 100000 in
theorem open_RdE (h : DataW.trod enc Tryz.prog W 0 sp held fuel 26 [v] = some y) : ∃ ps : List Se, RdE W v ps ∧ ps.length ≤ maxLen ∧ ∀ p ∈ ps, (Lit.int .i64 p.at_).wf = true ∧ (Lit.int .i64 p.val).wf = true := by
  rcases Deep.open_slice Tryz.underlying26 h with ⟨hcs, _⟩ | ⟨a, len, cap, m, n, D, Pl, hcs, _, hl, hm, hmm, _, hel⟩
  · simp only [List.cons.injEq, and_true] at hcs
    subst hcs
    exact ⟨[], ⟨rfl, none, 0, rfl, ⟨Nat.le_refl _, fun _ => rfl⟩, fun h => absurd h (by simp)⟩, by simp, fun p hp => by simp at hp⟩
  · simp only [List.cons.injEq, and_true] at hcs
    subst hcs
    have hlm : len ≤ m := by rw [hmm]; split <;> omega
    have one : ∀ i, i < len → ∃ s : Se, (W.cell? ((a.add (i * 2)).add 0) = some (.int .i64 s.at_) ∧ W.cell? ((a.add (i * 2)).add 1) = some (.int .i64 s.val) ) ∧ (Lit.int .i64 s.at_).wf = true ∧ (Lit.int .i64 s.val).wf = true := by
      intro i hi
      obtain ⟨cs, hcs, ht⟩ := hel i (by omega)
      rw [cellsSec] at hcs
      obtain ⟨_, hlen, hc⟩ := World.cells?_some hcs
      obtain ⟨y0, y1, n', _, _, t0, t1⟩ := ChangeShapes.trod_struct2 Tryz.underlying140 ht
      obtain ⟨z0, e0, _, w0⟩ := DataW.trod_int Tryz.underlying3 t0
      obtain ⟨z1, e1, _, w1⟩ := DataW.trod_int Tryz.underlying3 t1
      simp only [cells3] at e0 e1
      match cs, hlen with
      | [c0, c1], _ =>
        simp at e0 e1
        subst e0 e1
        exact ⟨⟨z0, z1⟩, ⟨by simpa using hc 0 (by omega), by simpa using hc 1 (by omega)⟩, w0, w1⟩
    obtain ⟨ps, hpl, hps⟩ := exists_list len one
    refine ⟨ps, ⟨ses_len ps, some a, cap, by rw [hpl], ⟨by rw [hpl]; exact hl, fun e => by cases e⟩, fun hn => ?_⟩, by rw [hpl]; omega, fun p hp => ?_⟩
    · obtain ⟨b, off, spot⟩ := a
      have hc := (hps 0 hn).1.1
      have hspot : spot = none := by simpa [Addr.add] using World.cell?_spot hc
      subst hspot
      refine ⟨b, off, rfl, World.block_lt_of_cell? W _ (by simpa [Addr.add] using hc), fun j hj => ?_⟩
      have hk : j / 2 < ps.length := by omega
      obtain ⟨⟨q0, q1⟩, _⟩ := hps (j / 2) hk
      simp only [Addr.add_lit, Nat.add_zero] at q0 q1
      have hj3 : j = j / 2 * 2 + j % 2 := by omega
      rcases (show j % 2 = 0 ∨ j % 2 = 1 from by omega) with r | r
      · rw [hj3, r, Nat.add_zero, q0, ses_at0 ps _ hk]
      · rw [hj3, r, ← Nat.add_assoc, q1, ses_at1 ps _ hk]
    · obtain ⟨i, hi, rfl⟩ := List.getElem_of_mem hp
      exact (hps i hi).2
end
end Go.Proofs.YtgnfbiohjdepcaaGreatDoor

namespace Go.Proofs.YtgnfbiohjdepcaaGreatDoor
open Go.ChangeShapes Go.WideShapes Go.ChangeAt Go.RowKit Go.Joins
theorem cellsDev : Tryz.prog.cellsOf 30 = 4 := by kernel_rfl
theorem array4 {cs : Array Value} (h : cs.size = 4) : ∃ a b c d, cs = #[a, b, c, d] := by
  obtain ⟨l⟩ := cs
  match l, h with
  | [a, b, c, d], _ => exact ⟨a, b, c, d, rfl⟩
set_option maxRecDepth 100000 in
theorem open_dev {H : Type} {enc : TypeId × Value → H} {W : World} {sp : Nat → Bool} {held : Bool} {r : Reach} {b0 : Nat} {v : Value} {d : DataW H} {p : List MemPlace}
    (hv : Value.okWide Tryz.prog W r b0 30 v) (h : DataW.Trod enc Tryz.prog W 0 sp held 30 v d p) :
    ∃ (ws : List Int) (ps : List St) (es : List Int) (qs : List Se), RdDev W v ws ps es qs ∧ ws.length ≤ maxLen ∧ ps.length ≤ maxLen ∧ es.length ≤ maxLen ∧ qs.length ≤ maxLen := by
  obtain ⟨cs, rfl, hsz⟩ := okWide_struct Tryz.underlying30 hv
  obtain ⟨c0, c1, c2, c3, rfl⟩ := array4 (hsz.trans cellsDev)
  obtain ⟨fuel, hf⟩ := h
  obtain ⟨y0, y1, n, hx, _, h0, h1⟩ := trod_struct2 Tryz.underlying30 hf
  simp only [cellsPm, cellsBlk] at h0 h1
  obtain ⟨y00, y01, n0, _, _, h00, h01⟩ := trod_struct2 Tryz.underlying25 h0
  obtain ⟨y10, y11, n1, _, _, h10, h11⟩ := trod_struct2 Tryz.underlying28 h1
  have k0 : Tryz.prog.cellsOf 22 = 1 := by kernel_rfl
  have k1 : Tryz.prog.cellsOf 23 = 1 := by kernel_rfl
  have k2 : Tryz.prog.cellsOf 26 = 1 := by kernel_rfl
  simp only [k0, k1, k2] at h00 h01 h10 h11
  obtain ⟨ws, hI0, hwl0, _⟩ := open_RdI (v := c0) (by simpa [Value.cells] using h00)
  obtain ⟨ps, hS0, hpl0, _⟩ := open_RdS (v := c1) (by simpa [Value.cells] using h01)
  obtain ⟨es, hI1, hwl1, _⟩ := open_RdI (v := c2) (by simpa [Value.cells] using h10)
  obtain ⟨qs, hS1, hpl1, _⟩ := open_RdE (v := c3) (by simpa [Value.cells] using h11)
  exact ⟨ws, ps, es, qs, ⟨_, _, _, _, rfl, ⟨_, _, rfl, hI0, hS0⟩, ⟨_, _, rfl, hI1, hS1⟩⟩, hwl0, hpl0, hwl1, hpl1⟩
end Go.Proofs.YtgnfbiohjdepcaaGreatDoor
