/- Several texts laid together: OpenF, OpenAn. -/
import Derived.Test.YtkchiplcjlgflaaDoorZAP
import Derived.Test.YtkchiplcjlgflaaDoorMem
import Derived.Test.YtkchiplcjlgflaaDoorZAC
import Derived.Test.YtkchiplcjlgflaaDoorZAT
import Derived.Deep.RegionWith
import Derived.Deep.OwnRows
import Derived.Deep.QuietTactic
import Derived.BigQuiet
namespace Go.Proofs.YtkchiplcjlgflaaDoor
open Go.ChangeShapes Go.WideShapes Go.ChangeAt Go.RowKit Go.Joins
section
variable {H : Type} {enc : TypeId × Value → H} {W : World} {sp : Nat → Bool} {held : Bool} {fuel : Nat} {v : Value} {y : DataW H × List MemPlace}
set_option maxRecDepth 100000 in
theorem open_RdT (h : DataW.trod enc Tryd.prog W 0 sp held fuel 24 [v] = some y) : ∃ ss : List ByteArray, RdT W v ss ∧ ss.length ≤ maxLen ∧ ∀ k (hk : k < ss.length), ss[k].size ≤ maxLen := by
  rcases Deep.open_slice Tryd.underlying24 h with ⟨hcs, _⟩ | ⟨a, len, cap, m, n, D, Pl, hcs, _, hl, hm, hmm, _, hel⟩
  · simp only [List.cons.injEq, and_true] at hcs
    subst hcs
    exact ⟨[], ⟨rfl, none, 0, rfl, ⟨Nat.le_refl _, fun _ => rfl⟩, fun h => absurd h (by simp)⟩, by simp, fun k hk => by simp at hk⟩
  · simp only [List.cons.injEq, and_true] at hcs
    subst hcs
    have hlm : len ≤ m := by rw [hmm]; split <;> omega
    have one : ∀ i, i < len → ∃ s : ByteArray, W.cell? (a.add (i * 1)) = some (.string s) ∧ s.size ≤ maxLen := by
      intro i hi
      obtain ⟨cs, hcs, ht⟩ := hel i (by omega)
      rw [cellsT] at hcs
      obtain ⟨_, hlen, hc⟩ := World.cells?_some hcs
      obtain ⟨s, e0, _, w0⟩ := DataW.trod_string Tryd.underlying9 ht
      subst e0
      exact ⟨s, by have := hc 0 (by omega); simpa [Addr.add] using this, by simpa using w0⟩
    obtain ⟨ss, hpl, hps⟩ := exists_list len one
    refine ⟨ss, ⟨by rw [strs_len, Nat.mul_one], some a, cap, by rw [hpl], ⟨by rw [hpl]; exact hl, fun e => by cases e⟩, fun hn => ?_⟩, by rw [hpl]; omega, fun k hk => (hps k hk).2⟩
    obtain ⟨b, off, spot⟩ := a
    have hc := (hps 0 hn).1
    have hspot : spot = none := by simpa [Addr.add] using World.cell?_spot hc
    subst hspot
    refine ⟨b, off, rfl, World.block_lt_of_cell? W _ (by simpa [Addr.add] using hc), fun j hj => ?_⟩
    have hk : j < ss.length := by omega
    have q := (hps j hk).1
    simp only [Addr.add_lit, Nat.mul_one] at q
    rw [q, strs_at ss j hk]
end
theorem cellsAn : Tryd.prog.cellsOf 26 = 3 := by kernel_rfl
end Go.Proofs.YtkchiplcjlgflaaDoor

namespace Go.Proofs.YtkchiplcjlgflaaDoor
open Go.ChangeShapes Go.WideShapes Go.ChangeAt Go.RowKit Go.Joins
set_option maxRecDepth 100000 in
theorem open_ans {H : Type} {enc : TypeId × Value → H} {W : World} {sp : Nat → Bool} {held : Bool} {r : Reach} {b0 : Nat} {v : Value} {d : DataW H} {p : List MemPlace}
    (hv : Value.okWide Tryd.prog W r b0 26 v) (h : DataW.Trod enc Tryd.prog W 0 sp held 26 v d p) :
    ∃ (c y : Int) (vN : Value) (nm : List ByteArray), v = .agg #[.int .i64 c, .int .i64 y, vN] ∧ RdT W vN nm ∧ nm.length ≤ maxLen ∧ ∀ s ∈ nm, s.size ≤ maxLen := by
  obtain ⟨cs, rfl, hsz⟩ := okWide_struct Tryd.underlying26 hv
  obtain ⟨fuel, hf⟩ := h
  obtain ⟨y0, y1, y2, n, _, hl, t0, t1, t2⟩ := Deep.trod_struct3 Tryd.underlying26 hf
  obtain ⟨z0, e0, _, w0⟩ := DataW.trod_int Tryd.underlying3 t0
  obtain ⟨z1, e1, _, w1⟩ := DataW.trod_int Tryd.underlying3 t1
  have kN : Tryd.prog.cellsOf 24 = 1 := by kernel_rfl
  rw [cellsAn] at hl
  rw [kN] at t2
  simp only [cellsN] at e0 e1
  obtain ⟨c0, c1, c2, ec⟩ : ∃ c0 c1 c2, cs.toList = [c0, c1, c2] := by
    revert hl
    simp only [Value.cells]
    generalize cs.toList = l
    intro hl
    match l, hl with
    | [c0, c1, c2], _ => exact ⟨c0, c1, c2, rfl⟩
  simp only [Value.cells] at e0 e1 t2
  rw [ec] at e0 e1 t2
  simp at e0 e1 t2
  obtain ⟨nm, hr, hl2, hs⟩ := open_RdT t2
  refine ⟨z0, z1, c2, nm, ?_, hr, hl2, fun s hm => by obtain ⟨j, hj, rfl⟩ := List.getElem_of_mem hm; exact hs j hj⟩
  cases cs with
  | mk l => simp only at ec; rw [ec, e0, e1]
end Go.Proofs.YtkchiplcjlgflaaDoor
