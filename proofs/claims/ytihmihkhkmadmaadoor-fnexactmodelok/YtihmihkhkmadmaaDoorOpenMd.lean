/- From what the arguments read as to the words of the walks: things, models. -/
import Derived.Test.YtihmihkhkmadmaaDoorMdA
import Derived.Test.YtihmihkhkmadmaaDoorOpenI
namespace Go.Proofs.YtihmihkhkmadmaaDoor
open Go.ChangeShapes Go.WideShapes Go.ChangeAt Go.RowKit Go.Joins
theorem cellsTh : Tryd.prog.cellsOf 87 = 3 := by kernel_rfl
theorem cellsMd : Tryd.prog.cellsOf 33 = 2 := by kernel_rfl
theorem cellsIs : Tryd.prog.cellsOf 40 = 1 := by kernel_rfl
def Th.R (t : Th) : Prop := (Lit.int .i64 t.kind).wf = true ∧ (Lit.int .i64 t.links).wf = true ∧ ∀ z ∈ t.pages, (Lit.int .i64 z).wf = true
section
variable {H : Type} {enc : TypeId × Value → H} {W : World} {sp : Nat → Bool} {held : Bool} {fuel : Nat} {v : Value} {y : DataW H × List MemPlace}
set_option maxRecDepth 100000 in
theorem open_thC {cs : List Value} (h : DataW.trod enc Tryd.prog W 0 sp held fuel 87 cs = some y) : ∃ u : Th × Value, cs = thc u ∧ RdI W u.2 u.1.pages ∧ u.1.pages.length ≤ maxLen ∧ u.1.R := by
  obtain ⟨y0, y1, y2, n, _, hl, t0, t1, t2⟩ := Deep.trod_struct3 Tryd.underlying87 h
  obtain ⟨z0, e0, _, w0⟩ := DataW.trod_int Tryd.underlying3 t0
  obtain ⟨z1, e1, _, w1⟩ := DataW.trod_int Tryd.underlying3 t1
  rw [cellsTh] at hl
  simp only [cells3, cellsIs] at e0 e1 t2
  match cs, hl with
  | [c0, c1, c2], _ =>
    simp at e0 e1 t2
    subst e0 e1
    obtain ⟨zs, a1, a2, a3⟩ := open_RdI t2
    exact ⟨(⟨z0, z1, zs⟩, c2), rfl, a1, a2, w0, w1, a3⟩
set_option maxRecDepth 100000 in
theorem open_RdTh (h : DataW.trod enc Tryd.prog W 0 sp held fuel 30 [v] = some y) : ∃ ts : List Th, RdTh W v ts ∧ ts.length ≤ maxLen ∧ (∀ k (h : k < ts.length), ts[k].pages.length ≤ maxLen) ∧ ∀ k (h : k < ts.length), ts[k].R := by
  rcases Deep.open_slice Tryd.underlying30 h with ⟨hcs, _⟩ | ⟨a, len, cap, m, n, D, Pl, hcs, _, hl, hm, hmm, _, hel⟩
  · simp only [List.cons.injEq, and_true] at hcs
    subst hcs
    exact ⟨[], ⟨[], rfl, ⟨rfl, none, 0, rfl, ⟨Nat.le_refl _, fun _ => rfl⟩, fun h => absurd h (by simp)⟩, fun k hk => absurd hk (by simp)⟩, by simp, fun k hk => absurd hk (by simp), fun k hk => absurd hk (by simp)⟩
  · simp only [List.cons.injEq, and_true] at hcs
    subst hcs
    have hlm : len ≤ m := by rw [hmm]; split <;> omega
    have one : ∀ i, i < len → ∃ u : Th × Value, (∀ j, j < 3 → W.cell? ((a.add (i * 3)).add j) = (thc u)[j]?) ∧ RdI W u.2 u.1.pages ∧ u.1.pages.length ≤ maxLen ∧ u.1.R := by
      intro i hi
      obtain ⟨cs, hcs, ht⟩ := hel i (by omega)
      rw [cellsTh] at hcs
      obtain ⟨_, hlen, hc⟩ := World.cells?_some hcs
      obtain ⟨x, rfl, hR⟩ := open_thC ht
      exact ⟨x, fun j hj => by rw [hc j hj, List.getElem?_eq_getElem (by rw [hlen]; exact hj)], hR⟩
    obtain ⟨us, hpl, hps⟩ := exists_list len one
    have ML : (us.map Prod.fst).length = us.length := List.length_map ..
    refine ⟨us.map Prod.fst, ⟨us, rfl, ⟨thv_len us, some a, cap, by rw [hpl], ⟨by rw [hpl]; exact hl, fun e => by cases e⟩, fun hn => ?_⟩, fun k hk => (hps k hk).2.1⟩, by rw [ML, hpl]; omega, fun k hk => ?_, fun k hk => ?_⟩
    · obtain ⟨b, off, spot⟩ := a
      have hc := (hps 0 hn).1 0 (by omega)
      have hc' : W.cell? ((({ block := b, off := off, spot := spot } : Addr).add (0 * 3)).add 0) = some (.int .i64 us[0].1.kind) := hc
      have hspot : spot = none := by simpa [Addr.add] using World.cell?_spot hc'
      subst hspot
      refine ⟨b, off, rfl, World.block_lt_of_cell? W _ (by simpa [Addr.add] using hc'), fun j hj => ?_⟩
      have hk : j / 3 < us.length := by omega
      have q := (hps (j / 3) hk).1 (j % 3) (by omega)
      simp only [Addr.add_lit] at q
      have hj3 : j = j / 3 * 3 + j % 3 := by omega
      have e1 : off + j = off + j / 3 * 3 + j % 3 := by omega
      have e2 : (thv us)[j / 3 * 3 + j % 3]? = (thc us[j / 3])[j % 3]? := (flatMap_at _ 3 thc_len us (j / 3) (j % 3) hk (by omega))
      rw [← hj3] at e2
      rw [e1, q]
      exact e2.symm
    · rw [ML] at hk
      rw [List.getElem_map]
      exact (hps k hk).2.2.1
    · rw [ML] at hk
      rw [List.getElem_map]
      exact (hps k hk).2.2.2
end
section
variable {H : Type} {enc : TypeId × Value → H} {W : World} {sp : Nat → Bool} {held : Bool} {r : Reach} {b0 : Nat} {v : Value} {d : DataW H} {p : List MemPlace}
set_option maxRecDepth 100000 in
theorem open_md (hv : Value.okWide Tryd.prog W r b0 33 v) (h : DataW.Trod enc Tryd.prog W 0 sp held 33 v d p) :
    ∃ (ts : List Th) (ps : List Den), RdMd W v ts ps ∧ ts.length ≤ maxLen ∧ ps.length ≤ maxLen ∧ (∀ k (h : k < ts.length), ts[k].pages.length ≤ maxLen) ∧ (∀ k (h : k < ts.length), ts[k].R) ∧ ∀ k (h : k < ps.length), ps[k].name.size ≤ maxLen := by
  obtain ⟨v0, v1, y0, y1, n, rfl, _, _, h0, h1⟩ := open_agg2 Tryd.underlying33 (by kernel_rfl) cellsMd hv h
  obtain ⟨ts, a1, a2, a3, a4⟩ := open_RdTh h0
  obtain ⟨ps, b1, b2, b3⟩ := open_RdD h1
  exact ⟨ts, ps, ⟨_, _, rfl, a1, b1⟩, a2, b2, a3, a4, b3⟩
end
end Go.Proofs.YtihmihkhkmadmaaDoor
