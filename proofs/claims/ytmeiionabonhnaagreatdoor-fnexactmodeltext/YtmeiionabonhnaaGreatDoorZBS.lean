/- Several texts laid together: OpenA, OpenI, OpenMd. -/
import Derived.Test.YtmeiionabonhnaaGreatDoorZAC
import Derived.ProofKit
import Derived.OpenShut
import Derived.ShutString
import Derived.ChangeOld
import Derived.Lib.SmallJoins
import Derived.Deep.Slices
import Derived.Deep.Strs
import Derived.Test.YtmeiionabonhnaaGreatDoorZAF
import Derived.Test.YtmeiionabonhnaaGreatDoorZAH
import Derived.Lib.LaidTab
import Derived.Deep.RegionLaw
import Derived.Test.YtmeiionabonhnaaGreatDoorZBG
namespace Go.Proofs.YtmeiionabonhnaaGreatDoor
open Go.ChangeShapes Go.WideShapes Go.ChangeAt Go.RowKit Go.Joins
theorem own : ownKnob Tryz.prog.godebug = none := by kernel_rfl
theorem laidOut : laidOutB Tryz.prog = true := by kernel_rfl
theorem cells3 : Tryz.prog.cellsOf 3 = 1 := by kernel_rfl
theorem exists_list {α : Type} {P : Nat → α → Prop} : ∀ (n : Nat), (∀ i, i < n → ∃ x, P i x) → ∃ l : List α, l.length = n ∧ ∀ i (hi : i < l.length), P i l[i]
  | 0, _ => ⟨[], rfl, fun i hi => absurd hi (by simp)⟩
  | n + 1, h => by
    obtain ⟨l, hl, hp⟩ := exists_list n (fun i hi => h i (by omega))
    obtain ⟨x, hx⟩ := h n (by omega)
    refine ⟨l ++ [x], by simp [hl], fun i hi => ?_⟩
    by_cases e : i < l.length
    · rw [List.getElem_append_left e]; exact hp i e
    · have e' : i = n := by simp at hi; omega
      subst e'
      rw [List.getElem_append_right (by omega)]
      simpa [hl] using hx
section
variable {H : Type} {enc : TypeId × Value → H} {W : World} {sp : Nat → Bool} {held : Bool} {fuel : Nat} {v : Value} {y : DataW H × List MemPlace}
theorem open_RdI (h : DataW.trod enc Tryz.prog W 0 sp held fuel 43 [v] = some y) : ∃ zs : List Int, RdI W v zs ∧ zs.length ≤ maxLen ∧ ∀ z ∈ zs, (Lit.int .i64 z).wf = true := by
  rcases open_ints Tryz.underlying43 Tryz.underlying3 cells3 h with ⟨hcs, _⟩ | ⟨a, len, cap, zs, hcs, _, hl, hm, hz, _, hcell, hwz⟩
  · simp only [List.cons.injEq, and_true] at hcs
    subst hcs
    exact ⟨[], ⟨rfl, none, 0, rfl, ⟨Nat.le_refl _, fun _ => rfl⟩, fun h => absurd h (by simp)⟩, by simp, fun z hz => by simp at hz⟩
  · simp only [List.cons.injEq, and_true] at hcs
    subst hcs
    have hzl : len ≤ zs.length := by rw [hz]; split <;> omega
    have e : (zs.take len).length = len := by simp; omega
    refine ⟨zs.take len, ⟨by simp [ints], some a, cap, by rw [e], ⟨by rw [e]; exact hl, fun e => by cases e⟩, fun hn => ?_⟩, by rw [e]; omega, fun z hz => hwz z (List.mem_of_mem_take hz)⟩
    rw [e] at hn
    obtain ⟨b, off, spot⟩ := a
    have hc := hcell 0 (by omega)
    have hspot : spot = none := by simpa [Addr.add] using World.cell?_spot hc
    subst hspot
    refine ⟨b, off, rfl, World.block_lt_of_cell? W _ (by simpa [Addr.add] using hc), fun j hj => ?_⟩
    rw [e] at hj
    have hc := hcell j (by omega)
    rw [Addr.add_lit] at hc
    rw [hc, ints_at _ j (by rw [e]; omega)]
    simp [List.getD, show j < zs.length by omega]
end
end Go.Proofs.YtmeiionabonhnaaGreatDoor

namespace Go.Proofs.YtmeiionabonhnaaGreatDoor
open Go.ChangeShapes Go.WideShapes Go.ChangeAt Go.RowKit Go.Joins
theorem cells_of_nums {H : Type} {enc : TypeId × Value → H} {P : Program} {w : World} {base : Nat} {sp : Nat → Bool} {held : Bool} {fuel : Nat} {t e : TypeId} {n : Nat} {cs : List Value} {zs : List Int} {p : List MemPlace}
    (ht : P.underlying t = some (.array n e)) (he : P.underlying e = some (.int .i64)) (hce : P.cellsOf e = 1) (hct : P.cellsOf t = n)
    (h : DataW.trod enc P w base sp held fuel t cs = some (.agg (zs.map fun z => .lit (.int .i64 z)), p)) : cs = zs.map (Value.int .i64) := by
  cases fuel with
  | zero => simp [DataW.trod] at h
  | succ fuel =>
    simp only [DataW.trod, ht, hce, hct, Nat.mul_one] at h
    split at h
    · rename_i hl
      obtain ⟨xs, hm, hx⟩ := Option.map_eq_some_iff.1 h
      have hxs : xs.map (·.1) = zs.map fun z => (DataW.lit (.int .i64 z) : DataW H) := by
        have := congrArg Prod.fst hx
        simpa using this
      have hxl : xs.length = n := by simpa using Lib.mapM_length hm
      have hzl : zs.length = n := by
        have := congrArg List.length hxs
        simp at this
        omega
      apply List.ext_getElem?
      intro i
      by_cases hi : i < n
      · obtain ⟨b, hb, hf⟩ := Lib.mapM_at hm i i (by simp [hi])
        obtain ⟨z, hc, rfl, _⟩ := DataW.trod_int he hf
        have h1 : cs[i]? = some (.int .i64 z) := by
          have := congrArg (·[0]?) hc
          simpa [List.getElem?_take, List.getElem?_drop] using this
        have h2 : (xs.map (·.1))[i]? = some (DataW.lit (.int .i64 z) : DataW H) := by simp [hb]
        rw [hxs] at h2
        simp only [List.getElem?_map, Option.map_eq_some_iff, DataW.lit.injEq, Lit.int.injEq] at h2
        obtain ⟨z', hz', e⟩ := h2
        simp [h1, hz', e.2]
      · rw [List.getElem?_eq_none (by omega), List.getElem?_eq_none (by simp; omega)]
    · cases h
theorem cellsIno' : Tryz.prog.cellsOf 150 = 11 := by kernel_rfl
theorem cells8 : Tryz.prog.cellsOf 148 = 8 := by kernel_rfl
theorem cellsDen : Tryz.prog.cellsOf 134 = 3 := by kernel_rfl
theorem cellsDen' : Tryz.prog.cellsOf 140 = 3 := by kernel_rfl
theorem cells9 : Tryz.prog.cellsOf 9 = 1 := by kernel_rfl
section
variable {H : Type} {enc : TypeId × Value → H} {W : World} {base : Nat} {sp : Nat → Bool} {held : Bool} {fuel : Nat} {v : Value} {y : DataW H × List MemPlace}
set_option maxRecDepth 100000 in
theorem open_denC {cs : List Value} (h : DataW.trod enc Tryz.prog W base sp held fuel 134 cs = some y) : ∃ x : Den, cs = x.cells ∧ x.name.size ≤ maxLen ∧ ((Lit.int .i64 x.dir).wf = true ∧ (Lit.int .i64 x.child).wf = true) := by
  obtain ⟨y0, y1, y2, n, _, hl, t0, t1, t2⟩ := Deep.trod_struct3 Tryz.underlying134 h
  obtain ⟨z0, e0, _, w0⟩ := DataW.trod_int Tryz.underlying3 t0
  obtain ⟨s, e1, _, w1⟩ := DataW.trod_string Tryz.underlying9 t1
  obtain ⟨z2, e2, _, w2⟩ := DataW.trod_int Tryz.underlying3 t2
  rw [cellsDen] at hl
  simp only [cells3, cells9] at e0 e1 e2
  match cs, hl with
  | [c0, c1, c2], _ =>
    simp at e0 e1 e2
    subst e0 e1 e2
    exact ⟨⟨z0, s, z2⟩, rfl, by simpa using w1, w0, w2⟩
set_option maxRecDepth 100000 in
theorem open_RdD (h : DataW.trod enc Tryz.prog W 0 sp held fuel 23 [v] = some y) : ∃ ps : List Den, RdD W v ps ∧ ps.length ≤ maxLen ∧ ∀ k (h : k < ps.length), ps[k].name.size ≤ maxLen := by
  rcases Deep.open_slice Tryz.underlying23 h with ⟨hcs, _⟩ | ⟨a, len, cap, m, n, D, Pl, hcs, _, hl, hm, hmm, _, hel⟩
  · simp only [List.cons.injEq, and_true] at hcs
    subst hcs
    exact ⟨[], ⟨rfl, none, 0, rfl, ⟨Nat.le_refl _, fun _ => rfl⟩, fun h => absurd h (by simp)⟩, by simp, fun k hk => absurd hk (by simp)⟩
  · simp only [List.cons.injEq, and_true] at hcs
    subst hcs
    have hlm : len ≤ m := by rw [hmm]; split <;> omega
    have one : ∀ i, i < len → ∃ x : Den, (∀ j, j < 3 → W.cell? ((a.add (i * 3)).add j) = x.cells[j]?) ∧ x.name.size ≤ maxLen := by
      intro i hi
      obtain ⟨cs, hcs, ht⟩ := hel i (by omega)
      rw [cellsDen] at hcs
      obtain ⟨_, hlen, hc⟩ := World.cells?_some hcs
      obtain ⟨x, rfl, hR, _⟩ := open_denC ht
      exact ⟨x, fun j hj => by rw [hc j hj, List.getElem?_eq_getElem (by rw [hlen]; exact hj)], hR⟩
    obtain ⟨ps, hpl, hps⟩ := exists_list len one
    refine ⟨ps, ⟨dens_len ps, some a, cap, by rw [hpl], ⟨by rw [hpl]; exact hl, fun e => by cases e⟩, fun hn => ?_⟩, by rw [hpl]; omega, fun k hk => (hps k hk).2⟩
    obtain ⟨b, off, spot⟩ := a
    have hc := (hps 0 hn).1 0 (by omega)
    have hc' : W.cell? ((({ block := b, off := off, spot := spot } : Addr).add (0 * 3)).add 0) = some (.int .i64 ps[0].dir) := hc
    have hspot : spot = none := by simpa [Addr.add] using World.cell?_spot hc'
    subst hspot
    refine ⟨b, off, rfl, World.block_lt_of_cell? W _ (by simpa [Addr.add] using hc'), fun j hj => ?_⟩
    have hk : j / 3 < ps.length := by omega
    have q := (hps (j / 3) hk).1 (j % 3) (by omega)
    simp only [Addr.add_lit] at q
    have hj3 : j = j / 3 * 3 + j % 3 := by omega
    have e1 : off + j = off + j / 3 * 3 + j % 3 := by omega
    have e2 : (dens ps)[j / 3 * 3 + j % 3]? = ps[j / 3].cells[j % 3]? := (flatMap_at _ 3 Den.cells_len ps (j / 3) (j % 3) hk (by omega)).trans (by rw [List.getElem?_eq_getElem (show j % 3 < ps[j / 3].cells.length by rw [Den.cells_len]; omega)])
    rw [← hj3] at e2
    rw [e1, q]
    exact e2.symm
end
section
variable {H : Type} {enc : TypeId × Value → H} {W : World} {sp : Nat → Bool} {held : Bool} {r : Reach} {b0 : Nat} {v : Value} {d : DataW H} {p : List MemPlace}
end
section
variable {H : Type} {enc : TypeId × Value → H} {w : World} {base : Nat} {sp : Nat → Bool} {held : Bool} {fuel : Nat} {cs : List Value} {p : List MemPlace}
theorem cells_ts (h : DataW.trod enc Tryz.prog w base sp held fuel 332 cs = some (.agg [.lit (.int .i64 1), .lit (.int .i64 24), .lit (.int .i64 32)], p)) : cs = [.int .i64 1, .int .i64 24, .int .i64 32] :=
  cells_of_nums (zs := [1, 24, 32]) Tryz.underlying332 Tryz.underlying3 cells3 (show Tryz.prog.cellsOf 332 = 3 by kernel_rfl) h
set_option maxRecDepth 100000 in
theorem cells_ed (h : DataW.trod enc Tryz.prog w base sp held fuel 150 cs = some (.agg [.lit (.int .i64 2), .lit (.int .i64 0), .lit (.int .i64 1), .agg [.lit (.int .i64 0), .lit (.int .i64 0), .lit (.int .i64 0), .lit (.int .i64 0), .lit (.int .i64 0), .lit (.int .i64 0), .lit (.int .i64 0), .lit (.int .i64 0)]], p)) :
    cs = [.int .i64 2, .int .i64 0, .int .i64 1, .int .i64 0, .int .i64 0, .int .i64 0, .int .i64 0, .int .i64 0, .int .i64 0, .int .i64 0, .int .i64 0] := by
  obtain ⟨y0, y1, y2, y3, n, hx, hl, t0, t1, t2, t3⟩ := trod_struct4 Tryz.underlying150 h
  obtain ⟨z0, e0, hy0, _⟩ := DataW.trod_int Tryz.underlying3 t0
  obtain ⟨z1, e1, hy1, _⟩ := DataW.trod_int Tryz.underlying3 t1
  obtain ⟨z2, e2, hy2, _⟩ := DataW.trod_int Tryz.underlying3 t2
  obtain ⟨y3a, y3b⟩ := y3
  subst hy0 hy1 hy2
  simp only [Prod.mk.injEq, DataW.agg.injEq, List.cons.injEq, DataW.lit.injEq, Lit.int.injEq, true_and, and_true] at hx
  obtain ⟨⟨g0, g1, g2, g3⟩, _⟩ := hx
  subst g3
  have A := cells_of_nums (zs := [0, 0, 0, 0, 0, 0, 0, 0]) Tryz.underlying148 Tryz.underlying3 cells3 cells8 t3
  rw [cellsIno'] at hl
  simp only [cells3, cells8] at e0 e1 e2 A
  match cs, hl with
  | [c0, c1, c2, c3, c4, c5, c6, c7, c8, c9, c10], _ =>
    simp at e0 e1 e2 A
    rw [e0, e1, e2, ← g0, ← g1, ← g2, A.1, A.2.1, A.2.2.1, A.2.2.2.1, A.2.2.2.2.1, A.2.2.2.2.2.1, A.2.2.2.2.2.2.1, A.2.2.2.2.2.2.2]
set_option maxRecDepth 100000 in
theorem cells_fd (h : DataW.trod enc Tryz.prog w base sp held fuel 140 cs = some (.agg [.lit (.int .i64 0), .lit (.string []), .lit (.int .i64 (-1))], p)) : cs = [.int .i64 0, .string ⟨#[]⟩, .int .i64 (-1)] := by
  obtain ⟨y0, y1, y2, n, hx, hl, t0, t1, t2⟩ := Deep.trod_struct3 Tryz.underlying140 h
  obtain ⟨z0, e0, hy0, _⟩ := DataW.trod_int Tryz.underlying3 t0
  obtain ⟨s, e1, hy1, _⟩ := DataW.trod_string Tryz.underlying9 t1
  obtain ⟨z2, e2, hy2, _⟩ := DataW.trod_int Tryz.underlying3 t2
  subst hy0 hy1 hy2
  simp only [Prod.mk.injEq, DataW.agg.injEq, List.cons.injEq, DataW.lit.injEq, Lit.int.injEq, Lit.string.injEq, true_and, and_true] at hx
  obtain ⟨⟨g0, g1, g2⟩, _⟩ := hx
  rw [cellsDen'] at hl
  simp only [cells3, cells9] at e0 e1 e2
  match cs, hl with
  | [c0, c1, c2], _ =>
    simp at e0 e1 e2
    have hs : s = ⟨#[]⟩ := by
      obtain ⟨⟨l⟩⟩ := s
      have g1' : ([] : List UInt8) = l := g1
      rw [← g1']
    rw [e0, e1, e2, ← g0, ← g2, hs]
end
end Go.Proofs.YtmeiionabonhnaaGreatDoor

namespace Go.Proofs.YtmeiionabonhnaaGreatDoor
open Go.ChangeShapes Go.WideShapes Go.ChangeAt Go.RowKit Go.Joins
theorem cellsTh : Tryz.prog.cellsOf 131 = 3 := by kernel_rfl
theorem cellsMd : Tryz.prog.cellsOf 25 = 2 := by kernel_rfl
theorem cellsIs : Tryz.prog.cellsOf 43 = 1 := by kernel_rfl
def Th.R (t : Th) : Prop := (Lit.int .i64 t.kind).wf = true ∧ (Lit.int .i64 t.links).wf = true ∧ ∀ z ∈ t.pages, (Lit.int .i64 z).wf = true
section
variable {H : Type} {enc : TypeId × Value → H} {W : World} {sp : Nat → Bool} {held : Bool} {fuel : Nat} {v : Value} {y : DataW H × List MemPlace}
set_option maxRecDepth 100000 in
theorem open_thC {cs : List Value} (h : DataW.trod enc Tryz.prog W 0 sp held fuel 131 cs = some y) : ∃ u : Th × Value, cs = thc u ∧ RdI W u.2 u.1.pages ∧ u.1.pages.length ≤ maxLen ∧ u.1.R := by
  obtain ⟨y0, y1, y2, n, _, hl, t0, t1, t2⟩ := Deep.trod_struct3 Tryz.underlying131 h
  obtain ⟨z0, e0, _, w0⟩ := DataW.trod_int Tryz.underlying3 t0
  obtain ⟨z1, e1, _, w1⟩ := DataW.trod_int Tryz.underlying3 t1
  rw [cellsTh] at hl
  simp only [cells3, cellsIs] at e0 e1 t2
  match cs, hl with
  | [c0, c1, c2], _ =>
    simp at e0 e1 t2
    subst e0 e1
    obtain ⟨zs, a1, a2, a3⟩ := open_RdI t2
    exact ⟨(⟨z0, z1, zs⟩, c2), rfl, a1, a2, w0, w1, a3⟩
set_option maxRecDepth 100000 in
theorem open_RdTh (h : DataW.trod enc Tryz.prog W 0 sp held fuel 22 [v] = some y) : ∃ ts : List Th, RdTh W v ts ∧ ts.length ≤ maxLen ∧ (∀ k (h : k < ts.length), ts[k].pages.length ≤ maxLen) ∧ ∀ k (h : k < ts.length), ts[k].R := by
  rcases Deep.open_slice Tryz.underlying22 h with ⟨hcs, _⟩ | ⟨a, len, cap, m, n, D, Pl, hcs, _, hl, hm, hmm, _, hel⟩
  · simp only [List.cons.injEq, and_true] at hcs
    subst hcs
    exact ⟨[], ⟨[], rfl, ⟨rfl, none, 0, rfl, ⟨Nat.le_refl _, fun _ => rfl⟩, fun h => absurd h (by simp)⟩, fun k hk => absurd hk (by simp)⟩, by simp, fun k hk => absurd hk (by simp), fun k hk => absurd hk (by simp)⟩
  · simp only [List.cons.injEq, and_true] at hcs
    subst hcs
    have hlm : len ≤ m := by rw [hmm]; split <;> omega
    have one : ∀ i, i < len → ∃ u : Th × Value, (∀ j, j < 3 → W.cell? ((a.add (i * 3)).add j) = (thc u)[j]?) ∧ RdI W u.2 u.1.pages ∧ u.1.pages.length ≤ maxLen ∧ u.1.R := by
      intro i hi
      obtain ⟨cs, hcs, ht⟩ := hel i (by omega)
      rw [cellsTh] at hcs
      obtain ⟨_, hlen, hc⟩ := World.cells?_some hcs
      obtain ⟨x, rfl, hR⟩ := open_thC ht
      exact ⟨x, fun j hj => by rw [hc j hj, List.getElem?_eq_getElem (by rw [hlen]; exact hj)], hR⟩
    obtain ⟨us, hpl, hps⟩ := exists_list len one
    have ML : (us.map Prod.fst).length = us.length := List.length_map ..
    refine ⟨us.map Prod.fst, ⟨us, rfl, ⟨thv_len us, some a, cap, by rw [hpl], ⟨by rw [hpl]; exact hl, fun e => by cases e⟩, fun hn => ?_⟩, fun k hk => (hps k hk).2.1⟩, by rw [ML, hpl]; omega, fun k hk => ?_, fun k hk => ?_⟩
    · obtain ⟨b, off, spot⟩ := a
      have hc := (hps 0 hn).1 0 (by omega)
      have hc' : W.cell? ((({ block := b, off := off, spot := spot } : Addr).add (0 * 3)).add 0) = some (.int .i64 us[0].1.kind) := hc
      have hspot : spot = none := by simpa [Addr.add] using World.cell?_spot hc'
      subst hspot
      refine ⟨b, off, rfl, World.block_lt_of_cell? W _ (by simpa [Addr.add] using hc'), fun j hj => ?_⟩
      have hk : j / 3 < us.length := by omega
      have q := (hps (j / 3) hk).1 (j % 3) (by omega)
      simp only [Addr.add_lit] at q
      have hj3 : j = j / 3 * 3 + j % 3 := by omega
      have e1 : off + j = off + j / 3 * 3 + j % 3 := by omega
      have e2 : (thv us)[j / 3 * 3 + j % 3]? = (thc us[j / 3])[j % 3]? := (flatMap_at _ 3 thc_len us (j / 3) (j % 3) hk (by omega))
      rw [← hj3] at e2
      rw [e1, q]
      exact e2.symm
    · rw [ML] at hk
      rw [List.getElem_map]
      exact (hps k hk).2.2.1
    · rw [ML] at hk
      rw [List.getElem_map]
      exact (hps k hk).2.2.2
end
section
variable {H : Type} {enc : TypeId × Value → H} {W : World} {sp : Nat → Bool} {held : Bool} {r : Reach} {b0 : Nat} {v : Value} {d : DataW H} {p : List MemPlace}
set_option maxRecDepth 100000 in
theorem open_md (hv : Value.okWide Tryz.prog W r b0 25 v) (h : DataW.Trod enc Tryz.prog W 0 sp held 25 v d p) :
    ∃ (ts : List Th) (ps : List Den), RdMd W v ts ps ∧ ts.length ≤ maxLen ∧ ps.length ≤ maxLen ∧ (∀ k (h : k < ts.length), ts[k].pages.length ≤ maxLen) ∧ (∀ k (h : k < ts.length), ts[k].R) ∧ ∀ k (h : k < ps.length), ps[k].name.size ≤ maxLen := by
  obtain ⟨v0, v1, y0, y1, n, rfl, _, _, h0, h1⟩ := open_agg2 Tryz.underlying25 (by kernel_rfl) cellsMd hv h
  obtain ⟨ts, a1, a2, a3, a4⟩ := open_RdTh h0
  obtain ⟨ps, b1, b2, b3⟩ := open_RdD h1
  exact ⟨ts, ps, ⟨_, _, rfl, a1, b1⟩, a2, b2, a3, a4, b3⟩
end
end Go.Proofs.YtmeiionabonhnaaGreatDoor
