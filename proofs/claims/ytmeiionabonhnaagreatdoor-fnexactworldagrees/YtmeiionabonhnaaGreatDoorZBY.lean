/- Several texts laid together: OpenI, OpenMd, OpenWd, OpenW, SBv. -/
import Derived.Test.YtmeiionabonhnaaGreatDoorZAD
import Derived.Test.YtmeiionabonhnaaGreatDoorZAE
import Derived.Test.YtmeiionabonhnaaGreatDoorZAF
import Derived.Test.YtmeiionabonhnaaGreatDoorZAZ
import Derived.Lib.LaidTab
import Derived.Lib.SmallJoins
import Derived.Deep.RegionLaw
import Derived.Test.YtmeiionabonhnaaGreatDoorZAO
import Derived.Test.YtmeiionabonhnaaGreatDoorWoA
import Derived.Test.YtmeiionabonhnaaGreatDoorZBX
import Derived.Test.YtmeiionabonhnaaGreatDoorZBS
import Derived.Test.YtmeiionabonhnaaGreatDoorZBF
import Derived.ProofKit
import Derived.ChangeSame
import Derived.OpenShut
import Derived.ChangeOld
namespace Go.Proofs.YtmeiionabonhnaaGreatDoor
open Go.ChangeShapes Go.WideShapes Go.ChangeAt Go.RowKit Go.Joins
theorem cells_of_nums {H : Type} {enc : TypeId × Value → H} {P : Program} {w : World} {base : Nat} {sp : Nat → Bool} {held : Bool} {fuel : Nat} {t e : TypeId} {n : Nat} {cs : List Value} {zs : List Int} {p : List MemPlace}
    (ht : P.underlying t = some (.array n e)) (he : P.underlying e = some (.int .i64)) (hce : P.cellsOf e = 1) (hct : P.cellsOf t = n)
    (h : DataW.trod enc P w base sp held fuel t cs = some (.agg (zs.map fun z => .lit (.int .i64 z)), p)) : cs = zs.map (Value.int .i64) := by
  cases fuel with
  | zero => simp [DataW.trod] at h
  | succ fuel =>
    simp only [DataW.trod, ht, hce, hct, Nat.mul_one] at h
    split at h
    · rename_i hl
      obtain ⟨xs, hm, hx⟩ := Option.map_eq_some_iff.1 h
      have hxs : xs.map (·.1) = zs.map fun z => (DataW.lit (.int .i64 z) : DataW H) := by
        have := congrArg Prod.fst hx
        simpa using this
      have hxl : xs.length = n := by simpa using Lib.mapM_length hm
      have hzl : zs.length = n := by
        have := congrArg List.length hxs
        simp at this
        omega
      apply List.ext_getElem?
      intro i
      by_cases hi : i < n
      · obtain ⟨b, hb, hf⟩ := Lib.mapM_at hm i i (by simp [hi])
        obtain ⟨z, hc, rfl, _⟩ := DataW.trod_int he hf
        have h1 : cs[i]? = some (.int .i64 z) := by
          have := congrArg (·[0]?) hc
          simpa [List.getElem?_take, List.getElem?_drop] using this
        have h2 : (xs.map (·.1))[i]? = some (DataW.lit (.int .i64 z) : DataW H) := by simp [hb]
        rw [hxs] at h2
        simp only [List.getElem?_map, Option.map_eq_some_iff, DataW.lit.injEq, Lit.int.injEq] at h2
        obtain ⟨z', hz', e⟩ := h2
        simp [h1, hz', e.2]
      · rw [List.getElem?_eq_none (by omega), List.getElem?_eq_none (by simp; omega)]
    · cases h
theorem cellsIno' : Tryz.prog.cellsOf 150 = 11 := by kernel_rfl
theorem cells8 : Tryz.prog.cellsOf 148 = 8 := by kernel_rfl
theorem cellsDen : Tryz.prog.cellsOf 134 = 3 := by kernel_rfl
theorem cellsDen' : Tryz.prog.cellsOf 140 = 3 := by kernel_rfl
theorem cells9 : Tryz.prog.cellsOf 9 = 1 := by kernel_rfl
section
variable {H : Type} {enc : TypeId × Value → H} {W : World} {base : Nat} {sp : Nat → Bool} {held : Bool} {fuel : Nat} {v : Value} {y : DataW H × List MemPlace}
set_option maxRecDepth 100000 in
theorem open_denC {cs : List Value} (h : DataW.trod enc Tryz.prog W base sp held fuel 134 cs = some y) : ∃ x : Den, cs = x.cells ∧ x.name.size ≤ maxLen ∧ ((Lit.int .i64 x.dir).wf = true ∧ (Lit.int .i64 x.child).wf = true) := by
  obtain ⟨y0, y1, y2, n, _, hl, t0, t1, t2⟩ := Deep.trod_struct3 Tryz.underlying134 h
  obtain ⟨z0, e0, _, w0⟩ := DataW.trod_int Tryz.underlying3 t0
  obtain ⟨s, e1, _, w1⟩ := DataW.trod_string Tryz.underlying9 t1
  obtain ⟨z2, e2, _, w2⟩ := DataW.trod_int Tryz.underlying3 t2
  rw [cellsDen] at hl
  simp only [cells3, cells9] at e0 e1 e2
  match cs, hl with
  | [c0, c1, c2], _ =>
    simp at e0 e1 e2
    subst e0 e1 e2
    exact ⟨⟨z0, s, z2⟩, rfl, by simpa using w1, w0, w2⟩
set_option maxRecDepth 100000 in
theorem open_RdD (h : DataW.trod enc Tryz.prog W 0 sp held fuel 23 [v] = some y) : ∃ ps : List Den, RdD W v ps ∧ ps.length ≤ maxLen ∧ ∀ k (h : k < ps.length), ps[k].name.size ≤ maxLen := by
  rcases Deep.open_slice Tryz.underlying23 h with ⟨hcs, _⟩ | ⟨a, len, cap, m, n, D, Pl, hcs, _, hl, hm, hmm, _, hel⟩
  · simp only [List.cons.injEq, and_true] at hcs
    subst hcs
    exact ⟨[], ⟨rfl, none, 0, rfl, ⟨Nat.le_refl _, fun _ => rfl⟩, fun h => absurd h (by simp)⟩, by simp, fun k hk => absurd hk (by simp)⟩
  · simp only [List.cons.injEq, and_true] at hcs
    subst hcs
    have hlm : len ≤ m := by rw [hmm]; split <;> omega
    have one : ∀ i, i < len → ∃ x : Den, (∀ j, j < 3 → W.cell? ((a.add (i * 3)).add j) = x.cells[j]?) ∧ x.name.size ≤ maxLen := by
      intro i hi
      obtain ⟨cs, hcs, ht⟩ := hel i (by omega)
      rw [cellsDen] at hcs
      obtain ⟨_, hlen, hc⟩ := World.cells?_some hcs
      obtain ⟨x, rfl, hR, _⟩ := open_denC ht
      exact ⟨x, fun j hj => by rw [hc j hj, List.getElem?_eq_getElem (by rw [hlen]; exact hj)], hR⟩
    obtain ⟨ps, hpl, hps⟩ := exists_list len one
    refine ⟨ps, ⟨dens_len ps, some a, cap, by rw [hpl], ⟨by rw [hpl]; exact hl, fun e => by cases e⟩, fun hn => ?_⟩, by rw [hpl]; omega, fun k hk => (hps k hk).2⟩
    obtain ⟨b, off, spot⟩ := a
    have hc := (hps 0 hn).1 0 (by omega)
    have hc' : W.cell? ((({ block := b, off := off, spot := spot } : Addr).add (0 * 3)).add 0) = some (.int .i64 ps[0].dir) := hc
    have hspot : spot = none := by simpa [Addr.add] using World.cell?_spot hc'
    subst hspot
    refine ⟨b, off, rfl, World.block_lt_of_cell? W _ (by simpa [Addr.add] using hc'), fun j hj => ?_⟩
    have hk : j / 3 < ps.length := by omega
    have q := (hps (j / 3) hk).1 (j % 3) (by omega)
    simp only [Addr.add_lit] at q
    have hj3 : j = j / 3 * 3 + j % 3 := by omega
    have e1 : off + j = off + j / 3 * 3 + j % 3 := by omega
    have e2 : (dens ps)[j / 3 * 3 + j % 3]? = ps[j / 3].cells[j % 3]? := (flatMap_at _ 3 Den.cells_len ps (j / 3) (j % 3) hk (by omega)).trans (by rw [List.getElem?_eq_getElem (show j % 3 < ps[j / 3].cells.length by rw [Den.cells_len]; omega)])
    rw [← hj3] at e2
    rw [e1, q]
    exact e2.symm
end
section
variable {H : Type} {enc : TypeId × Value → H} {W : World} {sp : Nat → Bool} {held : Bool} {r : Reach} {b0 : Nat} {v : Value} {d : DataW H} {p : List MemPlace}
end
section
variable {H : Type} {enc : TypeId × Value → H} {w : World} {base : Nat} {sp : Nat → Bool} {held : Bool} {fuel : Nat} {cs : List Value} {p : List MemPlace}
theorem cells_ts (h : DataW.trod enc Tryz.prog w base sp held fuel 332 cs = some (.agg [.lit (.int .i64 1), .lit (.int .i64 24), .lit (.int .i64 32)], p)) : cs = [.int .i64 1, .int .i64 24, .int .i64 32] :=
  cells_of_nums (zs := [1, 24, 32]) Tryz.underlying332 Tryz.underlying3 cells3 (show Tryz.prog.cellsOf 332 = 3 by kernel_rfl) h
set_option maxRecDepth 100000 in
theorem cells_ed (h : DataW.trod enc Tryz.prog w base sp held fuel 150 cs = some (.agg [.lit (.int .i64 2), .lit (.int .i64 0), .lit (.int .i64 1), .agg [.lit (.int .i64 0), .lit (.int .i64 0), .lit (.int .i64 0), .lit (.int .i64 0), .lit (.int .i64 0), .lit (.int .i64 0), .lit (.int .i64 0), .lit (.int .i64 0)]], p)) :
    cs = [.int .i64 2, .int .i64 0, .int .i64 1, .int .i64 0, .int .i64 0, .int .i64 0, .int .i64 0, .int .i64 0, .int .i64 0, .int .i64 0, .int .i64 0] := by
  obtain ⟨y0, y1, y2, y3, n, hx, hl, t0, t1, t2, t3⟩ := trod_struct4 Tryz.underlying150 h
  obtain ⟨z0, e0, hy0, _⟩ := DataW.trod_int Tryz.underlying3 t0
  obtain ⟨z1, e1, hy1, _⟩ := DataW.trod_int Tryz.underlying3 t1
  obtain ⟨z2, e2, hy2, _⟩ := DataW.trod_int Tryz.underlying3 t2
  obtain ⟨y3a, y3b⟩ := y3
  subst hy0 hy1 hy2
  simp only [Prod.mk.injEq, DataW.agg.injEq, List.cons.injEq, DataW.lit.injEq, Lit.int.injEq, true_and, and_true] at hx
  obtain ⟨⟨g0, g1, g2, g3⟩, _⟩ := hx
  subst g3
  have A := cells_of_nums (zs := [0, 0, 0, 0, 0, 0, 0, 0]) Tryz.underlying148 Tryz.underlying3 cells3 cells8 t3
  rw [cellsIno'] at hl
  simp only [cells3, cells8] at e0 e1 e2 A
  match cs, hl with
  | [c0, c1, c2, c3, c4, c5, c6, c7, c8, c9, c10], _ =>
    simp at e0 e1 e2 A
    rw [e0, e1, e2, ← g0, ← g1, ← g2, A.1, A.2.1, A.2.2.1, A.2.2.2.1, A.2.2.2.2.1, A.2.2.2.2.2.1, A.2.2.2.2.2.2.1, A.2.2.2.2.2.2.2]
set_option maxRecDepth 100000 in
theorem cells_fd (h : DataW.trod enc Tryz.prog w base sp held fuel 140 cs = some (.agg [.lit (.int .i64 0), .lit (.string []), .lit (.int .i64 (-1))], p)) : cs = [.int .i64 0, .string ⟨#[]⟩, .int .i64 (-1)] := by
  obtain ⟨y0, y1, y2, n, hx, hl, t0, t1, t2⟩ := Deep.trod_struct3 Tryz.underlying140 h
  obtain ⟨z0, e0, hy0, _⟩ := DataW.trod_int Tryz.underlying3 t0
  obtain ⟨s, e1, hy1, _⟩ := DataW.trod_string Tryz.underlying9 t1
  obtain ⟨z2, e2, hy2, _⟩ := DataW.trod_int Tryz.underlying3 t2
  subst hy0 hy1 hy2
  simp only [Prod.mk.injEq, DataW.agg.injEq, List.cons.injEq, DataW.lit.injEq, Lit.int.injEq, Lit.string.injEq, true_and, and_true] at hx
  obtain ⟨⟨g0, g1, g2⟩, _⟩ := hx
  rw [cellsDen'] at hl
  simp only [cells3, cells9] at e0 e1 e2
  match cs, hl with
  | [c0, c1, c2], _ =>
    simp at e0 e1 e2
    have hs : s = ⟨#[]⟩ := by
      obtain ⟨⟨l⟩⟩ := s
      have g1' : ([] : List UInt8) = l := g1
      rw [← g1']
    rw [e0, e1, e2, ← g0, ← g2, hs]
end
end Go.Proofs.YtmeiionabonhnaaGreatDoor

namespace Go.Proofs.YtmeiionabonhnaaGreatDoor
open Go.ChangeShapes Go.WideShapes Go.ChangeAt Go.RowKit Go.Joins
theorem cellsTh : Tryz.prog.cellsOf 131 = 3 := by kernel_rfl
theorem cellsMd : Tryz.prog.cellsOf 25 = 2 := by kernel_rfl
theorem cellsIs : Tryz.prog.cellsOf 43 = 1 := by kernel_rfl
def Th.R (t : Th) : Prop := (Lit.int .i64 t.kind).wf = true ∧ (Lit.int .i64 t.links).wf = true ∧ ∀ z ∈ t.pages, (Lit.int .i64 z).wf = true
section
variable {H : Type} {enc : TypeId × Value → H} {W : World} {sp : Nat → Bool} {held : Bool} {fuel : Nat} {v : Value} {y : DataW H × List MemPlace}
set_option maxRecDepth 100000 in
theorem open_thC {cs : List Value} (h : DataW.trod enc Tryz.prog W 0 sp held fuel 131 cs = some y) : ∃ u : Th × Value, cs = thc u ∧ RdI W u.2 u.1.pages ∧ u.1.pages.length ≤ maxLen ∧ u.1.R := by
  obtain ⟨y0, y1, y2, n, _, hl, t0, t1, t2⟩ := Deep.trod_struct3 Tryz.underlying131 h
  obtain ⟨z0, e0, _, w0⟩ := DataW.trod_int Tryz.underlying3 t0
  obtain ⟨z1, e1, _, w1⟩ := DataW.trod_int Tryz.underlying3 t1
  rw [cellsTh] at hl
  simp only [cells3, cellsIs] at e0 e1 t2
  match cs, hl with
  | [c0, c1, c2], _ =>
    simp at e0 e1 t2
    subst e0 e1
    obtain ⟨zs, a1, a2, a3⟩ := open_RdI t2
    exact ⟨(⟨z0, z1, zs⟩, c2), rfl, a1, a2, w0, w1, a3⟩
set_option maxRecDepth 100000 in
theorem open_RdTh (h : DataW.trod enc Tryz.prog W 0 sp held fuel 22 [v] = some y) : ∃ ts : List Th, RdTh W v ts ∧ ts.length ≤ maxLen ∧ (∀ k (h : k < ts.length), ts[k].pages.length ≤ maxLen) ∧ ∀ k (h : k < ts.length), ts[k].R := by
  rcases Deep.open_slice Tryz.underlying22 h with ⟨hcs, _⟩ | ⟨a, len, cap, m, n, D, Pl, hcs, _, hl, hm, hmm, _, hel⟩
  · simp only [List.cons.injEq, and_true] at hcs
    subst hcs
    exact ⟨[], ⟨[], rfl, ⟨rfl, none, 0, rfl, ⟨Nat.le_refl _, fun _ => rfl⟩, fun h => absurd h (by simp)⟩, fun k hk => absurd hk (by simp)⟩, by simp, fun k hk => absurd hk (by simp), fun k hk => absurd hk (by simp)⟩
  · simp only [List.cons.injEq, and_true] at hcs
    subst hcs
    have hlm : len ≤ m := by rw [hmm]; split <;> omega
    have one : ∀ i, i < len → ∃ u : Th × Value, (∀ j, j < 3 → W.cell? ((a.add (i * 3)).add j) = (thc u)[j]?) ∧ RdI W u.2 u.1.pages ∧ u.1.pages.length ≤ maxLen ∧ u.1.R := by
      intro i hi
      obtain ⟨cs, hcs, ht⟩ := hel i (by omega)
      rw [cellsTh] at hcs
      obtain ⟨_, hlen, hc⟩ := World.cells?_some hcs
      obtain ⟨x, rfl, hR⟩ := open_thC ht
      exact ⟨x, fun j hj => by rw [hc j hj, List.getElem?_eq_getElem (by rw [hlen]; exact hj)], hR⟩
    obtain ⟨us, hpl, hps⟩ := exists_list len one
    have ML : (us.map Prod.fst).length = us.length := List.length_map ..
    refine ⟨us.map Prod.fst, ⟨us, rfl, ⟨thv_len us, some a, cap, by rw [hpl], ⟨by rw [hpl]; exact hl, fun e => by cases e⟩, fun hn => ?_⟩, fun k hk => (hps k hk).2.1⟩, by rw [ML, hpl]; omega, fun k hk => ?_, fun k hk => ?_⟩
    · obtain ⟨b, off, spot⟩ := a
      have hc := (hps 0 hn).1 0 (by omega)
      have hc' : W.cell? ((({ block := b, off := off, spot := spot } : Addr).add (0 * 3)).add 0) = some (.int .i64 us[0].1.kind) := hc
      have hspot : spot = none := by simpa [Addr.add] using World.cell?_spot hc'
      subst hspot
      refine ⟨b, off, rfl, World.block_lt_of_cell? W _ (by simpa [Addr.add] using hc'), fun j hj => ?_⟩
      have hk : j / 3 < us.length := by omega
      have q := (hps (j / 3) hk).1 (j % 3) (by omega)
      simp only [Addr.add_lit] at q
      have hj3 : j = j / 3 * 3 + j % 3 := by omega
      have e1 : off + j = off + j / 3 * 3 + j % 3 := by omega
      have e2 : (thv us)[j / 3 * 3 + j % 3]? = (thc us[j / 3])[j % 3]? := (flatMap_at _ 3 thc_len us (j / 3) (j % 3) hk (by omega))
      rw [← hj3] at e2
      rw [e1, q]
      exact e2.symm
    · rw [ML] at hk
      rw [List.getElem_map]
      exact (hps k hk).2.2.1
    · rw [ML] at hk
      rw [List.getElem_map]
      exact (hps k hk).2.2.2
end
section
variable {H : Type} {enc : TypeId × Value → H} {W : World} {sp : Nat → Bool} {held : Bool} {r : Reach} {b0 : Nat} {v : Value} {d : DataW H} {p : List MemPlace}
end
end Go.Proofs.YtmeiionabonhnaaGreatDoor

namespace Go.Proofs.YtmeiionabonhnaaGreatDoor
open Go.ChangeShapes Go.WideShapes Go.ChangeAt Go.RowKit Go.Joins
theorem cellsTs : Tryz.prog.cellsOf 27 = 1 := by kernel_rfl
theorem cellsWd : Tryz.prog.cellsOf 61 = 19 := by kernel_rfl
theorem cellsAs : Tryz.prog.cellsOf 59 = 1 := by kernel_rfl
theorem cellsGs : Tryz.prog.cellsOf 22 = 1 := by kernel_rfl
theorem cellsDs : Tryz.prog.cellsOf 23 = 1 := by kernel_rfl
def AwR (t : Aw) : Prop := ∀ j (hj : j < t.names.length), t.names[j].size ≤ maxLen
section
variable {H : Type} {enc : TypeId × Value → H} {W : World} {sp : Nat → Bool} {held : Bool} {fuel : Nat} {v : Value} {y : DataW H × List MemPlace}
set_option maxRecDepth 100000 in
theorem open_awC {cs : List Value} (h : DataW.trod enc Tryz.prog W 0 sp held fuel 54 cs = some y) : ∃ u : Aw × Value, cs = awc u ∧ RdT W u.2 u.1.names ∧ u.1.names.length ≤ maxLen ∧ AwR u.1 := by
  obtain ⟨y0, y1, y2, n, _, hl, t0, t1, t2⟩ := Deep.trod_struct3 Tryz.underlying54 h
  obtain ⟨z0, e0, _, _⟩ := DataW.trod_int Tryz.underlying3 t0
  obtain ⟨z1, e1, _, _⟩ := DataW.trod_int Tryz.underlying3 t1
  rw [cellsAn] at hl
  simp only [cells3, cellsTs] at e0 e1 t2
  match cs, hl with
  | [c0, c1, c2], _ =>
    simp at e0 e1 t2
    subst e0 e1
    obtain ⟨zs, a1, a2, a3⟩ := open_RdT t2
    exact ⟨(⟨z0, z1, zs⟩, c2), rfl, a1, a2, a3⟩
set_option maxRecDepth 100000 in
theorem open_RdAs (h : DataW.trod enc Tryz.prog W 0 sp held fuel 59 [v] = some y) : ∃ ts : List Aw, RdAs W v ts ∧ ts.length ≤ maxLen ∧ (∀ k (h : k < ts.length), ts[k].names.length ≤ maxLen) ∧ ∀ k (h : k < ts.length), AwR ts[k] := by
  rcases Deep.open_slice Tryz.underlying59 h with ⟨hcs, _⟩ | ⟨a, len, cap, m, n, D, Pl, hcs, _, hl, hm, hmm, _, hel⟩
  · simp only [List.cons.injEq, and_true] at hcs
    subst hcs
    exact ⟨[], ⟨[], rfl, ⟨rfl, none, 0, rfl, ⟨Nat.le_refl _, fun _ => rfl⟩, fun h => absurd h (by simp)⟩, fun k hk => absurd hk (by simp)⟩, by simp, fun k hk => absurd hk (by simp), fun k hk => absurd hk (by simp)⟩
  · simp only [List.cons.injEq, and_true] at hcs
    subst hcs
    have hlm : len ≤ m := by rw [hmm]; split <;> omega
    have one : ∀ i, i < len → ∃ u : Aw × Value, (∀ j, j < 3 → W.cell? ((a.add (i * 3)).add j) = (awc u)[j]?) ∧ RdT W u.2 u.1.names ∧ u.1.names.length ≤ maxLen ∧ AwR u.1 := by
      intro i hi
      obtain ⟨cs, hcs, ht⟩ := hel i (by omega)
      rw [cellsAn] at hcs
      obtain ⟨_, hlen, hc⟩ := World.cells?_some hcs
      obtain ⟨x, rfl, hR⟩ := open_awC ht
      exact ⟨x, fun j hj => by rw [hc j hj, List.getElem?_eq_getElem (by rw [hlen]; exact hj)], hR⟩
    obtain ⟨us, hpl, hps⟩ := exists_list len one
    have ML : (us.map Prod.fst).length = us.length := List.length_map ..
    refine ⟨us.map Prod.fst, ⟨us, rfl, ⟨awv_len us, some a, cap, by rw [hpl], ⟨by rw [hpl]; exact hl, fun e => by cases e⟩, fun hn => ?_⟩, fun k hk => (hps k hk).2.1⟩, by rw [ML, hpl]; omega, fun k hk => ?_, fun k hk => ?_⟩
    · obtain ⟨b, off, spot⟩ := a
      have hc := (hps 0 hn).1 0 (by omega)
      have hc' : W.cell? ((({ block := b, off := off, spot := spot } : Addr).add (0 * 3)).add 0) = some (.int .i64 us[0].1.code) := hc
      have hspot : spot = none := by simpa [Addr.add] using World.cell?_spot hc'
      subst hspot
      refine ⟨b, off, rfl, World.block_lt_of_cell? W _ (by simpa [Addr.add] using hc'), fun j hj => ?_⟩
      have hk : j / 3 < us.length := by omega
      have q := (hps (j / 3) hk).1 (j % 3) (by omega)
      simp only [Addr.add_lit] at q
      have hj3 : j = j / 3 * 3 + j % 3 := by omega
      have e1 : off + j = off + j / 3 * 3 + j % 3 := by omega
      have e2 : (awv us)[j / 3 * 3 + j % 3]? = (awc us[j / 3])[j % 3]? := (flatMap_at _ 3 awc_len us (j / 3) (j % 3) hk (by omega))
      rw [← hj3] at e2
      rw [e1, q]
      exact e2.symm
    · rw [ML] at hk
      rw [List.getElem_map]
      exact (hps k hk).2.2.1
    · rw [ML] at hk
      rw [List.getElem_map]
      exact (hps k hk).2.2.2
end
set_option maxRecDepth 100000 in
theorem open_fsC {H : Type} {enc : TypeId × Value → H} {W : World} {sp : Nat → Bool} {held : Bool} {fuel : Nat} {c0 c1 c2 c3 c4 c5 c6 c7 c8 c9 : Value} {y : DataW H × List MemPlace}
    (hf : DataW.trod enc Tryz.prog W 0 sp held fuel 56 [c0, c1, c2, c3, c4, c5, c6, c7, c8, c9] = some y) :
    ∃ (ws : List Int) (ps : List St) (es : List Int) (qs : List Se) (hs : List Int) (td : List Mi) (cd vl : Int) (nm : List ByteArray) (fr : Bool) (aW aP aS aQ aH aT aN : Option Addr) (cW cP cS cQ cH cT cN : Nat), (#[c0, c1, c2, c3, c4, c5, c6, c7, c8, c9] : Array Value) = #[.slice aW ws.length cW, .slice aP ps.length cP, .slice aS es.length cS, .slice aQ qs.length cQ, .slice aH hs.length cH, .slice aT td.length cT, .int .i64 cd, .int .i64 vl, .slice aN nm.length cN, .bool fr] ∧ RdF W (.agg #[.slice aW ws.length cW, .slice aP ps.length cP, .slice aS es.length cS, .slice aQ qs.length cQ, .slice aH hs.length cH, .slice aT td.length cT, .int .i64 cd, .int .i64 vl, .slice aN nm.length cN, .bool fr]) ws ps es qs hs td cd vl nm fr ∧ (ws.length ≤ maxLen ∧ ps.length ≤ maxLen ∧ es.length ≤ maxLen ∧ qs.length ≤ maxLen ∧ hs.length ≤ maxLen ∧ td.length ≤ maxLen ∧ nm.length ≤ maxLen) ∧ ∀ k (hk : k < nm.length), nm[k].size ≤ maxLen := by
  obtain ⟨y0, y1, y2, y3, y4, n, hx, h0, h1, h2, h3, h4⟩ := trod_struct5 Tryz.underlying56 hf
  have kI : Tryz.prog.cellsOf 43 = 1 := by kernel_rfl
  have kS : Tryz.prog.cellsOf 44 = 1 := by kernel_rfl
  have kE : Tryz.prog.cellsOf 47 = 1 := by kernel_rfl
  have kM : Tryz.prog.cellsOf 52 = 1 := by kernel_rfl
  have kT : Tryz.prog.cellsOf 27 = 1 := by kernel_rfl
  simp only [cellsDev, cellsAn, cellsB, kI, kM] at h0 h1 h2 h3 h4
  obtain ⟨z0, z1, m0, _, _, d0, d1⟩ := trod_struct2 Tryz.underlying51 h0
  simp only [cellsPm, cellsBlk] at d0 d1
  obtain ⟨y00, y01, n0, _, _, h00, h01⟩ := trod_struct2 Tryz.underlying46 d0
  obtain ⟨y10, y11, n1, _, _, h10, h11⟩ := trod_struct2 Tryz.underlying49 d1
  simp only [kI, kS, kE] at h00 h01 h10 h11
  obtain ⟨ws, hI0, hwl0, _⟩ := open_RdI (v := c0) (by simpa using h00)
  obtain ⟨ps, hS0, hpl0, _⟩ := open_RdS (v := c1) (by simpa using h01)
  obtain ⟨es, hI1, hwl1, _⟩ := open_RdI (v := c2) (by simpa using h10)
  obtain ⟨qs, hS1, hpl1, _⟩ := open_RdE (v := c3) (by simpa using h11)
  obtain ⟨hs, hH, hhl, _⟩ := open_RdI (v := c4) (by simpa using h1)
  obtain ⟨td, hT, htl, _⟩ := open_RdM (v := c5) (by simpa using h2)
  obtain ⟨u0, u1, u2, n', _, _, t0, t1, t2⟩ := Deep.trod_struct3 Tryz.underlying54 h3
  simp only [cellsN, kT] at t0 t1 t2
  obtain ⟨q0, e0, _, _⟩ := DataW.trod_int Tryz.underlying3 t0
  obtain ⟨q1, e1, _, _⟩ := DataW.trod_int Tryz.underlying3 t1
  obtain ⟨nm, hN, hnl, hns⟩ := open_RdT (v := c8) (by simpa using t2)
  obtain ⟨fr, e9, _⟩ := DataW.trod_bool Tryz.underlying4 h4
  simp at e0 e1 e9
  subst e0 e1 e9
  obtain ⟨aW, cW, rfl, _⟩ := hI0.shape
  obtain ⟨aP, cP, rfl, _⟩ := hS0.shape
  obtain ⟨aS, cS, rfl, _⟩ := hI1.shape
  obtain ⟨aQ, cQ, rfl, _⟩ := hS1.shape
  obtain ⟨aH, cH, rfl, _⟩ := hH.shape
  obtain ⟨-, aT, cT, rfl, -⟩ := id hT
  obtain ⟨aN, cN, rfl, _⟩ := hN.shape
  exact ⟨ws, ps, es, qs, hs, td, q0, q1, nm, fr, _, _, _, _, _, _, _, _, _, _, _, _, _, _, rfl, ⟨_, _, _, _, _, _, _, _, _, _, _, _, _, _, rfl, ⟨_, _, _, _, rfl, ⟨_, _, rfl, hI0, hS0⟩, ⟨_, _, rfl, hI1, hS1⟩⟩, hH, hT, hN⟩, ⟨hwl0, hpl0, hwl1, hpl1, hhl, htl, hnl⟩, hns⟩
theorem list19 {cs : List Value} (h : cs.length = 19) : ∃ c0 c1 c2 c3 c4 c5 c6 c7 c8 c9 c10 c11 c12 c13 c14 c15 c16 c17 c18, cs = [c0, c1, c2, c3, c4, c5, c6, c7, c8, c9, c10, c11, c12, c13, c14, c15, c16, c17, c18] := by
  match cs, h with
  | [c0, c1, c2, c3, c4, c5, c6, c7, c8, c9, c10, c11, c12, c13, c14, c15, c16, c17, c18], _ => exact ⟨c0, c1, c2, c3, c4, c5, c6, c7, c8, c9, c10, c11, c12, c13, c14, c15, c16, c17, c18, rfl⟩
set_option maxRecDepth 100000 in
set_option maxHeartbeats 2000000 in
theorem open_wd {H : Type} {enc : TypeId × Value → H} {W : World} {sp : Nat → Bool} {held : Bool} {r : Reach} {b0 : Nat} {v : Value} {d : DataW H} {p : List MemPlace}
    (hv : Value.okWide Tryz.prog W r b0 61 v) (h : DataW.Trod enc Tryz.prog W 0 sp held 61 v d p) :
    ∃ (ws : List Int) (ps : List St) (es : List Int) (qs : List Se) (hs : List Int) (td : List Mi) (cd vl : Int) (nm : List ByteArray) (fr : Bool) (ts : List Th) (ds : List Den) (ok : Int) (op ot : ByteArray) (og ox : Int) (az : List Aw) (ag : Bool), RdWd W v ws ps es qs hs td cd vl nm fr ts ds ok op ot og ox az ag ∧ ((ws.length ≤ maxLen ∧ ps.length ≤ maxLen ∧ es.length ≤ maxLen ∧ qs.length ≤ maxLen ∧ hs.length ≤ maxLen ∧ td.length ≤ maxLen ∧ nm.length ≤ maxLen) ∧ ∀ k (hk : k < nm.length), nm[k].size ≤ maxLen) ∧ (ts.length ≤ maxLen ∧ (∀ k (hk : k < ts.length), ts[k].pages.length ≤ maxLen) ∧ ds.length ≤ maxLen ∧ (∀ k (h : k < ds.length), ds[k].name.size ≤ maxLen)) ∧ (op.size ≤ maxLen ∧ ot.size ≤ maxLen) ∧ az.length ≤ maxLen ∧ (∀ k (hk : k < az.length), az[k].names.length ≤ maxLen) ∧ ∀ k (hk : k < az.length), ∀ j (hj : j < az[k].names.length), az[k].names[j].size ≤ maxLen := by
  obtain ⟨cs, rfl, hsz⟩ := okWide_struct Tryz.underlying61 hv
  obtain ⟨fuel, hf⟩ := h
  obtain ⟨l⟩ := cs
  obtain ⟨c0, c1, c2, c3, c4, c5, c6, c7, c8, c9, c10, c11, c12, c13, c14, c15, c16, c17, c18, rfl⟩ := list19 (cs := l) (hsz.trans cellsWd)
  obtain ⟨y0, y1, y2, y3, y4, n, hx, h0, h1, h2, h3, h4⟩ := trod_struct5 Tryz.underlying61 hf
  simp only [cellsFs, cellsMd, cellsOp, cellsAs, cellsB] at h0 h1 h2 h3 h4
  obtain ⟨ws, ps, es, qs, hs, td, cd, vl, nm, fr, aW, aP, aS, aQ, aH, aT, aN, cW, cP, cS, cQ, cH, cT, cN, eF, rF, bF, zF⟩ := open_fsC (c0 := c0) (c1 := c1) (c2 := c2) (c3 := c3) (c4 := c4) (c5 := c5) (c6 := c6) (c7 := c7) (c8 := c8) (c9 := c9) (by simpa [Value.cells] using h0)
  obtain ⟨z0, z1, m0, _, _, d0, d1⟩ := trod_struct2 Tryz.underlying25 h1
  simp only [cellsGs, cellsDs] at d0 d1
  obtain ⟨ts, a1, a2, a3, -⟩ := open_RdTh (v := c10) (by simpa [Value.cells] using d0)
  obtain ⟨ds, b1, b2, b3⟩ := open_RdD (v := c11) (by simpa [Value.cells] using d1)
  obtain ⟨u0, u1, u2, u3, u4, n', _, t0, t1, t2, t3, t4⟩ := trod_struct5 Tryz.underlying58 h2
  simp only [cellsN, cellsT] at t0 t1 t2 t3 t4
  obtain ⟨q0, e0, _, _⟩ := DataW.trod_int Tryz.underlying3 t0
  obtain ⟨q1, e1, _, w1⟩ := DataW.trod_string Tryz.underlying9 t1
  obtain ⟨q2, e2, _, w2⟩ := DataW.trod_string Tryz.underlying9 t2
  obtain ⟨q3, e3, _, _⟩ := DataW.trod_int Tryz.underlying3 t3
  obtain ⟨q4, e4, _, _⟩ := DataW.trod_int Tryz.underlying3 t4
  obtain ⟨az, g1, g2, g3, g4⟩ := open_RdAs (v := c17) (by simpa [Value.cells] using h3)
  obtain ⟨ag, e9, _⟩ := DataW.trod_bool Tryz.underlying4 h4
  simp [Value.cells] at e0 e1 e2 e3 e4 e9
  subst e0 e1 e2 e3 e4 e9
  simp only [Array.mk.injEq, List.cons.injEq, and_true] at eF
  obtain ⟨rfl, rfl, rfl, rfl, rfl, rfl, rfl, rfl, rfl, rfl⟩ := eF
  obtain ⟨aG, cG, rfl⟩ := a1.form
  obtain ⟨aD, cD, rfl, _, _⟩ := b1.shape
  obtain ⟨aR, cR, rfl⟩ := g1.form
  exact ⟨ws, ps, es, qs, hs, td, cd, vl, nm, fr, ts, ds, q0, q1, q2, q3, q4, az, ag, ⟨_, _, _, _, _, _, _, _, _, _, _, _, _, _, _, _, _, _, _, _, rfl, rF, ⟨_, _, rfl, a1, b1⟩, g1⟩, ⟨bF, zF⟩, ⟨a2, a3, b2, b3⟩, ⟨by simpa using w1, by simpa using w2⟩, g2, g3, fun k hk j hj => g4 k hk j hj⟩
end Go.Proofs.YtmeiionabonhnaaGreatDoor

namespace Go.Proofs.YtmeiionabonhnaaGreatDoor
open Go.ChangeShapes Go.WideShapes Go.ChangeAt Go.RowKit Go.Joins
theorem cellsNW : Tryz.prog.cellsOf 276 = 2 := by kernel_rfl
set_option maxRecDepth 100000 in
theorem cells_nw {H : Type} {enc : TypeId × Value → H} {w : World} {base : Nat} {sp : Nat → Bool} {held : Bool} {fuel : Nat} {cs : List Value} {p : List MemPlace}
    (h : DataW.trod enc Tryz.prog w base sp held fuel 276 cs = some (.agg [.lit (.int .i64 (-1)), .lit (.int .i64 0)], p)) : cs = [.int .i64 (-1), .int .i64 0] := by
  obtain ⟨y0, y1, n, hx, hl, t0, t1⟩ := trod_struct2 Tryz.underlying276 h
  obtain ⟨z0, e0, hy0, _⟩ := DataW.trod_int Tryz.underlying3 t0
  obtain ⟨z1, e1, hy1, _⟩ := DataW.trod_int Tryz.underlying3 t1
  rw [cellsNW] at hl
  subst hy0 hy1
  simp only [cells3] at e0 e1
  match cs, hl with
  | [c0, c1], _ =>
    simp at e0 e1 hx
    subst e0 e1
    rw [hx.1.1, hx.1.2]
end Go.Proofs.YtmeiionabonhnaaGreatDoor

namespace Go.Proofs.YtmeiionabonhnaaGreatDoor
open Go.ChangeShapes Go.WideShapes Go.ChangeAt Go.RowKit
theorem cells3' : Tryz.prog.cellsOf 3 = 1 := by kernel_rfl
theorem cellsPair : Tryz.prog.cellsOf 306 = 2 := by kernel_rfl
theorem cellsSB : Tryz.prog.cellsOf 307 = 12 := by kernel_rfl
set_option maxRecDepth 100000 in
theorem cells_pair {H : Type} {enc : TypeId × Value → H} {w : World} {base : Nat} {sp : Nat → Bool} {held : Bool} {fuel : Nat} {cs : List Value} {p : List MemPlace} {a b : Int}
    (h : DataW.trod enc Tryz.prog w base sp held fuel 306 cs = some (.agg [.lit (.int .i64 a), .lit (.int .i64 b)], p)) : cs = [.int .i64 a, .int .i64 b] := by
  obtain ⟨y0, y1, n, hx, hl, t0, t1⟩ := trod_struct2 Tryz.underlying306 h
  obtain ⟨z0, e0, hy0, _⟩ := DataW.trod_int Tryz.underlying3 t0
  obtain ⟨z1, e1, hy1, _⟩ := DataW.trod_int Tryz.underlying3 t1
  rw [cellsPair] at hl
  subst hy0 hy1
  simp only [cells3'] at e0 e1
  match cs, hl with
  | [c0, c1], _ =>
    simp at e0 e1 hx
    subst e0 e1
    rw [hx.1.1, hx.1.2]
set_option maxRecDepth 100000 in
theorem pairs_all {zs : List (Int × Int)} {cs : List Value} (hz : zs.length = 6) (hl : cs.length = 12) (chunk : ∀ i, i < 6 → ∃ z, zs[i]? = some z ∧ (cs.drop (i * 2)).take 2 = [.int .i64 z.1, .int .i64 z.2]) : cs = zs.flatMap fun z => [.int .i64 z.1, .int .i64 z.2] := by
  match zs, hz, cs, hl, chunk with
  | [z0, z1, z2, z3, z4, z5], _, [c0, c1, c2, c3, c4, c5, c6, c7, c8, c9, c10, c11], _, chunk =>
    have k0 := chunk 0 (by omega)
    have k1 := chunk 1 (by omega)
    have k2 := chunk 2 (by omega)
    have k3 := chunk 3 (by omega)
    have k4 := chunk 4 (by omega)
    have k5 := chunk 5 (by omega)
    simp at k0 k1 k2 k3 k4 k5
    simp [k0, k1, k2, k3, k4, k5]
theorem cells_sb {H : Type} {enc : TypeId × Value → H} {w : World} {base : Nat} {sp : Nat → Bool} {held : Bool} {fuel : Nat} {cs : List Value} {p : List MemPlace} {zs : List (Int × Int)} (hz : zs.length = 6)
    (h : DataW.trod enc Tryz.prog w base sp held fuel 307 cs = some (.agg (zs.map fun z => .agg [.lit (.int .i64 z.1), .lit (.int .i64 z.2)]), p)) : cs = zs.flatMap fun z => [.int .i64 z.1, .int .i64 z.2] := by
  cases fuel with
  | zero => simp [DataW.trod] at h
  | succ fuel =>
    simp only [DataW.trod, Tryz.underlying307, cellsPair, cellsSB] at h
    split at h
    · rename_i hl
      obtain ⟨xs, hm, hx⟩ := Option.map_eq_some_iff.1 h
      have hxs : xs.map (·.1) = zs.map fun z => (DataW.agg [.lit (.int .i64 z.1), .lit (.int .i64 z.2)] : DataW H) := by
        have := congrArg Prod.fst hx
        simpa using this
      refine pairs_all hz hl (fun i hi => ?_)
      obtain ⟨b, hb, hf⟩ := Lib.mapM_at hm i i (by simp [hi])
      have h2 : (xs.map (·.1))[i]? = some b.1 := by simp [hb]
      rw [hxs, List.getElem?_map, List.getElem?_eq_getElem (by omega)] at h2
      have h3 := Option.some.inj h2
      obtain ⟨b1, b2⟩ := b
      simp only at h3
      subst h3
      exact ⟨_, List.getElem?_eq_getElem (by omega), cells_pair hf⟩
    · cases h
end Go.Proofs.YtmeiionabonhnaaGreatDoor
