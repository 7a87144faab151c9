/- Several texts laid together: OpenM, OpenO, OpenF, SBv. -/
import Derived.Test.YtbjjdkemappelaaGreatDoorYA
namespace Go.Proofs.YtbjjdkemappelaaGreatDoor
open Go.ChangeShapes Go.WideShapes Go.ChangeAt Go.RowKit Go.Joins

theorem cellsMic : Tryz.prog.cellsOf 113 = 3 := by kernel_rfl

section

variable {H : Type} {enc : TypeId × Value → H} {W : World} {sp : Nat → Bool} {held : Bool} {fuel : Nat} {v : Value} {y : DataW H × List MemPlace}

set_option maxRecDepth 100000 in
theorem open_RdM (h : DataW.trod enc Tryz.prog W 0 sp held fuel 50 [v] = some y) : ∃ ps : List Mi, RdM W v ps ∧ ps.length ≤ maxLen ∧ ∀ p ∈ ps, (Lit.int .i64 p.at_).wf = true ∧ (Lit.int .i64 p.val).wf = true := by
  rcases Deep.open_slice Tryz.underlying50 h with ⟨hcs, _⟩ | ⟨a, len, cap, m, n, D, Pl, hcs, _, hl, hm, hmm, _, hel⟩
  · simp only [List.cons.injEq, and_true] at hcs
    subst hcs
    exact ⟨[], ⟨rfl, none, 0, rfl, ⟨Nat.le_refl _, fun _ => rfl⟩, fun h => absurd h (by simp)⟩, by simp, fun p hp => by simp at hp⟩
  · simp only [List.cons.injEq, and_true] at hcs
    subst hcs
    have hlm : len ≤ m := by rw [hmm]; split <;> omega
    have one : ∀ i, i < len → ∃ s : Mi, (W.cell? ((a.add (i * 3)).add 0) = some (.int .i64 s.kind) ∧ W.cell? ((a.add (i * 3)).add 1) = some (.int .i64 s.at_) ∧ W.cell? ((a.add (i * 3)).add 2) = some (.int .i64 s.val)) ∧ (Lit.int .i64 s.at_).wf = true ∧ (Lit.int .i64 s.val).wf = true := by
      intro i hi
      obtain ⟨cs, hcs, ht⟩ := hel i (by omega)
      rw [cellsMic] at hcs
      obtain ⟨_, hlen, hc⟩ := World.cells?_some hcs
      obtain ⟨y0, y1, y2, n', _, _, t0, t1, t2⟩ := Deep.trod_struct3 Tryz.underlying113 ht
      obtain ⟨z0, e0, _, w0⟩ := DataW.trod_int Tryz.underlying3 t0
      obtain ⟨z1, e1, _, w1⟩ := DataW.trod_int Tryz.underlying3 t1
      obtain ⟨z2, e2, _, w2⟩ := DataW.trod_int Tryz.underlying3 t2
      simp only [cells3] at e0 e1 e2
      match cs, hlen with
      | [c0, c1, c2], _ =>
        simp at e0 e1 e2
        subst e0 e1 e2
        exact ⟨⟨z0, z1, z2⟩, ⟨by simpa using hc 0 (by omega), by simpa using hc 1 (by omega), by simpa using hc 2 (by omega)⟩, w1, w2⟩
    obtain ⟨ps, hpl, hps⟩ := exists_list len one
    refine ⟨ps, ⟨mis_len ps, some a, cap, by rw [hpl], ⟨by rw [hpl]; exact hl, fun e => by cases e⟩, fun hn => ?_⟩, by rw [hpl]; omega, fun p hp => ?_⟩
    · obtain ⟨b, off, spot⟩ := a
      have hc := (hps 0 hn).1.1
      have hspot : spot = none := by simpa [Addr.add] using World.cell?_spot hc
      subst hspot
      refine ⟨b, off, rfl, World.block_lt_of_cell? W _ (by simpa [Addr.add] using hc), fun j hj => ?_⟩
      have hk : j / 3 < ps.length := by omega
      obtain ⟨⟨q0, q1, q2⟩, _⟩ := hps (j / 3) hk
      simp only [Addr.add_lit, Nat.add_zero] at q0 q1 q2
      have hj3 : j = j / 3 * 3 + j % 3 := by omega
      rcases (show j % 3 = 0 ∨ j % 3 = 1 ∨ j % 3 = 2 from by omega) with r | r | r
      · rw [hj3, r, Nat.add_zero, q0, mis_at0 ps _ hk]
      · rw [hj3, r, ← Nat.add_assoc, q1, mis_at1 ps _ hk]
      · rw [hj3, r, ← Nat.add_assoc, q2, mis_at2 ps _ hk]
    · obtain ⟨i, hi, rfl⟩ := List.getElem_of_mem hp
      exact (hps i hi).2

end

end Go.Proofs.YtbjjdkemappelaaGreatDoor

namespace Go.Proofs.YtbjjdkemappelaaGreatDoor
open Go.ChangeShapes Go.WideShapes Go.ChangeAt Go.RowKit Go.Joins

theorem cellsN : Tryz.prog.cellsOf 3 = 1 := by kernel_rfl
theorem cellsT : Tryz.prog.cellsOf 9 = 1 := by kernel_rfl
theorem trod_struct5 {H : Type} {enc : TypeId × Value → H} {P : Program} {w : World} {base : Nat} {spare : Nat → Bool} {held : Bool} {t : TypeId} {f0 f1 f2 f3 f4 : Field} {fuel : Nat} {cs : List Value} {x : DataW H × List MemPlace} (ht : P.underlying t = some (.struct #[f0, f1, f2, f3, f4])) (h : DataW.trod enc P w base spare held fuel t cs = some x) :
    ∃ y0 y1 y2 y3 y4 n, cs.length = P.cellsOf t ∧ DataW.trod enc P w base spare held n f0.type ((cs.drop f0.offset).take (P.cellsOf f0.type)) = some y0 ∧ DataW.trod enc P w base spare held n f1.type ((cs.drop f1.offset).take (P.cellsOf f1.type)) = some y1 ∧ DataW.trod enc P w base spare held n f2.type ((cs.drop f2.offset).take (P.cellsOf f2.type)) = some y2 ∧ DataW.trod enc P w base spare held n f3.type ((cs.drop f3.offset).take (P.cellsOf f3.type)) = some y3 ∧ DataW.trod enc P w base spare held n f4.type ((cs.drop f4.offset).take (P.cellsOf f4.type)) = some y4 := by
  obtain ⟨xs, n, _, rfl, hl, hlen, hf⟩ := DataW.trod_struct ht h
  match xs, hlen with
  | [y0, y1, y2, y3, y4], _ => exact ⟨y0, y1, y2, y3, y4, n, hl, by simpa using hf 0 f0 rfl, by simpa using hf 1 f1 rfl, by simpa using hf 2 f2 rfl, by simpa using hf 3 f3 rfl, by simpa using hf 4 f4 rfl⟩
end Go.Proofs.YtbjjdkemappelaaGreatDoor

namespace Go.Proofs.YtbjjdkemappelaaGreatDoor
open Go.ChangeShapes Go.WideShapes Go.ChangeAt Go.RowKit Go.Joins

section

variable {H : Type} {enc : TypeId × Value → H} {W : World} {sp : Nat → Bool} {held : Bool} {fuel : Nat} {v : Value} {y : DataW H × List MemPlace}

set_option maxRecDepth 100000 in
theorem open_RdT (h : DataW.trod enc Tryz.prog W 0 sp held fuel 58 [v] = some y) : ∃ ss : List ByteArray, RdT W v ss ∧ ss.length ≤ maxLen ∧ ∀ k (hk : k < ss.length), ss[k].size ≤ maxLen := by
  rcases Deep.open_slice Tryz.underlying58 h with ⟨hcs, _⟩ | ⟨a, len, cap, m, n, D, Pl, hcs, _, hl, hm, hmm, _, hel⟩
  · simp only [List.cons.injEq, and_true] at hcs
    subst hcs
    exact ⟨[], ⟨rfl, none, 0, rfl, ⟨Nat.le_refl _, fun _ => rfl⟩, fun h => absurd h (by simp)⟩, by simp, fun k hk => by simp at hk⟩
  · simp only [List.cons.injEq, and_true] at hcs
    subst hcs
    have hlm : len ≤ m := by rw [hmm]; split <;> omega
    have one : ∀ i, i < len → ∃ s : ByteArray, W.cell? (a.add (i * 1)) = some (.string s) ∧ s.size ≤ maxLen := by
      intro i hi
      obtain ⟨cs, hcs, ht⟩ := hel i (by omega)
      rw [cellsT] at hcs
      obtain ⟨_, hlen, hc⟩ := World.cells?_some hcs
      obtain ⟨s, e0, _, w0⟩ := DataW.trod_string Tryz.underlying9 ht
      subst e0
      exact ⟨s, by have := hc 0 (by omega); simpa [Addr.add] using this, by simpa using w0⟩
    obtain ⟨ss, hpl, hps⟩ := exists_list len one
    refine ⟨ss, ⟨by rw [strs_len, Nat.mul_one], some a, cap, by rw [hpl], ⟨by rw [hpl]; exact hl, fun e => by cases e⟩, fun hn => ?_⟩, by rw [hpl]; omega, fun k hk => (hps k hk).2⟩
    obtain ⟨b, off, spot⟩ := a
    have hc := (hps 0 hn).1
    have hspot : spot = none := by simpa [Addr.add] using World.cell?_spot hc
    subst hspot
    refine ⟨b, off, rfl, World.block_lt_of_cell? W _ (by simpa [Addr.add] using hc), fun j hj => ?_⟩
    have hk : j < ss.length := by omega
    have q := (hps j hk).1
    simp only [Addr.add_lit, Nat.mul_one] at q
    rw [q, strs_at ss j hk]

end

theorem cellsFs : Tryz.prog.cellsOf 62 = 10 := by kernel_rfl
theorem cellsAn : Tryz.prog.cellsOf 60 = 3 := by kernel_rfl
theorem cellsB : Tryz.prog.cellsOf 4 = 1 := by kernel_rfl
theorem array10 {cs : Array Value} (h : cs.size = 10) : ∃ a b c d e f g i j k, cs = #[a, b, c, d, e, f, g, i, j, k] := by
  obtain ⟨l⟩ := cs
  match l, h with
  | [a, b, c, d, e, f, g, i, j, k], _ => exact ⟨a, b, c, d, e, f, g, i, j, k, rfl⟩
set_option maxRecDepth 100000 in
theorem open_fs {H : Type} {enc : TypeId × Value → H} {W : World} {sp : Nat → Bool} {held : Bool} {r : Reach} {b0 : Nat} {v : Value} {d : DataW H} {p : List MemPlace}
    (hv : Value.okWide Tryz.prog W r b0 62 v) (h : DataW.Trod enc Tryz.prog W 0 sp held 62 v d p) :
    ∃ (ws : List Int) (ps : List St) (es : List Int) (qs : List Se) (hs : List Int) (td : List Mi) (cd vl : Int) (nm : List ByteArray) (fr : Bool), RdF W v ws ps es qs hs td cd vl nm fr ∧ (ws.length ≤ maxLen ∧ ps.length ≤ maxLen ∧ es.length ≤ maxLen ∧ qs.length ≤ maxLen ∧ hs.length ≤ maxLen ∧ td.length ≤ maxLen ∧ nm.length ≤ maxLen) ∧ ∀ k (hk : k < nm.length), nm[k].size ≤ maxLen := by
  obtain ⟨cs, rfl, hsz⟩ := okWide_struct Tryz.underlying62 hv
  obtain ⟨c0, c1, c2, c3, c4, c5, c6, c7, c8, c9, rfl⟩ := array10 (hsz.trans cellsFs)
  obtain ⟨fuel, hf⟩ := h
  obtain ⟨y0, y1, y2, y3, y4, n, hx, h0, h1, h2, h3, h4⟩ := trod_struct5 Tryz.underlying62 hf
  have kI : Tryz.prog.cellsOf 22 = 1 := by kernel_rfl
  have kS : Tryz.prog.cellsOf 23 = 1 := by kernel_rfl
  have kE : Tryz.prog.cellsOf 26 = 1 := by kernel_rfl
  have kM : Tryz.prog.cellsOf 50 = 1 := by kernel_rfl
  have kT : Tryz.prog.cellsOf 58 = 1 := by kernel_rfl
  simp only [cellsDev, cellsAn, cellsB, kI, kM] at h0 h1 h2 h3 h4
  obtain ⟨z0, z1, m0, _, _, d0, d1⟩ := trod_struct2 Tryz.underlying30 h0
  simp only [cellsPm, cellsBlk] at d0 d1
  obtain ⟨y00, y01, n0, _, _, h00, h01⟩ := trod_struct2 Tryz.underlying25 d0
  obtain ⟨y10, y11, n1, _, _, h10, h11⟩ := trod_struct2 Tryz.underlying28 d1
  simp only [kI, kS, kE] at h00 h01 h10 h11
  obtain ⟨ws, hI0, hwl0, _⟩ := open_RdI (v := c0) (by simpa [Value.cells] using h00)
  obtain ⟨ps, hS0, hpl0, _⟩ := open_RdS (v := c1) (by simpa [Value.cells] using h01)
  obtain ⟨es, hI1, hwl1, _⟩ := open_RdI (v := c2) (by simpa [Value.cells] using h10)
  obtain ⟨qs, hS1, hpl1, _⟩ := open_RdE (v := c3) (by simpa [Value.cells] using h11)
  obtain ⟨hs, hH, hhl, _⟩ := open_RdI (v := c4) (by simpa [Value.cells] using h1)
  obtain ⟨td, hT, htl, _⟩ := open_RdM (v := c5) (by simpa [Value.cells] using h2)
  obtain ⟨u0, u1, u2, n', _, _, t0, t1, t2⟩ := Deep.trod_struct3 Tryz.underlying60 h3
  simp only [cellsN, kT] at t0 t1 t2
  obtain ⟨q0, e0, _, _⟩ := DataW.trod_int Tryz.underlying3 t0
  obtain ⟨q1, e1, _, _⟩ := DataW.trod_int Tryz.underlying3 t1
  obtain ⟨nm, hN, hnl, hns⟩ := open_RdT (v := c8) (by simpa [Value.cells] using t2)
  obtain ⟨fr, e9, _⟩ := DataW.trod_bool Tryz.underlying4 h4
  simp [Value.cells] at e0 e1 e9
  subst e0 e1 e9
  obtain ⟨aW, cW, rfl, _⟩ := hI0.shape
  obtain ⟨aP, cP, rfl, _⟩ := hS0.shape
  obtain ⟨aS, cS, rfl, _⟩ := hI1.shape
  obtain ⟨aQ, cQ, rfl, _⟩ := hS1.shape
  obtain ⟨aH, cH, rfl, _⟩ := hH.shape
  obtain ⟨-, aT, cT, rfl, -⟩ := id hT
  obtain ⟨aN, cN, rfl, _⟩ := hN.shape
  exact ⟨ws, ps, es, qs, hs, td, q0, q1, nm, fr, ⟨_, _, _, _, _, _, _, _, _, _, _, _, _, _, rfl, ⟨_, _, _, _, rfl, ⟨_, _, rfl, hI0, hS0⟩, ⟨_, _, rfl, hI1, hS1⟩⟩, hH, hT, hN⟩, ⟨hwl0, hpl0, hwl1, hpl1, hhl, htl, hnl⟩, hns⟩
end Go.Proofs.YtbjjdkemappelaaGreatDoor

namespace Go.Proofs.YtbjjdkemappelaaGreatDoor
open Go.ChangeShapes Go.WideShapes Go.ChangeAt Go.RowKit

theorem cells3' : Tryz.prog.cellsOf 3 = 1 := by kernel_rfl
theorem cellsPair : Tryz.prog.cellsOf 146 = 2 := by kernel_rfl
theorem cellsSB : Tryz.prog.cellsOf 147 = 12 := by kernel_rfl
set_option maxRecDepth 100000 in
theorem cells_pair {H : Type} {enc : TypeId × Value → H} {w : World} {base : Nat} {sp : Nat → Bool} {held : Bool} {fuel : Nat} {cs : List Value} {p : List MemPlace} {a b : Int}
    (h : DataW.trod enc Tryz.prog w base sp held fuel 146 cs = some (.agg [.lit (.int .i64 a), .lit (.int .i64 b)], p)) : cs = [.int .i64 a, .int .i64 b] := by
  obtain ⟨y0, y1, n, hx, hl, t0, t1⟩ := trod_struct2 Tryz.underlying146 h
  obtain ⟨z0, e0, hy0, _⟩ := DataW.trod_int Tryz.underlying3 t0
  obtain ⟨z1, e1, hy1, _⟩ := DataW.trod_int Tryz.underlying3 t1
  rw [cellsPair] at hl
  subst hy0 hy1
  simp only [cells3'] at e0 e1
  match cs, hl with
  | [c0, c1], _ =>
    simp at e0 e1 hx
    subst e0 e1
    rw [hx.1.1, hx.1.2]
set_option maxRecDepth 100000 in
theorem pairs_all {zs : List (Int × Int)} {cs : List Value} (hz : zs.length = 6) (hl : cs.length = 12) (chunk : ∀ i, i < 6 → ∃ z, zs[i]? = some z ∧ (cs.drop (i * 2)).take 2 = [.int .i64 z.1, .int .i64 z.2]) : cs = zs.flatMap fun z => [.int .i64 z.1, .int .i64 z.2] := by
  match zs, hz, cs, hl, chunk with
  | [z0, z1, z2, z3, z4, z5], _, [c0, c1, c2, c3, c4, c5, c6, c7, c8, c9, c10, c11], _, chunk =>
    have k0 := chunk 0 (by omega)
    have k1 := chunk 1 (by omega)
    have k2 := chunk 2 (by omega)
    have k3 := chunk 3 (by omega)
    have k4 := chunk 4 (by omega)
    have k5 := chunk 5 (by omega)
    simp at k0 k1 k2 k3 k4 k5
    simp [k0, k1, k2, k3, k4, k5]
theorem cells_sb {H : Type} {enc : TypeId × Value → H} {w : World} {base : Nat} {sp : Nat → Bool} {held : Bool} {fuel : Nat} {cs : List Value} {p : List MemPlace} {zs : List (Int × Int)} (hz : zs.length = 6)
    (h : DataW.trod enc Tryz.prog w base sp held fuel 147 cs = some (.agg (zs.map fun z => .agg [.lit (.int .i64 z.1), .lit (.int .i64 z.2)]), p)) : cs = zs.flatMap fun z => [.int .i64 z.1, .int .i64 z.2] := by
  cases fuel with
  | zero => simp [DataW.trod] at h
  | succ fuel =>
    simp only [DataW.trod, Tryz.underlying147, cellsPair, cellsSB] at h
    split at h
    · rename_i hl
      obtain ⟨xs, hm, hx⟩ := Option.map_eq_some_iff.1 h
      have hxs : xs.map (·.1) = zs.map fun z => (DataW.agg [.lit (.int .i64 z.1), .lit (.int .i64 z.2)] : DataW H) := by
        have := congrArg Prod.fst hx
        simpa using this
      refine pairs_all hz hl (fun i hi => ?_)
      obtain ⟨b, hb, hf⟩ := Lib.mapM_at hm i i (by simp [hi])
      have h2 : (xs.map (·.1))[i]? = some b.1 := by simp [hb]
      rw [hxs, List.getElem?_map, List.getElem?_eq_getElem (by omega)] at h2
      have h3 := Option.some.inj h2
      obtain ⟨b1, b2⟩ := b
      simp only at h3
      subst h3
      exact ⟨_, List.getElem?_eq_getElem (by omega), cells_pair hf⟩
    · cases h
end Go.Proofs.YtbjjdkemappelaaGreatDoor

