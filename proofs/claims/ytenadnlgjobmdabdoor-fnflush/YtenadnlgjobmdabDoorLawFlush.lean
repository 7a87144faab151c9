/- The law of plans of flushes: the walk. -/
import Derived.Test.YtenadnlgjobmdabDoorJlF
import Derived.Test.YtenadnlgjobmdabDoorJiC
import Derived.Test.YtenadnlgjobmdabDoorLawJournal
import Derived.Test.YtenadnlgjobmdabDoorDevC
import Derived.Deep.DeepCutAuto
import Derived.Deep.RegionWith
namespace Go.Proofs.YtenadnlgjobmdabDoor
open Go.RowKit

theorem rd_four (w1 : World) (a b c d : Int) : RdI (w1.alloc (.cells #[.int .i64 a, .int .i64 b, .int .i64 c, .int .i64 d] 3)) (.slice (some ⟨w1.heap.size, 0, none⟩) 4 4) [a, b, c, d] := by
  refine ⟨rfl, _, _, rfl, ⟨Nat.le_refl _, fun e => by cases e⟩, fun _ => ⟨w1.heap.size, 0, rfl, by simp, fun j hj => ?_⟩⟩
  obtain ⟨e0, e1, e2, e3, -, -, -, -⟩ := four_cells (at_new (w := w1) (o := .cells #[.int .i64 a, .int .i64 b, .int .i64 c, .int .i64 d] 3) rfl)
  rw [Nat.zero_add]
  rcases (show j = 0 ∨ j = 1 ∨ j = 2 ∨ j = 3 by simp at hj; omega) with rfl | rfl | rfl | rfl
  · exact e0
  · exact e1
  · exact e2
  · exact e3
/-- In the midst of the stores: the box of the devices. -/
structure FlI (w7 : World) (zs : List Int) (wr : World) (k : Nat) (a0 a1 a2 a3 : Option Addr) (c0 c1 c2 c3 : Nat) : Prop where
  box : wr.heap[w7.heap.size]? = some (.cells #[.slice a0 336 c0, .slice a1 k c1, .slice a2 32 c2, .slice a3 0 c3] 36 (0, 0))
  rd : RdDev wr (.agg #[.slice a0 336 c0, .slice a1 k c1, .slice a2 32 c2, .slice a3 0 c3]) zs336 (stP zs k) zs32 []
  below : Below w7.heap.size w7 wr
  size : w7.heap.size < wr.heap.size
theorem dev_forms {w : World} {v : Value} {ps : List St} {k : Nat} (h : RdDev w v zs336 ps zs32 []) (hk : ps.length = k) : ∃ a0 c0 a1 c1 a2 c2 a3 c3, v = .agg #[.slice a0 336 c0, .slice a1 k c1, .slice a2 32 c2, .slice a3 0 c3] := by
  obtain ⟨_, _, _, _, rfl, ⟨_, _, e, h1, h2⟩, ⟨_, _, e', h3, h4⟩⟩ := h
  cases e
  cases e'
  obtain ⟨a0, c0, rfl⟩ := RdI.form h1 zs336_len
  obtain ⟨a1, c1, rfl⟩ := RdS.form h2 hk
  obtain ⟨a2, c2, rfl⟩ := RdI.form h3 zs32_len
  obtain ⟨a3, c3, rfl⟩ := RdE.form h4 (n := 0) rfl
  exact ⟨a0, c0, a1, c1, a2, c2, a3, c3, rfl⟩

set_option maxRecDepth 100000 in
set_option maxHeartbeats 16000000 in
theorem fnFlush_law (vA vB : Value) (cs bs : List Int) (w : World) (hS : SB w) (ha : RdB w vA cs) (hb : RdB w vB bs) (hla : cs.length ≤ maxLen) (hlb : bs.length ≤ maxLen) :
    Calls Tryd.prog 6 #[vA, vB] w fun e w' => e = .returned (.bool true) ∧ Below w.heap.size w w' := by
  have HA := hideIt ha
  have HB := hideIt hb
  have HS := hideIt hS
  obtain ⟨aA, cA, rfl, _⟩ := ha.shape
  obtain ⟨aB, cB, rfl, _⟩ := hb.shape
  simp only [maxLen] at hla hlb
  clear ha hb hS
  by_cases c1 : 1048576 < cs.length
  · go_enter Tryd.func6, Tryd.ntmps6
    go_wp2
    go_ret
    exact ⟨rfl, Below.refl _ _⟩
  by_cases c2 : 1048576 < bs.length
  · go_enter Tryd.func6, Tryd.ntmps6
    go_wp2
    go_ret
    exact ⟨rfl, Below.refl _ _⟩
  go_enter Tryd.func6, Tryd.ntmps6
  go_wp2_with fail
  refine (at_some _ cs 0 336 w HA.out (by omega) (by omega) (by omega) (by omega) (by omega)).mono ?_
  rintro e w1 ⟨z0, rfl, hz0, hb1⟩
  have B1 := hideIt hb1
  have hs1 : w.heap.size ≤ w1.heap.size := hb1.size
  clear hb1
  go_wp2_with fail
  refine (at_some _ cs 1 336 _ (HA.out.below B1.out) (by omega) (by omega) (by omega) (by omega) (by omega)).mono ?_
  rintro e w2 ⟨z1, rfl, hz1, hb2⟩
  have B2 := hideIt (below_trans B1.out hb2 hs1)
  have hs2 : w1.heap.size ≤ w2.heap.size := hb2.size
  clear hb2 B1
  go_wp2_with fail
  refine (at_some _ bs 0 20 _ (HB.out.below B2.out) (by omega) (by omega) (by omega) (by omega) (by omega)).mono ?_
  rintro e w3 ⟨z2, rfl, hz2, hb3⟩
  have B3 := hideIt (below_trans B2.out hb3 (by omega))
  have hs3 : w2.heap.size ≤ w3.heap.size := hb3.size
  clear hb3 B2
  go_wp2_with fail
  refine (at_some _ bs 1 20 _ (HB.out.below B3.out) (by omega) (by omega) (by omega) (by omega) (by omega)).mono ?_
  rintro e w4 ⟨z3, rfl, hz3, hb4⟩
  have B4 := hideIt (below_trans B3.out hb4 (by omega))
  have hs4 : w3.heap.size ≤ w4.heap.size := hb4.size
  clear hb4 B3
  have RZ := hideIt (rd_four w4 (z0 : Int) (z1 : Int) (z2 : Int) (z3 : Int))
  have hbz : Below w4.heap.size w4 (w4.alloc (.cells #[.int .i64 (z0 : Int), .int .i64 (z1 : Int), .int .i64 (z2 : Int), .int .i64 (z3 : Int)] 3)) := (Below.refl _ _).alloc (Nat.le_refl _) _
  obtain ⟨zs, hzs⟩ : ∃ zs : List Int, zs = [(z0 : Int), (z1 : Int), (z2 : Int), (z3 : Int)] := ⟨_, rfl⟩
  rw [← hzs] at RZ
  have hzl : zs.length = 4 := by rw [hzs]; rfl
  have ZL := hideIt hzl
  have ZP : Hid (∀ z ∈ zs, 0 ≤ z ∧ z < 336) := fun z hz => by
    rw [hzs] at hz
    simp at hz
    rcases hz with rfl | rfl | rfl | rfl <;> omega
  have FP := hideIt (fp_ok ZP.out (by omega))
  obtain ⟨F, eF, pF⟩ := flush_done ZP.out (by omega)
  rw [hzl] at eF
  have EF := hideIt eF
  have PF := hideIt pF
  have HF := hideIt (pmB_iff.1 pF).1
  have FK := hideIt (fun i hi => flush_kind ZP.out i hi)
  have FL : Hid (∀ (i k : Nat) (hi : i < (flushL zs).length) (hk' : k < (flushL zs).length), k < i → (flushL zs)[i].kind = 2 → (flushL zs)[k].kind = 2 ∧ ¬ (flushL zs)[i].at_ / 8 = (flushL zs)[k].at_ / 8) := fun i k hi _ hk => flush_lines zs i k hi hk
  have STEP := hideIt (fun k (hk : k < zs.length) => stP_step ZP.out k hk (by omega))
  have hfl : (flushL zs).length ≤ 5 := by have := flushL_len zs; omega
  have hf1 : 1 < (flushL zs).length := by have := nl_pos zs (by omega); simp only [flushL, List.length_append, List.length_singleton]; omega
  clear hzl hzs eF pF
  generalize flushL zs = pl at *
  go_wp2_with fail
  refine (implFlushPlan_any _ zs _ RZ.out (by have := ZL.out; omega)).mono ?_
  rw [FP.out.1, FP.out.2]
  rintro e w5 ⟨v5, rfl, hr5, hb5⟩
  obtain ⟨a5, c5, rfl⟩ := RdM.form hr5.rd (n := pl.length) rfl
  have L5 := hideIt hr5.rd
  have R5 := hideIt (Rd.below RZ.out hb5)
  have B5 := hideIt (below_trans B4.out (below_trans hbz hb5 (by simp)) (by omega))
  have hs5 : w4.heap.size < w5.heap.size := by have := hb5.size; simp at this; omega
  clear hr5 hb5 hbz RZ B4
  go_wp2_with fail
  refine (specFlushPlan_any _ zs _ R5.out (by have := ZL.out; omega)).mono ?_
  rw [FP.out.1, FP.out.2]
  rintro e w6 ⟨v6, rfl, hr6, hb6⟩
  obtain ⟨a6, c6, rfl⟩ := RdM.form hr6.rd (n := pl.length) rfl
  have M6 := hideIt hr6.rd
  have L6 := hideIt (Rd.below L5.out hb6)
  have R6 := hideIt (Rd.below R5.out hb6)
  have B6 := hideIt (below_trans B5.out hb6 (by omega))
  have hs6 : w5.heap.size ≤ w6.heap.size := hb6.size
  clear hr6 hb6 L5 R5 B5 FP
  go_wp2_with fail
  refine (blank_any _).mono ?_
  rintro e w7 ⟨v7, rfl, hr7, hb7⟩
  have Q7 := hideIt hr7.rd
  have M7 := hideIt (Rd.below M6.out hb7)
  have L7 := hideIt (Rd.below L6.out hb7)
  have R7 : Hid (RdI w7 (.slice (some ⟨w4.heap.size, 0, none⟩) 4 4) zs) := Rd.below R6.out hb7
  have B7 := hideIt (below_trans B6.out hb7 (by omega))
  have hs7 : w6.heap.size ≤ w7.heap.size := hb7.size
  obtain ⟨e0, f0, e1, f1, e2, f2, e3, f3, rfl⟩ := dev_forms hr7.rd (k := 0) rfl
  have ZC : Hid (∀ k (h : k < zs.length), w7.cell? ⟨w4.heap.size, k, none⟩ = some (.int .i64 zs[k])) := by
    obtain ⟨_, _, e, _, hc⟩ := R7.out.shape
    injection e with q1 q2 q3
    obtain ⟨b, o, e', _, hh⟩ := hc (by have := ZL.out; omega)
    rw [← q1] at e'
    injection e' with e'
    injection e' with e1 e2
    subst e1 e2
    intro k hk
    have := hh k hk
    rw [Nat.zero_add] at this
    exact this
  clear hr7 hb7 M6 L6 R6 B6 R7
  have START : Hid (FlI w7 zs (w7.alloc (.cells #[.slice e0 336 f0, .slice e1 0 f1, .slice e2 32 f2, .slice e3 0 f3] 36)) 0 e0 e1 e2 e3 f0 f1 f2 f3) :=
    ⟨at_new rfl, Q7.out.below ((Below.refl _ _).alloc (Nat.le_refl _) _), (Below.refl _ _).alloc (Nat.le_refl _) _, by rw [World.size_alloc]; exact Nat.lt_succ_self _⟩
  have hzl4 : zs.length ≤ 4 := Nat.le_of_eq ZL.out
  have hzl4' : 4 ≤ zs.length := Nat.le_of_eq ZL.out.symm
  go_wp2
  go_loopw [11, 12, 13] (fun i _ _ wr => ∃ k : Nat, k ≤ 4 ∧ i = .int .i64 k ∧ ∃ (a0 a1 a2 a3 : Option Addr) (c0 c1 c2 c3 : Nat), Hid (FlI w7 zs wr k a0 a1 a2 a3 c0 c1 c2 c3)) (fun i _ _ _ => 4 - (intOf i).toNat)
  case atStart => exact ⟨0, by omega, rfl, _, _, _, _, _, _, _, _, START⟩
  case round =>
    obtain ⟨k, hk, rfl, a0, a1, a2, a3, d0, d1, d2, d3, I⟩ := hrel
    clear START Q7
    have hzr := I.out.size
    have hbr := I.out.below
    obtain ⟨x0, x1, x2, x3, -, -, -, -⟩ := four_cells I.out.box
    by_cases hlt : k < 4
    · have hkz : k < zs.length := by omega
      have y0 := (hbr.cell (p := ⟨w4.heap.size, k, none⟩) (by show w4.heap.size < w7.heap.size; omega)).trans (ZC.out k hkz)
      have ST := hideIt (STEP.out k hkz)
      have k0 : (0 : Int) ≤ (k : Int) := by omega
      have k1 : (k : Int) < 4 := by omega
      have wpk : IntKind.i64.wrap ((k : Int) + 1) = (k : Int) + 1 := by rw [IntKind.wrap_i64]; omega
      have RR := hideIt I.out.rd
      have SL := hideIt (stP_len zs (k + 1))
      have SL0 := hideIt (stP_len zs k)
      clear FK FL
      generalize zs[k] = z at *
      go_wp2
      go_cut [12, 13] (fun s t wx => ∃ (i0 i1 i2 i3 : Option Addr) (j0 j1 j2 j3 bx lo hi : Nat), t = .int .i64 0 ∧ s = .pointer (some ⟨bx, 0, none⟩) ∧ Hid (CutD wr wx (.slice i0 336 j0) (.slice i1 (k + 1) j1) (.slice i2 32 j2) (.slice i3 0 j3) zs336 (stP zs (k + 1)) zs32 [] bx lo hi))
      case first =>
        as_aux_lemma =>
          obtain ⟨q0, q1, q2, q3, -, -, -, -⟩ := four_cells (at_old (o := .cells #[.slice none 0 0, .slice none 0 0, .slice none 0 0, .slice none 0 0] 36) I.out.box)
          have yq : (wr.alloc (.cells #[.slice none 0 0, .slice none 0 0, .slice none 0 0, .slice none 0 0] 36)).cell? ⟨w4.heap.size, k, none⟩ = some (.int .i64 z) := ((((Below.refl wr.heap.size wr).alloc (Nat.le_refl _) (.cells #[.slice none 0 0, .slice none 0 0, .slice none 0 0, .slice none 0 0] 36)).cell (p := ⟨w4.heap.size, k, none⟩) (by show w4.heap.size < wr.heap.size; omega))).trans y0
          have SK : Hid (∀ w', Below wr.heap.size wr w' → w'.cell? ⟨w7.heap.size, 0, none⟩ = some (.slice a0 336 d0) ∧ w'.cell? ⟨w7.heap.size, 1, none⟩ = some (.slice a1 k d1) ∧ w'.cell? ⟨w7.heap.size, 2, none⟩ = some (.slice a2 32 d2) ∧ w'.cell? ⟨w7.heap.size, 3, none⟩ = some (.slice a3 0 d3) ∧ w'.cell? ⟨w4.heap.size, k, none⟩ = some (.int .i64 z)) := fun w' hb' => by
            obtain ⟨s0, s1, s2, s3, _⟩ := four_cells ((hb'.block w7.heap.size (by omega)).trans I.out.box)
            exact ⟨s0, s1, s2, s3, (hb'.cell (p := ⟨w4.heap.size, k, none⟩) (by show w4.heap.size < wr.heap.size; omega)).trans y0⟩
          go_region_held3 (fun w' => w'.cell? ⟨w7.heap.size, 0, none⟩ = some (.slice a0 336 d0) ∧ w'.cell? ⟨w7.heap.size, 1, none⟩ = some (.slice a1 k d1) ∧ w'.cell? ⟨w7.heap.size, 2, none⟩ = some (.slice a2 32 d2) ∧ w'.cell? ⟨w7.heap.size, 3, none⟩ = some (.slice a3 0 d3) ∧ w'.cell? ⟨w4.heap.size, k, none⟩ = some (.int .i64 z)) (exact SK.out _ (by repeat (first | exact BF.out | exact Below.refl _ _ | refine below_allocD ?_ _ | refine Below.drew ?_ | refine Below.setCell ?_ (by first | exact Nat.le_refl _ | exact BF.out.size) _)))
            (first
            | (go_at_call 22; refine (implMicroDo_any _ 1 z ((k : Int) + 1) zs336 (stP zs k) zs32 [] _ (HS.out.below (below_trans (below_trans B7.out I.out.below (by omega)) (by repeat (first | exact Below.refl _ _ | refine below_allocD ?_ _ | refine Below.drew ?_)) (by omega))) (RR.out.below (by repeat (first | exact Below.refl _ _ | refine below_allocD ?_ _ | refine Below.drew ?_))) (by rw [zs336_len]; omega) (by rw [SL0.out]; omega) (by rw [zs32_len]; omega) (by simp)).mono ?_; rw [ST.out.1, ST.out.2.1, ST.out.2.2.1, ST.out.2.2.2.1, ST.out.2.2.2.2]; rintro e wf ⟨vf, rfl, hrf, hbf⟩; obtain ⟨i0, j0, i1, j1, i2, j2, i3, j3, rfl⟩ := dev_forms hrf.rd SL.out; have RF := hideIt hrf; have BF : Hid (Below wr.heap.size wr wf) := below_trans (b := _) (by repeat (first | exact Below.refl _ _ | refine below_allocD ?_ _ | refine Below.drew ?_)) hbf (Below.size (B := wr.heap.size) (by repeat (first | exact Below.refl _ _ | refine below_allocD ?_ _ | refine Below.drew ?_))); (first | (have VY : Hid (wf.heap[wr.heap.size]? = some (.cells #[.slice none 0 0, .slice none 0 0, .slice none 0 0, .slice none 0 0] 36 (0, 0))) := (hbf.block wr.heap.size (by first | (rw [World.size_alloc]; exact Nat.lt_succ_self _) | (show _ < (World.alloc _ _).heap.size; rw [World.size_alloc]; exact Nat.lt_succ_self _))).trans (at_new rfl); have LT : wr.heap.size < (World.alloc wr (.cells #[.slice none 0 0, .slice none 0 0, .slice none 0 0, .slice none 0 0] 36)).heap.size := (by rw [World.size_alloc]; exact Nat.lt_succ_self _); have GE := Nat.le_refl wr.heap.size; obtain ⟨t0, t1, t2, t3, t4, t5, t6, t7⟩ := four_cells VY.out) | skip); clear hrf hbf))
          all_goals
            go_wp2_with fail
            go_meet
            first
              | exact ⟨i0, i1, i2, i3, j0, j1, j2, j3, _, _, _, rfl, rfl, CutD.new RF.out (Below.size (B := wr.heap.size) (by repeat (first | exact Below.refl _ _ | refine below_allocD ?_ _ | refine Below.drew ?_))) (Nat.le_refl _) BF.out⟩
              | exact ⟨i0, i1, i2, i3, j0, j1, j2, j3, _, _, _, rfl, rfl, (CutD.new RF.out (Below.size (B := wr.heap.size) (by repeat (first | exact Below.refl _ _ | refine below_allocD ?_ _ | refine Below.drew ?_))) (Nat.le_refl _) BF.out).drew⟩
              | exact ⟨i0, i1, i2, i3, j0, j1, j2, j3, _, _, _, rfl, rfl, CutD.old LT RF.out (Below.size (B := wr.heap.size) (by repeat (first | exact Below.refl _ _ | refine below_allocD ?_ _ | refine Below.drew ?_))) (Nat.le_refl _) BF.out GE VY.out⟩
              | exact ⟨i0, i1, i2, i3, j0, j1, j2, j3, _, _, _, rfl, rfl, (CutD.old LT RF.out (Below.size (B := wr.heap.size) (by repeat (first | exact Below.refl _ _ | refine below_allocD ?_ _ | refine Below.drew ?_))) (Nat.le_refl _) BF.out GE VY.out).drew⟩
      case rest =>
      obtain ⟨i0, i1, i2, i3, j0, j1, j2, j3, bx, lo, hi, rfl, rfl, C⟩ := hcut
      have hbc := C.out.below
      have hlo0 := C.out.lo0
      have hhi1 := C.out.hi1
      have hbx0 := C.out.bx0
      have hbx1 := C.out.bx1
      have hzc := hbc.size
      obtain ⟨p0, p1, p2, p3, -, -, -, -⟩ := four_cells C.out.box
      have DB := hideIt ((hbc.block w7.heap.size (by omega)).trans I.out.box)
      obtain ⟨x0, x1, x2, x3, x4, x5, x6, x7⟩ := four_cells DB.out
      have NEXT : Hid (∃ (a0 a1 a2 a3 : Option Addr) (c0 c1 c2 c3 : Nat), Hid (FlI w7 zs (putR wc w7.heap.size (.slice i0 336 j0) (.slice i1 (k + 1) j1) (.slice i2 32 j2) (.slice i3 0 j3)) (k + 1) a0 a1 a2 a3 c0 c1 c2 c3)) := by
        have O := putR_out wc w7.heap.size (.slice i0 336 j0) (.slice i1 (k + 1) j1) (.slice i2 32 j2) (.slice i3 0 j3)
        have Z := putR_size wc w7.heap.size (.slice i0 336 j0) (.slice i1 (k + 1) j1) (.slice i2 32 j2) (.slice i3 0 j3)
        refine ⟨i0, i1, i2, i3, j0, j1, j2, j3, putR_box DB.out, (C.out.row.outside O (by omega) hhi1).rd, (below_trans I.out.below hbc (by omega)).trans (O.below (Nat.le_refl _) (by omega)), by rw [Z]; omega⟩
      clear hbc C DB I RR ST y0 hbr
      go_wp2
      go_roundw
      case rel => exact ⟨k + 1, by omega, by go_num, NEXT.out⟩
      case measure => simp [intOf]; omega
    · obtain rfl : k = 4 := by omega
      have L8 := hideIt (Rd.below L7.out hbr)
      have M8 := hideIt (Rd.below M7.out hbr)
      have B8 := hideIt (below_trans B7.out hbr (by omega))
      have RR := hideIt I.out.rd
      clear L7 M7 B7 ZC STEP I hbr
      go_wp2_with fail
      refine (implMicrosDo_any _ _ pl zs336 (stP zs 4) zs32 [] _ (HS.out.below B8.out) RR.out L8.out (by rw [zs336_len]; omega) (by rw [stP_len]; omega) (by rw [zs32_len]; omega) (by simp) (by omega)).mono ?_
      rw [EF.out]
      rintro e w9 ⟨v9, rfl, hr9, hb9⟩
      have hs9 : wr.heap.size ≤ w9.heap.size := hb9.size
      have D9 := hideIt hr9.rd
      obtain ⟨_, _, _, _, rfl, ⟨_, _, q, h1, h2⟩, ⟨_, _, q', h3, h4⟩⟩ := hr9.rd
      cases q
      cases q'
      obtain ⟨b0, g0, rfl⟩ := RdI.form h1 (n := 336) HF.out
      obtain ⟨b1, g1, rfl⟩ := RdS.form h2 (n := 0) rfl
      obtain ⟨b2, g2, rfl⟩ := RdI.form h3 zs32_len
      obtain ⟨b3, g3, rfl⟩ := RdE.form h4 (n := 0) rfl
      have L9 := hideIt (Rd.below L8.out hb9)
      have M9 := hideIt (Rd.below M8.out hb9)
      have B9 := hideIt (below_trans B8.out hb9 (by omega))
      clear hr9 hb9 h1 h2 h3 h4 L8 M8 B8 RR EF x0 x1 x2 x3
      obtain ⟨wb, hwb⟩ : ∃ wb : World, wb = w9.alloc (.cells #[.slice b0 336 g0, .slice b1 0 g1, .slice b2 32 g2, .slice b3 0 g3] 36) := ⟨_, rfl⟩
      have hbb : Below w9.heap.size w9 wb := by rw [hwb]; exact (Below.refl _ _).alloc (Nat.le_refl _) _
      have hsb : w9.heap.size < wb.heap.size := by rw [hwb, World.size_alloc]; exact Nat.lt_succ_self _
      have VB : Hid (wb.heap[w9.heap.size]? = some (.cells #[.slice b0 336 g0, .slice b1 0 g1, .slice b2 32 g2, .slice b3 0 g3] 36 (0, 0))) := by rw [hwb]; exact at_new rfl
      have LB := hideIt (Rd.below L9.out hbb)
      have MB := hideIt (Rd.below M9.out hbb)
      have DB := hideIt (D9.out.below hbb)
      have BB := hideIt (below_trans B9.out hbb (by omega))
      have CL : Hid (∃ b o, a5 = some ⟨b, o, none⟩ ∧ b < wb.heap.size ∧ ∀ i (h : i < pl.length), wb.cell? ⟨b, o + i * 3, none⟩ = some (.int .i64 pl[i].kind) ∧ wb.cell? ⟨b, o + i * 3 + 1, none⟩ = some (.int .i64 pl[i].at_)) := by
        obtain ⟨_, _, q, _, hc⟩ := (show RdM wb (.slice a5 pl.length c5) pl from LB.out).shape
        injection q with q1 q2 q3
        obtain ⟨b, o, e', hb', hh⟩ := hc (by omega)
        exact ⟨b, o, q1.trans e', hb', fun i hi => ⟨(hh i hi).1, (hh i hi).2.1⟩⟩
      have hbb' := hideIt hbb
      clear L9 M9 D9 B9 hbb
      obtain ⟨bL, oL, rfl, hbL, hcl⟩ := CL.out
      have CC := hideIt hcl
      clear hcl CL
      go_upto_region 15 with fail
      rw [← hwb]
      clear hwb
      go_wp2
      go_loopw [16, 17] (fun i _ wq => ∃ i' : Nat, i' ≤ pl.length ∧ i = .int .i64 i' ∧ Below wb.heap.size wb wq) (fun i _ _ => pl.length - (intOf i).toNat)
      case atStart => exact ⟨0, by omega, rfl, Below.refl _ _⟩
      case round =>
        obtain ⟨i, hi, rfl, hbi⟩ := hrel
        by_cases hli : i < pl.length
        · have i0 : (0 : Int) ≤ (i : Int) := by omega
          have i1 : (i : Int) < (pl.length : Int) := by omega
          go_wp2
          go_loopw [17] (fun kk wq => ∃ k' : Nat, k' ≤ i ∧ kk = .int .i64 k' ∧ Below wb.heap.size wb wq) (fun kk _ => i - (intOf kk).toNat)
          case atStart => exact ⟨0, by omega, rfl, hbi⟩
          case round =>
            obtain ⟨k', hk', rfl, hbk⟩ := hrel
            by_cases hlk : k' < i
            · have kk0 : (0 : Int) ≤ (k' : Int) := by omega
              have kk1 : (k' : Int) < (i : Int) := by omega
              have kk2 : (k' : Int) < (pl.length : Int) := by omega
              have m0 := (hbk.cell (p := ⟨bL, oL + i * 3, none⟩) hbL).trans (CC.out i hli).1
              have m1 := (hbk.cell (p := ⟨bL, oL + i * 3 + 1, none⟩) hbL).trans (CC.out i hli).2
              have n0 := (hbk.cell (p := ⟨bL, oL + k' * 3, none⟩) hbL).trans (CC.out k' (by omega)).1
              have n1 := (hbk.cell (p := ⟨bL, oL + k' * 3 + 1, none⟩) hbL).trans (CC.out k' (by omega)).2
              have f1 := FK.out i hli
              have f2 := FK.out k' (by omega)
              have f3 := FL.out i k' hli (by omega) hlk
              generalize pl[i].kind = ki at *
              generalize pl[i].at_ = ai at *
              generalize pl[k'].kind = kj at *
              generalize pl[k'].at_ = aj at *
              obtain ⟨-, u0, u1⟩ := f1
              obtain ⟨-, v0, v1⟩ := f2
              by_cases c : ki = 2
              · obtain ⟨rfl, hne⟩ := f3 c
                subst c
                have hd : (ai / 8 == aj / 8) = false := by rw [beq_eq_false_iff_ne]; exact hne
                clear hne f3
                go_wp2
                go_quiet (fail)
                go_wp2
                go_roundw
                case rel => exact ⟨k' + 1, by omega, by go_num, Below.drewN'' hbk _⟩
                case measure => simp [intOf]; omega
              · have hd : (ki == 2) = false := by rw [beq_eq_false_iff_ne]; exact c
                clear c f3
                go_wp2
                go_quiet (fail)
                go_wp2
                go_roundw
                case rel => exact ⟨k' + 1, by omega, by go_num, Below.drewN'' hbk _⟩
                case measure => simp [intOf]; omega
            · go_wp2
              go_roundw
              case rel => exact ⟨i + 1, by omega, by go_num, hbk⟩
              case measure => simp [intOf]; omega
        · have hf1' : (1 : Int) < (pl.length : Int) := by omega
          have LQ := hideIt (Rd.below LB.out hbi)
          have MQ := hideIt (Rd.below MB.out hbi)
          have VQ := hideIt ((hbi.block w9.heap.size hsb).trans VB.out)
          have DQ := hideIt (DB.out.below hbi)
          have BQ := hideIt (below_trans BB.out hbi (by omega))
          have PD := hideIt (show (pmB F [] && blkB zs32 []) = true by rw [PF.out, zs32_ok]; rfl)
          have hsq := hbi.size
          obtain ⟨x0, x1, x2, x3, -, -, -, -⟩ := four_cells VQ.out
          clear hbi LB MB VB DB BB FK FL CC
          go_wp2_with fail
          refine (sameMicros_same _ _ pl _ LQ.out MQ.out (by omega)).mono ?_
          rintro e w10 ⟨rfl, hb10⟩
          have DX := hideIt (DQ.out.below hb10)
          have BX := hideIt (below_trans BQ.out hb10 (by omega))
          obtain ⟨x0, x1, x2, x3, -, -, -, -⟩ := four_cells ((hb10.block w9.heap.size (by omega)).trans VQ.out)
          clear hb10
          go_wp2_with fail
          refine (implDevicesOK_any _ F [] zs32 [] _ DX.out (by have := HF.out; omega) (by simp) (by rw [zs32_len]; omega) (by simp)).mono ?_
          rw [PD.out]
          rintro e w11 ⟨rfl, hb11⟩
          go_wp2
          go_ret
          exact ⟨rfl, below_trans BX.out hb11 (by have := BX.out.size; omega)⟩
end Go.Proofs.YtenadnlgjobmdabDoor
