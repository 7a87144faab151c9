/- What is touched is warmer, up to a bound; all cools down to nothing: the walk of the law. -/
import Derived.Test.YtfcjhhiekjbbiaaHtA
namespace Go.Proofs.Ytfcjhhiekjbbiaa
open Go.RowKit

theorem half_small {z : Int} {n : Nat} (h : z * (2 : Int) ^ n < 128) : z / 2 * (2 : Int) ^ (n + 1) < 128 := by
  rw [Int.pow_succ, Int.mul_comm ((2 : Int) ^ n) 2, ← Int.mul_assoc]
  have p : (0 : Int) ≤ (2 : Int) ^ n := Int.pow_nonneg (by omega)
  have q : z / 2 * 2 ≤ z := by omega
  have := Int.mul_le_mul_of_nonneg_right q p
  omega
/-- Heat, n times halved. -/
def Cool (zs : List Int) (n : Nat) : Prop := heatB zs = true ∧ ∀ k, k < 128 → 0 ≤ zs.getD k 0 ∧ zs.getD k 0 * (2 : Int) ^ n < 128
theorem cool_start {zs : List Int} (h : heatB zs = true) : Cool zs 0 := ⟨h, fun k hk => by
  obtain ⟨l, r⟩ := heat_parts h
  rw [List.getD_eq_getElem?_getD, List.getElem?_eq_getElem (by omega)]
  have := r k (by omega)
  simp only [Option.getD_some, Int.pow_zero, Int.mul_one]
  omega⟩
theorem cool_next {zs : List Int} {n : Nat} (h : Cool zs n) : Cool (decH zs 128) (n + 1) := ⟨decH_heat h.1, fun k hk => by
  rw [List.getD_eq_getElem?_getD, decH_at (heat_parts h.1).1 k hk]
  obtain ⟨a, b⟩ := h.2 k hk
  simp only [Option.getD_some]
  exact ⟨by omega, half_small b⟩⟩
theorem cool_end {zs : List Int} (h : Cool zs 7) (k : Nat) (hk : k < 128) : zs.getD k 0 = 0 := by
  obtain ⟨a, b⟩ := h.2 k hk
  have e : (2 : Int) ^ 7 = 128 := by decide
  rw [e] at b
  omega
theorem row_cell {w : World} {lo hi : Nat} {b c : Nat} {zs : List Int} (h : Row w 3 1 lo hi (.slice (some ⟨b, 0, none⟩) 128 c) 128 (ints zs)) (l : zs.length = 128) (k : Nat) (hk : k < 128) : w.cell? ⟨b, k, none⟩ = some (.int .i64 (zs.getD k 0)) := by
  obtain ⟨_, _, _, _, _, hcl⟩ := h.at
  have := hcl k (by omega)
  rw [this, ints_at zs k (by omega), List.getD_eq_getElem?_getD, List.getElem?_eq_getElem (by omega)]
  rfl
theorem row128 {w : World} {lo hi : Nat} {v : Value} {xs : List Value} (h : Row w 3 1 lo hi v 128 xs) : ∃ b c, v = .slice (some ⟨b, 0, none⟩) 128 c := by
  obtain ⟨b, c, e, _⟩ := own_blk h.1 (by omega)
  exact ⟨b, c, e⟩
theorem rd128 {w : World} {lo hi : Nat} {v : Value} {zs : List Int} (h : Row w 3 1 lo hi v 128 (ints zs)) (l : zs.length = 128) : RdI w v zs := by
  unfold RdI
  rw [l]
  exact h.rd
theorem touch_told (hs : List Int) (h : heatB hs = true) {i k : Int} (hi : 0 ≤ i ∧ i < 16) (hk : 0 ≤ k ∧ k < 8) : ∃ H, toR hs i k = (H, 0) ∧ heatB H = true := ⟨touH hs (8 * i + k).toNat, by
  unfold toR
  rw [if_neg (by have := (heat_parts h).1; omega), if_pos h, if_pos (by omega)], touH_heat h _⟩
theorem decay_told (hs : List Int) (h : heatB hs = true) : deR hs = (decH hs 128, 0) := by
  unfold deR
  rw [if_neg (by have := (heat_parts h).1; omega), if_pos h]

set_option maxRecDepth 100000 in
set_option maxHeartbeats 16000000 in
theorem fnHeat_law (vA vB : Value) (cs bs : List Int) (w : World) (hA : RdB w vA cs) (hB : RdB w vB bs) :
    Calls Try.prog 3 #[vA, vB] w fun e w' => e = .returned (.bool true) ∧ Below w.heap.size w w' := by
  obtain ⟨aA, cA, rfl, _⟩ := hA.shape
  obtain ⟨aB, cB, rfl, _⟩ := hB.shape
  have HA := hideIt hA
  have HB := hideIt hB
  clear hA hB
  by_cases c1 : 1048576 < cs.length
  · go_enter Try.func3, Try.ntmps3
    go_wp2
    go_ret
    exact ⟨rfl, Below.refl _ _⟩
  by_cases c2 : 1048576 < bs.length
  · go_enter Try.func3, Try.ntmps3
    go_wp2
    go_ret
    exact ⟨rfl, Below.refl _ _⟩
  obtain ⟨i0, i1⟩ := atV_bd bs 0 16 (by omega)
  obtain ⟨k0, k1⟩ := atV_bd bs 1 8 (by omega)
  have L4 := hideIt (fun w1 (hb : Below w.heap.size w w1) => at_exact _ bs 0 16 w1 (HB.out.below hb) (by omega) (by omega) (by omega) (by omega) (by omega))
  have L5 := hideIt (fun w1 (hb : Below w.heap.size w w1) => at_exact _ bs 1 8 w1 (HB.out.below hb) (by omega) (by omega) (by omega) (by omega) (by omega))
  generalize atV bs 0 16 = i at *
  generalize atV bs 1 8 = k at *
  go_enter Try.func3, Try.ntmps3
  go_wp2_with fail
  refine (heatOf_any _ cs w HA.out (by omega)).mono ?_
  rintro e w1 ⟨v1, hs, rfl, hheat, hr1, hb1⟩
  have R1 := hideIt hr1
  have B1 := hideIt hb1
  obtain ⟨g1, cp1, rfl⟩ := row128 hr1
  have hl := hideIt (heat_parts hheat).1
  obtain ⟨H, hT, hH⟩ := touch_told hs hheat (i := i) (k := k) (by omega) (by omega)
  have HT := hideIt hT
  have HHt := hideIt hH
  have HL := hideIt (heat_parts hH).1
  clear hr1 hb1 hheat hT hH
  go_wp2_with fail
  refine (L4.out _ B1.out).mono ?_
  rintro e w2 ⟨rfl, hb2⟩
  have B2 := hideIt (below_trans B1.out hb2 B1.out.size)
  have R2 := hideIt (R1.out.below hb2 (Nat.le_refl _))
  have z2 : w1.heap.size ≤ w2.heap.size := hb2.size
  clear hb2 L4 R1
  go_wp2_with fail
  refine (L5.out _ B2.out).mono ?_
  rintro e w3 ⟨rfl, hb3⟩
  have B3 := hideIt (below_trans B2.out hb3 B2.out.size)
  have R3 := hideIt (R2.out.below hb3 (by omega))
  have z3 : w2.heap.size ≤ w3.heap.size := hb3.size
  clear hb3 L5 R2 B2
  have LT := hideIt (implTouch_any _ hs i k w3 (rd128 R3.out hl.out) (by have := hl.out; omega))
  rw [HT.out] at LT
  go_wp2_with fail
  refine LT.out.mono ?_
  rintro e w4 ⟨v4, rfl, hr4, hb4⟩
  have B4 := hideIt (below_trans B3.out hb4 B3.out.size)
  have R4 := hideIt (R3.out.below hb4 (by omega))
  have X4 : Hid (Row w4 3 1 w3.heap.size w4.heap.size v4 128 (ints H)) := by unfold Hid; rw [← HL.out]; exact hr4
  have z4 : w3.heap.size ≤ w4.heap.size := hb4.size
  obtain ⟨g4, cp4, rfl⟩ := row128 X4.out
  clear hb4 R3 B3 hr4 LT
  have LS := hideIt (specTouch_any _ hs i k w4 (rd128 R4.out hl.out) (by have := hl.out; omega))
  rw [HT.out] at LS
  go_wp2_with fail
  refine LS.out.mono ?_
  rintro e w5 ⟨v5, rfl, hr5, hb5⟩
  have B5 := hideIt (below_trans B4.out hb5 B4.out.size)
  have X5 := hideIt (X4.out.below hb5 (Nat.le_refl _))
  have Y5 : Hid (Row w5 3 1 w4.heap.size w5.heap.size v5 128 (ints H)) := by unfold Hid; rw [← HL.out]; exact hr5
  have z5 : w4.heap.size ≤ w5.heap.size := hb5.size
  obtain ⟨g5, cp5, rfl⟩ := row128 Y5.out
  clear hb5 R4 B4 hr5 LS X4 HT
  go_wp2_with fail
  refine (sameInts_same _ _ H w5 (rd128 X5.out HL.out) (rd128 Y5.out HL.out) (by have := HL.out; omega)).mono ?_
  rintro e w6 ⟨rfl, hb6⟩
  have B6 := hideIt (below_trans B5.out hb6 B5.out.size)
  have X6 := hideIt (X5.out.below hb6 (by omega))
  have z6 : w5.heap.size ≤ w6.heap.size := hb6.size
  clear hb6 X5 Y5 B5
  have LO := hideIt (implHeatOK_any _ H w6 (rd128 X6.out HL.out) (by have := HL.out; omega))
  rw [HHt.out] at LO
  go_wp2_with fail
  refine LO.out.mono ?_
  rintro e w' ⟨rfl, hw'⟩
  subst w'
  clear LO
  go_wp2_with fail
  refine (implNewHeat_any w6).mono ?_
  rintro e w7 ⟨v7, rfl, hr7, hb7⟩
  rw [newH_len] at hr7
  obtain ⟨g7, cp7, rfl⟩ := row128 hr7
  have B7 := hideIt (below_trans B6.out hb7 B6.out.size)
  have X7 := hideIt (X6.out.below hb7 (by omega))
  have z7 : w6.heap.size ≤ w7.heap.size := hb7.size
  have C7 := hideIt (cool_start HHt.out)
  clear hb7 hr7 X6 B6 HHt HL
  go_wp2_with fail
  go_loopg [8, 12] 7 (fun g vX n wr => ∃ (m : Nat) (zs : List Int) (lo : Nat), m + g = 7 ∧ n = .int .i64 (m : Int) ∧ Hid (Row wr 3 1 lo wr.heap.size vX 128 (ints zs)) ∧ Hid (Cool zs m) ∧ Hid (Below w.heap.size w wr))
  case atStart => exact ⟨0, H, _, rfl, rfl, X7.out.wide (Nat.le_refl _) (by omega), C7, B7⟩
  case round =>
    obtain ⟨m, zs, lo, hm, rfl, X, C, B⟩ := hrel
    clear X7 C7 B7 z2 z3 z4 z5 z6 z7
    generalize gk = G0 at *
    obtain ⟨gX, cX, rfl⟩ := row128 X.out
    have LZ := hideIt (heat_parts C.out.1).1
    by_cases hlt : m < 7
    · have m1 : (m : Int) < 7 := by omega
      have LD := hideIt (implDecay_any _ zs wr (rd128 X.out LZ.out) (by have := LZ.out; omega))
      rw [decay_told zs C.out.1] at LD
      have LDe := hideIt (decH_128 LZ.out)
      go_wp2_with fail
      refine LD.out.mono ?_
      rintro e w8 ⟨v8, rfl, hr8, hb8⟩
      have X8 := hideIt (X.out.below hb8 (Nat.le_refl _))
      have Y8 : Hid (Row w8 3 1 wr.heap.size w8.heap.size v8 128 (ints (decH zs 128))) := by
        have q := hr8
        simp only at q
        rw [LDe.out] at q
        exact q
      have B8 := hideIt (below_trans B.out hb8 B.out.size)
      have C8 := hideIt (cool_next C.out)
      have DA := hideIt (fun j hj => decH_at (hs := zs) LZ.out j hj)
      have ZB : Hid (∀ j, j < 128 → 0 ≤ zs.getD j 0 ∧ zs.getD j 0 ≤ 64) := fun j hj => by
        rw [List.getD_eq_getElem?_getD, List.getElem?_eq_getElem (by have := LZ.out; omega)]
        exact (heat_parts C.out.1).2 j _
      obtain ⟨g8, cp8, rfl⟩ := row128 Y8.out
      have HX : Hid (∀ j, j < 128 → ∀ w', Below w8.heap.size w8 w' → w'.cell? ⟨gX, j, none⟩ = some (.int .i64 (zs.getD j 0))) := fun j hj w' hb => row_cell (X8.out.below hb hb8.size) LZ.out j hj
      have HY : Hid (∀ j, j < 128 → ∀ w', Below w8.heap.size w8 w' → w'.cell? ⟨g8, j, none⟩ = some (.int .i64 (zs.getD j 0 / 2))) := fun j hj w' hb => by
        have := row_cell (Y8.out.below hb (Nat.le_refl _)) LDe.out j hj
        rw [List.getD_eq_getElem?_getD, DA.out j hj] at this
        exact this
      clear hr8 hb8 X LD X8 DA C
      go_wp2_with fail
      go_loopg [15] 128 (fun g jv wj => ∃ j : Nat, j + g = 128 ∧ jv = .int .i64 (j : Int) ∧ Hid (Below w8.heap.size w8 wj))
      case atStart => exact ⟨0, by omega, rfl, Below.refl _ _⟩
      case round =>
        obtain ⟨j, hj, rfl, J⟩ := hrel
        have j0 : (0 : Int) ≤ (j : Int) := by omega
        by_cases hjl : j < 128
        · have j1 : (j : Int) < 128 := by omega
          have e1 := HX.out j hjl _ J.out
          have e2 := HY.out j hjl _ J.out
          obtain ⟨p0, p1⟩ := ZB.out j hjl
          generalize zs.getD j 0 = z at *
          have tq : Int.tdiv z 2 = z / 2 := Int.tdiv_eq_ediv_of_nonneg p0
          have wq : IntKind.i64.wrap (z / 2) = z / 2 := by rw [IntKind.wrap_i64]; omega
          rw [← tq] at e2 wq
          clear tq
          go_wp2_with fail
          go_quiet (fail)
          go_wp2
          go_roundg (128 - (j + 1))
          case rel => exact ⟨j + 1, by omega, by go_num, ⟨J.out.os, J.out.tape, J.out.output, J.out.size, J.out.block⟩⟩
          case measure => omega
        · obtain rfl : j = 128 := by omega
          have R9 := hideIt ((Y8.out.below J.out (Nat.le_refl _)).wide (Nat.le_refl _) J.out.size)
          have B9 := hideIt (below_trans B8.out J.out B8.out.size)
          go_wp2
          go_roundg (7 - (m + 1))
          case rel => exact ⟨m + 1, _, _, by omega, by go_num, R9, C8, B9⟩
          case measure => omega
    · obtain rfl : m = 7 := by omega
      have HX : Hid (∀ j, j < 128 → wr.cell? ⟨gX, j, none⟩ = some (.int .i64 0)) := fun j hj => by
        have := row_cell X.out LZ.out j hj
        rw [cool_end C.out j hj] at this
        exact this
      go_wp2
      go_loopg [16] 128 (fun g jv wj => ∃ j : Nat, j + g = 128 ∧ jv = .int .i64 (j : Int) ∧ wj = wr)
      case atStart => exact ⟨0, by omega, rfl, rfl⟩
      case round =>
        obtain ⟨j, hj, rfl, rfl⟩ := hrel
        have j0 : (0 : Int) ≤ (j : Int) := by omega
        by_cases hjl : j < 128
        · have j1 : (j : Int) < 128 := by omega
          have e1 := HX.out j hjl
          go_wp2
          go_roundg (128 - (j + 1))
          case rel => exact ⟨j + 1, by omega, by go_num, rfl⟩
          case measure => omega
        · obtain rfl : j = 128 := by omega
          go_wp2
          go_ret
          exact ⟨rfl, B.out⟩
end Go.Proofs.Ytfcjhhiekjbbiaa
