/- An operation that is drawn: its numbers are of the machine. -/
import Derived.Test.YtjkdmhdehihcbaaGreatDoorFsK
namespace Go.Proofs.YtjkdmhdehihcbaaGreatDoor
open Go.RowKit
set_option maxRecDepth 100000 in
set_option maxHeartbeats 16000000 in
theorem srcOp_bd (w0 w : World) (b k : Nat) (vC : Value) (bs : List Int) (h : Src w0 w b vC bs k) (hk : k ≤ 600000) :
    Calls Tryz.prog 21 #[.pointer (some ⟨b, 0, none⟩)] w fun e w' => ∃ kd p t g y, e = .returned (.agg #[.int .i64 kd, .string p, .string t, .int .i64 g, .int .i64 y]) ∧ p.size ≤ 100 ∧ t.size ≤ 100 ∧ opB kd p t g y = true ∧ (-9223372036854775808 ≤ g ∧ g ≤ 9223372036854775807 ∧ -9223372036854775808 ≤ y ∧ y ≤ 9223372036854775807) ∧ Src w0 w' b vC bs (k + 60) ∧ Outside b (b + 1) w w' := by
  have hsz := h.size
  have bw := h.below.size
  have HS := hideIt (h.newer ((Below.refl w.heap.size w).alloc (Nat.le_refl _) (.cells #[.int .i64 0, .string ⟨#[]⟩, .string ⟨#[]⟩, .int .i64 0, .int .i64 0] 24)))
  have RV : Hid ((w.alloc (.cells #[.int .i64 0, .string ⟨#[]⟩, .string ⟨#[]⟩, .int .i64 0, .int .i64 0] 24)).heap[w.heap.size]? = some (.cells #[.int .i64 0, .string ⟨#[]⟩, .string ⟨#[]⟩, .int .i64 0, .int .i64 0] 24 (0, 0))) := at_new rfl
  have BV : Hid (Below w.heap.size w (w.alloc (.cells #[.int .i64 0, .string ⟨#[]⟩, .string ⟨#[]⟩, .int .i64 0, .int .i64 0] 24))) := (Below.refl _ _).alloc (Nat.le_refl _) _
  obtain ⟨V, hV⟩ : ∃ V, V = w.alloc (.cells #[.int .i64 0, .string ⟨#[]⟩, .string ⟨#[]⟩, .int .i64 0, .int .i64 0] 24) := ⟨_, rfl⟩
  rw [← hV] at HS RV BV
  clear h
  go_enter Tryz.func21, Tryz.ntmps21
  go_upto_region 1 with fail
  rw [← hV]
  clear hV
  go_wp2_with fail
  refine (srcNext_any 10 (by omega) w0 _ b k vC bs HS.out (by omega)).mono ?_
  rintro e w1 ⟨r, rfl, r0, r1, hs, ho, -⟩
  have S1 := hideIt hs
  have O1 := hideIt ho
  clear hs ho HS
  obtain ⟨r, rfl⟩ : ∃ n : Nat, r = (n : Int) := ⟨r.toNat, by omega⟩
  have r10 : r < 10 := by omega
  go_wp2_with fail
  refine (srcPath_any w0 _ b _ vC bs S1.out (by omega)).mono ?_
  rintro e w2 ⟨p, rfl, mp, hs, ho⟩
  have ZP := hideIt mp.size
  have O2 := hideIt (O1.out.trans ho)
  have lV : V.heap.size ≤ w2.heap.size := O2.out.size
  have lR : w.heap.size < V.heap.size := (Array.getElem?_eq_some_iff.1 RV.out).1
  obtain ⟨W, hW⟩ : ∃ W, W = w2.alloc (.cells #[.int .i64 (1 + (r : Int)), .string p, .string ⟨#[]⟩, .int .i64 0, .int .i64 0] 24) := ⟨_, rfl⟩
  have I0 : Hid (OpI w0 w W b (k + 12) vC bs w2.heap.size (.int .i64 (1 + (r : Int))) (.string p) (.string ⟨#[]⟩) (.int .i64 0) (.int .i64 0)) := by
    rw [hW]
    exact ⟨hs.newer ((Below.refl _ _).alloc (Nat.le_refl _) _), ((Outside.of_below BV.out).trans O2.out).trans (Outside.of_below ((Below.refl _ _).alloc (Nat.le_refl _) _)), at_new rfl, at_old ((O2.out.block _ lR (by omega)).trans RV.out), by omega, hsz, bw⟩
  clear hs ho mp S1 O1 O2 RV BV
  go_upto_region 2 with fail
  rw [← hW]
  clear hW
  generalize w2.heap.size = ob at *
  clear lV
  go_wp2_with fail
  refine (chanceN_any 3 (by omega) w0 _ b _ vC bs I0.out.src (by omega)).mono ?_
  rintro e w3 ⟨rc, rfl, hs, ho, -⟩
  have I1 := hideIt (I0.out.drew hs ho)
  clear hs ho I0
  cases rc with
  | true =>
    obtain ⟨c0, c1, c2, c3, c4, f0, f1, f2, f3, f4⟩ := five_all I1.out.box
    obtain ⟨W2, hW2⟩ : ∃ W2, W2 = w3.setCell ⟨ob, 0, none⟩ (.int .i64 6) := ⟨_, rfl⟩
    have I2 := hideIt (I1.out.set0 (.int .i64 6))
    rw [← hW2] at I2
    go_upto_region 4 with fail
    rw [← hW2]
    clear hW2 c0 c1 c2 c3 c4 f0 f1 f2 f3 f4 I1
    obtain ⟨c0, c1, c2, c3, c4, f0, f1, f2, f3, f4⟩ := five_all I2.out.box
    go_wp2_with fail
    refine (srcNext_any 8 (by omega) w0 _ b _ vC bs I2.out.src (by omega)).mono ?_
    rintro e x1 ⟨g, rfl, g0, g1, hs, ho, -⟩
    have J1 := hideIt (I2.out.drew hs ho)
    clear hs ho c0 c1 c2 c3 c4 f0 f1 f2 f3 f4 I2
    obtain ⟨c0, c1, c2, c3, c4, f0, f1, f2, f3, f4⟩ := five_all J1.out.box
    obtain ⟨X2, hX2⟩ : ∃ X2, X2 = x1.setCell ⟨ob, 3, none⟩ (.int .i64 g) := ⟨_, rfl⟩
    have J2 := hideIt (J1.out.set3 (.int .i64 g))
    rw [← hX2] at J2
    go_upto_region 10 with fail
    rw [← hX2]
    clear hX2 c0 c1 c2 c3 c4 f0 f1 f2 f3 f4 J1
    obtain ⟨c0, c1, c2, c3, c4, f0, f1, f2, f3, f4⟩ := five_all J2.out.box
    go_wp2_with fail
    refine (srcWord_any w0 _ b _ vC bs J2.out.src (by omega)).mono ?_
    rintro e x3 ⟨y, rfl, y0, y1, hs, ho⟩
    have J3 := hideIt (J2.out.drew hs ho)
    clear hs ho c0 c1 c2 c3 c4 f0 f1 f2 f3 f4 J2
    obtain ⟨c0, c1, c2, c3, c4, f0, f1, f2, f3, f4⟩ := five_all J3.out.box
    obtain ⟨X4, hX4⟩ : ∃ X4, X4 = x3.setCell ⟨ob, 4, none⟩ (.int .i64 y) := ⟨_, rfl⟩
    have J4 := hideIt (J3.out.set4 (.int .i64 y))
    rw [← hX4] at J4
    go_upto_region 17 with fail
    rw [← hX4]
    clear hX4 c0 c1 c2 c3 c4 f0 f1 f2 f3 f4 J3
    have FIN := hideIt (J4.out.fin (.int .i64 6) (.string p) (.string ⟨#[]⟩) (.int .i64 g) (.int .i64 y))
    obtain ⟨c0, c1, c2, c3, c4, -⟩ := five_all J4.out.box
    obtain ⟨d0, d1, d2, d3, d4, f0, f1, f2, f3, f4⟩ := five_all J4.out.res
    have Z1 : Hid ((p : ByteArray).size ≤ 100) := ZP
    have Z2 : Hid ((⟨#[]⟩ : ByteArray).size ≤ 100) := hideIt (by decide)
    go_wp2
    refine bodyPost_ret (v := .agg #[.int .i64 6, .string p, .string ⟨#[]⟩, .int .i64 g, .int .i64 y]) (by simp [results, Tryz.results21, go_sem, d0, d1, d2, d3, d4]) rfl ?_
    exact ⟨_, _, _, _, _, rfl, Z1.out, Z2.out, op_ok Z1.out Z2.out (by omega) (by first | exact .inl rfl | exact .inr (.inl rfl) | exact .inr (.inr rfl)) (by first | exact .inl rfl | exact .inr rfl) (by first | exact .inl rfl | exact .inr (by omega)), ⟨by omega, by omega, by omega, by omega⟩, FIN.out.1.more (by omega), FIN.out.2⟩
  | false =>
    rcases (show r = 0 ∨ r = 1 ∨ r = 2 ∨ r = 3 ∨ r = 4 ∨ r = 5 ∨ r = 6 ∨ r = 7 ∨ r = 8 ∨ r = 9 by omega) with rfl | rfl | rfl | rfl | rfl | rfl | rfl | rfl | rfl | rfl
    · have I2 : Hid (OpI w0 w w3 b (k + 15) vC bs ob (.int .i64 1) (.string p) (.string ⟨#[]⟩) (.int .i64 0) (.int .i64 0)) := I1
      clear I1
      have FIN := hideIt (I2.out.fin (.int .i64 1) (.string p) (.string ⟨#[]⟩) (.int .i64 0) (.int .i64 0))
      obtain ⟨c0, c1, c2, c3, c4, -⟩ := five_all I2.out.box
      obtain ⟨d0, d1, d2, d3, d4, f0, f1, f2, f3, f4⟩ := five_all I2.out.res
      have Z1 : Hid ((p : ByteArray).size ≤ 100) := ZP
      have Z2 : Hid ((⟨#[]⟩ : ByteArray).size ≤ 100) := hideIt (by decide)
      go_wp2
      refine bodyPost_ret (v := .agg #[.int .i64 1, .string p, .string ⟨#[]⟩, .int .i64 0, .int .i64 0]) (by simp [results, Tryz.results21, go_sem, d0, d1, d2, d3, d4]) rfl ?_
      exact ⟨_, _, _, _, _, rfl, Z1.out, Z2.out, op_ok Z1.out Z2.out (by omega) (by first | exact .inl rfl | exact .inr (.inl rfl) | exact .inr (.inr rfl)) (by first | exact .inl rfl | exact .inr rfl) (by first | exact .inl rfl | exact .inr (by omega)), ⟨by omega, by omega, by omega, by omega⟩, FIN.out.1.more (by omega), FIN.out.2⟩
    · have I2 : Hid (OpI w0 w w3 b (k + 15) vC bs ob (.int .i64 2) (.string p) (.string ⟨#[]⟩) (.int .i64 0) (.int .i64 0)) := I1
      clear I1
      have FIN := hideIt (I2.out.fin (.int .i64 2) (.string p) (.string ⟨#[]⟩) (.int .i64 0) (.int .i64 0))
      obtain ⟨c0, c1, c2, c3, c4, -⟩ := five_all I2.out.box
      obtain ⟨d0, d1, d2, d3, d4, f0, f1, f2, f3, f4⟩ := five_all I2.out.res
      have Z1 : Hid ((p : ByteArray).size ≤ 100) := ZP
      have Z2 : Hid ((⟨#[]⟩ : ByteArray).size ≤ 100) := hideIt (by decide)
      go_wp2
      refine bodyPost_ret (v := .agg #[.int .i64 2, .string p, .string ⟨#[]⟩, .int .i64 0, .int .i64 0]) (by simp [results, Tryz.results21, go_sem, d0, d1, d2, d3, d4]) rfl ?_
      exact ⟨_, _, _, _, _, rfl, Z1.out, Z2.out, op_ok Z1.out Z2.out (by omega) (by first | exact .inl rfl | exact .inr (.inl rfl) | exact .inr (.inr rfl)) (by first | exact .inl rfl | exact .inr rfl) (by first | exact .inl rfl | exact .inr (by omega)), ⟨by omega, by omega, by omega, by omega⟩, FIN.out.1.more (by omega), FIN.out.2⟩
    · have I2 : Hid (OpI w0 w w3 b (k + 15) vC bs ob (.int .i64 3) (.string p) (.string ⟨#[]⟩) (.int .i64 0) (.int .i64 0)) := I1
      clear I1
      have FIN := hideIt (I2.out.fin (.int .i64 3) (.string p) (.string ⟨#[]⟩) (.int .i64 0) (.int .i64 0))
      obtain ⟨c0, c1, c2, c3, c4, -⟩ := five_all I2.out.box
      obtain ⟨d0, d1, d2, d3, d4, f0, f1, f2, f3, f4⟩ := five_all I2.out.res
      have Z1 : Hid ((p : ByteArray).size ≤ 100) := ZP
      have Z2 : Hid ((⟨#[]⟩ : ByteArray).size ≤ 100) := hideIt (by decide)
      go_wp2
      refine bodyPost_ret (v := .agg #[.int .i64 3, .string p, .string ⟨#[]⟩, .int .i64 0, .int .i64 0]) (by simp [results, Tryz.results21, go_sem, d0, d1, d2, d3, d4]) rfl ?_
      exact ⟨_, _, _, _, _, rfl, Z1.out, Z2.out, op_ok Z1.out Z2.out (by omega) (by first | exact .inl rfl | exact .inr (.inl rfl) | exact .inr (.inr rfl)) (by first | exact .inl rfl | exact .inr rfl) (by first | exact .inl rfl | exact .inr (by omega)), ⟨by omega, by omega, by omega, by omega⟩, FIN.out.1.more (by omega), FIN.out.2⟩
    · have I2 : Hid (OpI w0 w w3 b (k + 15) vC bs ob (.int .i64 4) (.string p) (.string ⟨#[]⟩) (.int .i64 0) (.int .i64 0)) := I1
      clear I1
      obtain ⟨c0, c1, c2, c3, c4, f0, f1, f2, f3, f4⟩ := five_all I2.out.box
      go_wp2_with fail
      refine (srcPath_any w0 _ b _ vC bs I2.out.src (by omega)).mono ?_
      rintro e x1 ⟨t, rfl, mt, hs, ho⟩
      have J1 := hideIt (I2.out.drew hs ho)
      have ZT := hideIt mt.size
      clear mt
      clear hs ho c0 c1 c2 c3 c4 f0 f1 f2 f3 f4 I2
      obtain ⟨c0, c1, c2, c3, c4, f0, f1, f2, f3, f4⟩ := five_all J1.out.box
      obtain ⟨X2, hX2⟩ : ∃ X2, X2 = x1.setCell ⟨ob, 2, none⟩ (.string t) := ⟨_, rfl⟩
      have J2 := hideIt (J1.out.set2 (.string t))
      rw [← hX2] at J2
      go_upto_region 17 with fail
      rw [← hX2]
      clear hX2 c0 c1 c2 c3 c4 f0 f1 f2 f3 f4 J1
      have FIN := hideIt (J2.out.fin (.int .i64 4) (.string p) (.string t) (.int .i64 0) (.int .i64 0))
      obtain ⟨c0, c1, c2, c3, c4, -⟩ := five_all J2.out.box
      obtain ⟨d0, d1, d2, d3, d4, f0, f1, f2, f3, f4⟩ := five_all J2.out.res
      have Z1 : Hid ((p : ByteArray).size ≤ 100) := ZP
      have Z2 : Hid ((t : ByteArray).size ≤ 100) := ZT
      go_wp2
      refine bodyPost_ret (v := .agg #[.int .i64 4, .string p, .string t, .int .i64 0, .int .i64 0]) (by simp [results, Tryz.results21, go_sem, d0, d1, d2, d3, d4]) rfl ?_
      exact ⟨_, _, _, _, _, rfl, Z1.out, Z2.out, op_ok Z1.out Z2.out (by omega) (by first | exact .inl rfl | exact .inr (.inl rfl) | exact .inr (.inr rfl)) (by first | exact .inl rfl | exact .inr rfl) (by first | exact .inl rfl | exact .inr (by omega)), ⟨by omega, by omega, by omega, by omega⟩, FIN.out.1.more (by omega), FIN.out.2⟩
    · have I2 : Hid (OpI w0 w w3 b (k + 15) vC bs ob (.int .i64 5) (.string p) (.string ⟨#[]⟩) (.int .i64 0) (.int .i64 0)) := I1
      clear I1
      obtain ⟨c0, c1, c2, c3, c4, f0, f1, f2, f3, f4⟩ := five_all I2.out.box
      go_wp2_with fail
      refine (srcPath_any w0 _ b _ vC bs I2.out.src (by omega)).mono ?_
      rintro e x1 ⟨t, rfl, mt, hs, ho⟩
      have J1 := hideIt (I2.out.drew hs ho)
      have ZT := hideIt mt.size
      clear mt
      clear hs ho c0 c1 c2 c3 c4 f0 f1 f2 f3 f4 I2
      obtain ⟨c0, c1, c2, c3, c4, f0, f1, f2, f3, f4⟩ := five_all J1.out.box
      obtain ⟨X2, hX2⟩ : ∃ X2, X2 = x1.setCell ⟨ob, 2, none⟩ (.string t) := ⟨_, rfl⟩
      have J2 := hideIt (J1.out.set2 (.string t))
      rw [← hX2] at J2
      go_upto_region 17 with fail
      rw [← hX2]
      clear hX2 c0 c1 c2 c3 c4 f0 f1 f2 f3 f4 J1
      have FIN := hideIt (J2.out.fin (.int .i64 5) (.string p) (.string t) (.int .i64 0) (.int .i64 0))
      obtain ⟨c0, c1, c2, c3, c4, -⟩ := five_all J2.out.box
      obtain ⟨d0, d1, d2, d3, d4, f0, f1, f2, f3, f4⟩ := five_all J2.out.res
      have Z1 : Hid ((p : ByteArray).size ≤ 100) := ZP
      have Z2 : Hid ((t : ByteArray).size ≤ 100) := ZT
      go_wp2
      refine bodyPost_ret (v := .agg #[.int .i64 5, .string p, .string t, .int .i64 0, .int .i64 0]) (by simp [results, Tryz.results21, go_sem, d0, d1, d2, d3, d4]) rfl ?_
      exact ⟨_, _, _, _, _, rfl, Z1.out, Z2.out, op_ok Z1.out Z2.out (by omega) (by first | exact .inl rfl | exact .inr (.inl rfl) | exact .inr (.inr rfl)) (by first | exact .inl rfl | exact .inr rfl) (by first | exact .inl rfl | exact .inr (by omega)), ⟨by omega, by omega, by omega, by omega⟩, FIN.out.1.more (by omega), FIN.out.2⟩
    · have I2 : Hid (OpI w0 w w3 b (k + 15) vC bs ob (.int .i64 6) (.string p) (.string ⟨#[]⟩) (.int .i64 0) (.int .i64 0)) := I1
      clear I1
      obtain ⟨c0, c1, c2, c3, c4, f0, f1, f2, f3, f4⟩ := five_all I2.out.box
      go_wp2_with fail
      refine (srcNext_any 8 (by omega) w0 _ b _ vC bs I2.out.src (by omega)).mono ?_
      rintro e x1 ⟨g, rfl, g0, g1, hs, ho, -⟩
      have J1 := hideIt (I2.out.drew hs ho)
      clear hs ho c0 c1 c2 c3 c4 f0 f1 f2 f3 f4 I2
      obtain ⟨c0, c1, c2, c3, c4, f0, f1, f2, f3, f4⟩ := five_all J1.out.box
      obtain ⟨X2, hX2⟩ : ∃ X2, X2 = x1.setCell ⟨ob, 3, none⟩ (.int .i64 g) := ⟨_, rfl⟩
      have J2 := hideIt (J1.out.set3 (.int .i64 g))
      rw [← hX2] at J2
      go_upto_region 10 with fail
      rw [← hX2]
      clear hX2 c0 c1 c2 c3 c4 f0 f1 f2 f3 f4 J1
      obtain ⟨c0, c1, c2, c3, c4, f0, f1, f2, f3, f4⟩ := five_all J2.out.box
      go_wp2_with fail
      refine (srcWord_any w0 _ b _ vC bs J2.out.src (by omega)).mono ?_
      rintro e x3 ⟨y, rfl, y0, y1, hs, ho⟩
      have J3 := hideIt (J2.out.drew hs ho)
      clear hs ho c0 c1 c2 c3 c4 f0 f1 f2 f3 f4 J2
      obtain ⟨c0, c1, c2, c3, c4, f0, f1, f2, f3, f4⟩ := five_all J3.out.box
      obtain ⟨X4, hX4⟩ : ∃ X4, X4 = x3.setCell ⟨ob, 4, none⟩ (.int .i64 y) := ⟨_, rfl⟩
      have J4 := hideIt (J3.out.set4 (.int .i64 y))
      rw [← hX4] at J4
      go_upto_region 17 with fail
      rw [← hX4]
      clear hX4 c0 c1 c2 c3 c4 f0 f1 f2 f3 f4 J3
      have FIN := hideIt (J4.out.fin (.int .i64 6) (.string p) (.string ⟨#[]⟩) (.int .i64 g) (.int .i64 y))
      obtain ⟨c0, c1, c2, c3, c4, -⟩ := five_all J4.out.box
      obtain ⟨d0, d1, d2, d3, d4, f0, f1, f2, f3, f4⟩ := five_all J4.out.res
      have Z1 : Hid ((p : ByteArray).size ≤ 100) := ZP
      have Z2 : Hid ((⟨#[]⟩ : ByteArray).size ≤ 100) := hideIt (by decide)
      go_wp2
      refine bodyPost_ret (v := .agg #[.int .i64 6, .string p, .string ⟨#[]⟩, .int .i64 g, .int .i64 y]) (by simp [results, Tryz.results21, go_sem, d0, d1, d2, d3, d4]) rfl ?_
      exact ⟨_, _, _, _, _, rfl, Z1.out, Z2.out, op_ok Z1.out Z2.out (by omega) (by first | exact .inl rfl | exact .inr (.inl rfl) | exact .inr (.inr rfl)) (by first | exact .inl rfl | exact .inr rfl) (by first | exact .inl rfl | exact .inr (by omega)), ⟨by omega, by omega, by omega, by omega⟩, FIN.out.1.more (by omega), FIN.out.2⟩
    · have I2 : Hid (OpI w0 w w3 b (k + 15) vC bs ob (.int .i64 7) (.string p) (.string ⟨#[]⟩) (.int .i64 0) (.int .i64 0)) := I1
      clear I1
      obtain ⟨c0, c1, c2, c3, c4, f0, f1, f2, f3, f4⟩ := five_all I2.out.box
      go_wp2_with fail
      refine (srcNext_any 9 (by omega) w0 _ b _ vC bs I2.out.src (by omega)).mono ?_
      rintro e x1 ⟨g, rfl, g0, g1, hs, ho, -⟩
      have J1 := hideIt (I2.out.drew hs ho)
      clear hs ho c0 c1 c2 c3 c4 f0 f1 f2 f3 f4 I2
      obtain ⟨c0, c1, c2, c3, c4, f0, f1, f2, f3, f4⟩ := five_all J1.out.box
      obtain ⟨X2, hX2⟩ : ∃ X2, X2 = x1.setCell ⟨ob, 3, none⟩ (.int .i64 g) := ⟨_, rfl⟩
      have J2 := hideIt (J1.out.set3 (.int .i64 g))
      rw [← hX2] at J2
      go_upto_region 17 with fail
      rw [← hX2]
      clear hX2 c0 c1 c2 c3 c4 f0 f1 f2 f3 f4 J1
      have FIN := hideIt (J2.out.fin (.int .i64 7) (.string p) (.string ⟨#[]⟩) (.int .i64 g) (.int .i64 0))
      obtain ⟨c0, c1, c2, c3, c4, -⟩ := five_all J2.out.box
      obtain ⟨d0, d1, d2, d3, d4, f0, f1, f2, f3, f4⟩ := five_all J2.out.res
      have Z1 : Hid ((p : ByteArray).size ≤ 100) := ZP
      have Z2 : Hid ((⟨#[]⟩ : ByteArray).size ≤ 100) := hideIt (by decide)
      go_wp2
      refine bodyPost_ret (v := .agg #[.int .i64 7, .string p, .string ⟨#[]⟩, .int .i64 g, .int .i64 0]) (by simp [results, Tryz.results21, go_sem, d0, d1, d2, d3, d4]) rfl ?_
      exact ⟨_, _, _, _, _, rfl, Z1.out, Z2.out, op_ok Z1.out Z2.out (by omega) (by first | exact .inl rfl | exact .inr (.inl rfl) | exact .inr (.inr rfl)) (by first | exact .inl rfl | exact .inr rfl) (by first | exact .inl rfl | exact .inr (by omega)), ⟨by omega, by omega, by omega, by omega⟩, FIN.out.1.more (by omega), FIN.out.2⟩
    · have I2 : Hid (OpI w0 w w3 b (k + 15) vC bs ob (.int .i64 8) (.string p) (.string ⟨#[]⟩) (.int .i64 0) (.int .i64 0)) := I1
      clear I1
      obtain ⟨c0, c1, c2, c3, c4, f0, f1, f2, f3, f4⟩ := five_all I2.out.box
      go_wp2_with fail
      refine (srcNext_any 9 (by omega) w0 _ b _ vC bs I2.out.src (by omega)).mono ?_
      rintro e x1 ⟨g, rfl, g0, g1, hs, ho, -⟩
      have J1 := hideIt (I2.out.drew hs ho)
      clear hs ho c0 c1 c2 c3 c4 f0 f1 f2 f3 f4 I2
      obtain ⟨c0, c1, c2, c3, c4, f0, f1, f2, f3, f4⟩ := five_all J1.out.box
      obtain ⟨X2, hX2⟩ : ∃ X2, X2 = x1.setCell ⟨ob, 3, none⟩ (.int .i64 g) := ⟨_, rfl⟩
      have J2 := hideIt (J1.out.set3 (.int .i64 g))
      rw [← hX2] at J2
      go_upto_region 17 with fail
      rw [← hX2]
      clear hX2 c0 c1 c2 c3 c4 f0 f1 f2 f3 f4 J1
      have FIN := hideIt (J2.out.fin (.int .i64 8) (.string p) (.string ⟨#[]⟩) (.int .i64 g) (.int .i64 0))
      obtain ⟨c0, c1, c2, c3, c4, -⟩ := five_all J2.out.box
      obtain ⟨d0, d1, d2, d3, d4, f0, f1, f2, f3, f4⟩ := five_all J2.out.res
      have Z1 : Hid ((p : ByteArray).size ≤ 100) := ZP
      have Z2 : Hid ((⟨#[]⟩ : ByteArray).size ≤ 100) := hideIt (by decide)
      go_wp2
      refine bodyPost_ret (v := .agg #[.int .i64 8, .string p, .string ⟨#[]⟩, .int .i64 g, .int .i64 0]) (by simp [results, Tryz.results21, go_sem, d0, d1, d2, d3, d4]) rfl ?_
      exact ⟨_, _, _, _, _, rfl, Z1.out, Z2.out, op_ok Z1.out Z2.out (by omega) (by first | exact .inl rfl | exact .inr (.inl rfl) | exact .inr (.inr rfl)) (by first | exact .inl rfl | exact .inr rfl) (by first | exact .inl rfl | exact .inr (by omega)), ⟨by omega, by omega, by omega, by omega⟩, FIN.out.1.more (by omega), FIN.out.2⟩
    · have I2 : Hid (OpI w0 w w3 b (k + 15) vC bs ob (.int .i64 9) (.string p) (.string ⟨#[]⟩) (.int .i64 0) (.int .i64 0)) := I1
      clear I1
      obtain ⟨c0, c1, c2, c3, c4, f0, f1, f2, f3, f4⟩ := five_all I2.out.box
      go_wp2_with fail
      refine (srcAnyPath_any w0 _ b _ vC bs I2.out.src (by omega)).mono ?_
      rintro e x1 ⟨t, rfl, mt, hs, ho⟩
      have J1 := hideIt (I2.out.drew hs ho)
      have ZT := hideIt mt
      clear mt
      clear hs ho c0 c1 c2 c3 c4 f0 f1 f2 f3 f4 I2
      obtain ⟨c0, c1, c2, c3, c4, f0, f1, f2, f3, f4⟩ := five_all J1.out.box
      obtain ⟨X2, hX2⟩ : ∃ X2, X2 = x1.setCell ⟨ob, 1, none⟩ (.string t) := ⟨_, rfl⟩
      have J2 := hideIt (J1.out.set1 (.string t))
      rw [← hX2] at J2
      go_upto_region 17 with fail
      rw [← hX2]
      clear hX2 c0 c1 c2 c3 c4 f0 f1 f2 f3 f4 J1
      have FIN := hideIt (J2.out.fin (.int .i64 9) (.string t) (.string ⟨#[]⟩) (.int .i64 0) (.int .i64 0))
      obtain ⟨c0, c1, c2, c3, c4, -⟩ := five_all J2.out.box
      obtain ⟨d0, d1, d2, d3, d4, f0, f1, f2, f3, f4⟩ := five_all J2.out.res
      have Z1 : Hid ((t : ByteArray).size ≤ 100) := ZT
      have Z2 : Hid ((⟨#[]⟩ : ByteArray).size ≤ 100) := hideIt (by decide)
      go_wp2
      refine bodyPost_ret (v := .agg #[.int .i64 9, .string t, .string ⟨#[]⟩, .int .i64 0, .int .i64 0]) (by simp [results, Tryz.results21, go_sem, d0, d1, d2, d3, d4]) rfl ?_
      exact ⟨_, _, _, _, _, rfl, Z1.out, Z2.out, op_ok Z1.out Z2.out (by omega) (by first | exact .inl rfl | exact .inr (.inl rfl) | exact .inr (.inr rfl)) (by first | exact .inl rfl | exact .inr rfl) (by first | exact .inl rfl | exact .inr (by omega)), ⟨by omega, by omega, by omega, by omega⟩, FIN.out.1.more (by omega), FIN.out.2⟩
    · have I2 : Hid (OpI w0 w w3 b (k + 15) vC bs ob (.int .i64 10) (.string p) (.string ⟨#[]⟩) (.int .i64 0) (.int .i64 0)) := I1
      clear I1
      obtain ⟨c0, c1, c2, c3, c4, f0, f1, f2, f3, f4⟩ := five_all I2.out.box
      go_wp2_with fail
      refine (srcAnyPath_any w0 _ b _ vC bs I2.out.src (by omega)).mono ?_
      rintro e x1 ⟨t, rfl, mt, hs, ho⟩
      have J1 := hideIt (I2.out.drew hs ho)
      have ZT := hideIt mt
      clear mt
      clear hs ho c0 c1 c2 c3 c4 f0 f1 f2 f3 f4 I2
      obtain ⟨c0, c1, c2, c3, c4, f0, f1, f2, f3, f4⟩ := five_all J1.out.box
      obtain ⟨X2, hX2⟩ : ∃ X2, X2 = x1.setCell ⟨ob, 1, none⟩ (.string t) := ⟨_, rfl⟩
      have J2 := hideIt (J1.out.set1 (.string t))
      rw [← hX2] at J2
      go_upto_region 17 with fail
      rw [← hX2]
      clear hX2 c0 c1 c2 c3 c4 f0 f1 f2 f3 f4 J1
      have FIN := hideIt (J2.out.fin (.int .i64 10) (.string t) (.string ⟨#[]⟩) (.int .i64 0) (.int .i64 0))
      obtain ⟨c0, c1, c2, c3, c4, -⟩ := five_all J2.out.box
      obtain ⟨d0, d1, d2, d3, d4, f0, f1, f2, f3, f4⟩ := five_all J2.out.res
      have Z1 : Hid ((t : ByteArray).size ≤ 100) := ZT
      have Z2 : Hid ((⟨#[]⟩ : ByteArray).size ≤ 100) := hideIt (by decide)
      go_wp2
      refine bodyPost_ret (v := .agg #[.int .i64 10, .string t, .string ⟨#[]⟩, .int .i64 0, .int .i64 0]) (by simp [results, Tryz.results21, go_sem, d0, d1, d2, d3, d4]) rfl ?_
      exact ⟨_, _, _, _, _, rfl, Z1.out, Z2.out, op_ok Z1.out Z2.out (by omega) (by first | exact .inl rfl | exact .inr (.inl rfl) | exact .inr (.inr rfl)) (by first | exact .inl rfl | exact .inr rfl) (by first | exact .inl rfl | exact .inr (by omega)), ⟨by omega, by omega, by omega, by omega⟩, FIN.out.1.more (by omega), FIN.out.2⟩
end Go.Proofs.YtjkdmhdehihcbaaGreatDoor
