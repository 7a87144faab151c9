/- The law of AnswerText: the walk. -/
import Derived.Test.YtkchiplcjlgflaaDoorAxC
import Derived.Test.YtkchiplcjlgflaaDoorFqB
import Derived.Test.YtkchiplcjlgflaaDoorOpL
namespace Go.Proofs.YtkchiplcjlgflaaDoor
open Go.RowKit
set_option maxRecDepth 100000 in
set_option maxHeartbeats 16000000 in
theorem answerText_law (k : Int) (p t : ByteArray) (g x code vl : Int) (vN : Value) (nm : List ByteArray) (w : World) (hp : p.size ≤ maxLen) (ht : t.size ≤ maxLen) (hN : RdT w vN nm) (hl : nm.length ≤ maxLen) (hs : ∀ y ∈ nm, y.size ≤ maxLen) (hC : CW w) (hP : PT w) :
    Calls Tryd.prog 3 #[.agg #[.int .i64 k, .string p, .string t, .int .i64 g, .int .i64 x], .agg #[.int .i64 code, .int .i64 vl, vN]] w fun e w' => e = .returned (.bool true) ∧ Below w.heap.size w w' := by
  obtain ⟨aN, cN, rfl, -, -⟩ := hN.shape
  have LZ := hideIt (fun w1 => szOp_any k p t g x 1048576 w1 hp ht (by decide) (by decide))
  have ZB : Hid (opZ p t 1048576 = -1 ∨ (0 ≤ opZ p t 1048576 ∧ opZ p t 1048576 ≤ 1048576)) := by
    unfold opZ Hid
    split
    · exact .inl rfl
    · exact .inr (by omega)
  have LY := hideIt (fun w1 (hb : Below w.heap.size w w1) (left : Int) (h0 : 0 ≤ left) (h1 : left ≤ 1048576) => szAnswer_any code vl aN nm cN left w1 (Rd.below hN hb) hl (fun j hj => hs _ (List.getElem_mem hj)) h0 h1)
  have LO := hideIt (fun w1 => toOp_any k p t g x w1)
  have LT := hideIt (fun (h : nm.length ≤ 1048576) w1 (hb : Below w.heap.size w w1) => toAnswer_any code vl aN nm cN w1 (Rd.below hN hb) h)
  have LS := hideIt (fun (h : nm.length ≤ 1048576) u w1 hr => specAnswerText_any k p t g x code vl u nm w1 hr h hs)
  have LI := hideIt (fun (h : nm.length ≤ 1048576) u w1 (hb : Below w.heap.size w w1) hr => implAnswerText_any k p t g x code vl u nm w1 hr h hs (hC.below hb) (hP.below hb))
  have LE := hideIt (fun (h : nm.length ≤ 1048576) u1 u2 w1 h1 h2 => eqAnswer_same code vl u1 u2 nm w1 h1 h2 (by omega))
  obtain ⟨V, hV⟩ : ∃ V, V = (w.alloc (.cells #[.int .i64 k, .string p, .string t, .int .i64 g, .int .i64 x] 23)).alloc (.cells #[.int .i64 code, .int .i64 vl, .slice aN nm.length cN] 26) := ⟨_, rfl⟩
  have BV : Hid (Below w.heap.size w V) := by rw [hV]; exact ((Below.refl _ _).alloc (Nat.le_refl _) _).alloc (by simp) _
  have XO : Hid (V.heap[w.heap.size]? = some (.cells #[.int .i64 k, .string p, .string t, .int .i64 g, .int .i64 x] 23 (0, 0))) := by rw [hV]; exact at_old (at_new rfl)
  have XA : Hid (V.heap[w.heap.size + 1]? = some (.cells #[.int .i64 code, .int .i64 vl, .slice aN nm.length cN] 26 (0, 0))) := by rw [hV]; exact at_new (by simp)
  have zV := (Array.getElem?_eq_some_iff.1 XA.out).1
  have CO : Hid (∀ w', Below V.heap.size V w' → w'.cell? ⟨w.heap.size, 0, none⟩ = some (.int .i64 k) ∧ w'.cell? ⟨w.heap.size, 1, none⟩ = some (.string p) ∧ w'.cell? ⟨w.heap.size, 2, none⟩ = some (.string t) ∧ w'.cell? ⟨w.heap.size, 3, none⟩ = some (.int .i64 g) ∧ w'.cell? ⟨w.heap.size, 4, none⟩ = some (.int .i64 x)) := fun w' hb => five_boxA ((hb.block _ (Array.getElem?_eq_some_iff.1 XO.out).1).trans XO.out)
  have CA : Hid (∀ w', Below V.heap.size V w' → w'.cell? ⟨w.heap.size + 1, 0, none⟩ = some (.int .i64 code) ∧ w'.cell? ⟨w.heap.size + 1, 1, none⟩ = some (.int .i64 vl) ∧ w'.cell? ⟨w.heap.size + 1, 2, none⟩ = some (.slice aN nm.length cN)) := fun w' hb => three_box ((hb.block _ (Array.getElem?_eq_some_iff.1 XA.out).1).trans XA.out)
  clear hN hl hs hC hP hp ht XO XA
  generalize opZ p t 1048576 = lf at *
  generalize atS k p t g x code vl nm = AS at *
  generalize atC k p t g x code vl nm = AC at *
  go_enter Tryd.func3, Tryd.ntmps3
  go_upto_region 1 with fail
  rw [← hV]
  clear hV
  obtain ⟨o0, o1, o2, o3, o4⟩ := CO.out V (Below.refl _ _)
  go_wp2_with fail
  refine (LZ.out _).mono ?_
  rintro e w1 ⟨rfl, hb1⟩
  have B1 := hideIt hb1
  have BW1 := hideIt (below_trans BV.out hb1 BV.out.size)
  clear hb1 o0 o1 o2 o3 o4 LZ
  rcases ZB.out with rfl | ⟨l0, l1⟩
  · clear LY LO LT LS LI LE CO CA
    go_wp2
    go_ret
    exact ⟨rfl, BW1.out⟩
  · have nl : ¬ lf < 0 := by omega
    have LY1 := hideIt (LY.out w1 BW1.out lf l0 l1)
    obtain ⟨a0, a1, a2⟩ := CA.out w1 B1.out
    clear LY ZB
    go_wp2_with fail
    refine LY1.out.mono ?_
    rintro e w2 ⟨r, rfl, hr1, hr2, hb2⟩
    have B2 := hideIt (below_trans B1.out hb2 B1.out.size)
    have BW2 := hideIt (below_trans BW1.out hb2 BW1.out.size)
    clear hb2 LY1 a0 a1 a2 B1 BW1
    by_cases r0 : 0 ≤ r
    · have h20 := (hr1 r0).1
      have nr : ¬ r < 0 := by omega
      have LT1 := hideIt (LT.out h20)
      have LS1 := hideIt (LS.out h20)
      have LI1 := hideIt (LI.out h20)
      have LE1 := hideIt (LE.out h20)
      clear LT LS LI LE hr1 hr2 l0 l1
      go_upto_region 8 with fail
      clear nl nr r0
      have SS : Hid (∀ w', Below V.heap.size V w' → _ ∧ _) := fun w' hb => ⟨CO.out w' hb, CA.out w' hb⟩
      refine wp_region_T 9 (fun w' => (w'.cell? ⟨w.heap.size, 0, none⟩ = some (.int .i64 k) ∧ w'.cell? ⟨w.heap.size, 1, none⟩ = some (.string p) ∧ w'.cell? ⟨w.heap.size, 2, none⟩ = some (.string t) ∧ w'.cell? ⟨w.heap.size, 3, none⟩ = some (.int .i64 g) ∧ w'.cell? ⟨w.heap.size, 4, none⟩ = some (.int .i64 x)) ∧ (w'.cell? ⟨w.heap.size + 1, 0, none⟩ = some (.int .i64 code) ∧ w'.cell? ⟨w.heap.size + 1, 1, none⟩ = some (.int .i64 vl) ∧ w'.cell? ⟨w.heap.size + 1, 2, none⟩ = some (.slice aN nm.length cN))) (by kernel_rfl) (SS.out w2.drew B2.out.drew) (fun hS => ?_)
      refine wpAnyT_take (i := 0) (v := .agg #[.int .i64 k, .string p, .string t, .int .i64 g, .int .i64 x]) [0] rfl (by kernel_rfl) (fun _ _ _ h => h) hS rfl (fun w' hSw => by obtain ⟨⟨c0, c1, c2, c3, c4⟩, d0, d1, d2⟩ := hSw; go_simp) ?_
      try simp only [Act.put]
      refine wpAnyT_take (i := 2) (v := .agg #[.int .i64 code, .int .i64 vl, .slice aN nm.length cN]) [2] rfl (by kernel_rfl) (fun _ _ _ h => h) hS rfl (fun w' hSw => by obtain ⟨⟨c0, c1, c2, c3, c4⟩, d0, d1, d2⟩ := hSw; go_simp) ?_
      try simp only [Act.put]
      refine wpAnyT_one (i := 1) rfl (by kernel_rfl) (fun K hK => ?_)
      go_simp
      go_at_call 7
      refine (LO.out _).mono ?_
      rintro e w3 ⟨rfl, hb3⟩
      have b3 : Below w2.heap.size w2 w3 := by first | exact hb3 | exact below_trans ((Below.refl _ _).drew) hb3 (Nat.le_refl _)
      have B3 := hideIt (below_trans B2.out b3 B2.out.size)
      have BW3 := hideIt (below_trans BW2.out b3 BW2.out.size)
      refine hK.out _ _ (fun _ => SS.out _ B3.out) ?_
      clear hK K hb3 b3 hS B2 BW2
      try simp only [Act.put]
      refine wpAnyT_one (i := 3) rfl (by kernel_rfl) (fun K hK => ?_)
      go_simp
      go_at_call 8
      refine (LT1.out _ (by first | exact BW3.out | exact BW3.out.drew)).mono ?_
      rintro e w4 ⟨u1, rfl, hu1, hb4⟩
      obtain ⟨q1, y1, rfl, -, -⟩ := (show RdT w4 u1 nm from hu1.rd).shape
      have U4 := hideIt (show RdT w4 (.slice q1 nm.length y1) nm from hu1.rd)
      have b4 : Below w3.heap.size w3 w4 := by first | exact hb4 | exact below_trans ((Below.refl _ _).drew) hb4 (Nat.le_refl _)
      have B4 := hideIt (below_trans B3.out b4 B3.out.size)
      have BW4 := hideIt (below_trans BW3.out b4 BW3.out.size)
      refine hK.out _ _ (fun _ => SS.out _ B4.out) ?_
      clear hK K hb4 b4 B3 BW3 hu1
      try simp only [Act.put]
      refine wpAnyT_one (i := 4) rfl (by kernel_rfl) (fun K hK => ?_)
      go_simp
      go_at_call 6
      refine (LS1.out _ _ (by first | exact U4.out | exact Rd.below U4.out (Below.refl _ _).drew)).mono ?_
      rintro e w5 ⟨rfl, hb5⟩
      have b5 : Below w4.heap.size w4 w5 := by first | exact hb5 | exact below_trans ((Below.refl _ _).drew) hb5 (Nat.le_refl _)
      have B5 := hideIt (below_trans B4.out b5 B4.out.size)
      have BW5 := hideIt (below_trans BW4.out b5 BW4.out.size)
      refine hK.out _ _ (fun _ => SS.out _ B5.out) ?_
      clear hK K hb5 b5 B4 BW4 U4 LS1
      try simp only [Act.put]
      have hS5 := SS.out _ B5.out
      refine wpAnyT_take (i := 5) (v := .tuple #[.string AS, .int .i64 AC]) [5] rfl (by kernel_rfl) (fun _ _ _ h => h) hS5 rfl (fun w' hSw => by go_simp) ?_
      try simp only [Act.put]
      refine wpAnyT_take (i := 6) (v := .string AS) [6] rfl (by kernel_rfl) (fun _ _ _ h => h) hS5 rfl (fun w' hSw => by go_simp) ?_
      try simp only [Act.put]
      refine wpAnyT_take (i := 7) (v := .int .i64 AC) [7] rfl (by kernel_rfl) (fun _ _ _ h => h) hS5 rfl (fun w' hSw => by go_simp) ?_
      try simp only [Act.put]
      refine wpAnyT_one (i := 8) rfl (by kernel_rfl) (fun K hK => ?_)
      go_simp
      refine hK.out _ _ (fun _ => hS5) ?_
      clear hK K
      try simp only [Act.put]
      refine wpAnyT_one (i := 9) rfl (by kernel_rfl) (fun K hK => ?_)
      go_simp
      refine hK.out _ _ (fun h => absurd rfl h) ?_
      clear hK K hS5
      try simp only [Act.put]
      refine wpAnyT_done (by kernel_rfl) ?_ _
      obtain ⟨a0, a1, a2⟩ := CA.out w5 B5.out
      go_wp2_with fail
      refine (LT1.out w5 BW5.out).mono ?_
      rintro e w6 ⟨u2, rfl, hu2, hb6⟩
      obtain ⟨q2, y2, rfl, -, -⟩ := (show RdT w6 u2 nm from hu2.rd).shape
      have U6 := hideIt (show RdT w6 (.slice q2 nm.length y2) nm from hu2.rd)
      have B6 := hideIt (below_trans B5.out hb6 B5.out.size)
      have BW6 := hideIt (below_trans BW5.out hb6 BW5.out.size)
      clear a0 a1 a2 hb6 B5 BW5 hu2
      obtain ⟨W7, hW7⟩ : ∃ W7, W7 = w6.alloc (.cells #[.int .i64 code, .int .i64 vl, .slice q2 nm.length y2] 33) := ⟨_, rfl⟩
      have b7 : Below w6.heap.size w6 W7 := by rw [hW7]; exact (Below.refl _ _).alloc (Nat.le_refl _) _
      have X7 : Hid (W7.heap[w6.heap.size]? = some (.cells #[.int .i64 code, .int .i64 vl, .slice q2 nm.length y2] 33 (0, 0))) := by rw [hW7]; exact at_new rfl
      have z7 := (Array.getElem?_eq_some_iff.1 X7.out).1
      have B7 := hideIt (below_trans B6.out b7 B6.out.size)
      have BW7 := hideIt (below_trans BW6.out b7 BW6.out.size)
      have U7 := hideIt (Rd.below U6.out b7)
      have C7 : Hid (∀ w', Below W7.heap.size W7 w' → w'.cell? ⟨w6.heap.size, 0, none⟩ = some (.int .i64 code) ∧ w'.cell? ⟨w6.heap.size, 1, none⟩ = some (.int .i64 vl) ∧ w'.cell? ⟨w6.heap.size, 2, none⟩ = some (.slice q2 nm.length y2)) := fun w' hb => three_box ((hb.block _ z7).trans X7.out)
      go_upto_region 10 with fail
      rw [← hW7]
      clear hW7 b7 B6 BW6 U6 X7
      have S7 : Hid (∀ w', Below W7.heap.size W7 w' → _ ∧ _) := fun w' hb => ⟨CO.out w' (below_trans B7.out hb B7.out.size), C7.out w' hb⟩
      refine wp_region_T 8 (fun w' => (w'.cell? ⟨w.heap.size, 0, none⟩ = some (.int .i64 k) ∧ w'.cell? ⟨w.heap.size, 1, none⟩ = some (.string p) ∧ w'.cell? ⟨w.heap.size, 2, none⟩ = some (.string t) ∧ w'.cell? ⟨w.heap.size, 3, none⟩ = some (.int .i64 g) ∧ w'.cell? ⟨w.heap.size, 4, none⟩ = some (.int .i64 x)) ∧ (w'.cell? ⟨w6.heap.size, 0, none⟩ = some (.int .i64 code) ∧ w'.cell? ⟨w6.heap.size, 1, none⟩ = some (.int .i64 vl) ∧ w'.cell? ⟨w6.heap.size, 2, none⟩ = some (.slice q2 nm.length y2))) (by kernel_rfl) (S7.out W7.drew (Below.refl _ _).drew) (fun hS => ?_)
      refine wpAnyT_take (i := 0) (v := .agg #[.int .i64 k, .string p, .string t, .int .i64 g, .int .i64 x]) [0] rfl (by kernel_rfl) (fun _ _ _ h => h) hS rfl (fun w' hSw => by obtain ⟨⟨c0, c1, c2, c3, c4⟩, d0, d1, d2⟩ := hSw; go_simp) ?_
      try simp only [Act.put]
      refine wpAnyT_take (i := 2) (v := .agg #[.int .i64 code, .int .i64 vl, .slice q2 nm.length y2]) [2] rfl (by kernel_rfl) (fun _ _ _ h => h) hS rfl (fun w' hSw => by obtain ⟨⟨c0, c1, c2, c3, c4⟩, d0, d1, d2⟩ := hSw; go_simp) ?_
      try simp only [Act.put]
      refine wpAnyT_one (i := 1) rfl (by kernel_rfl) (fun K hK => ?_)
      go_simp
      go_at_call 7
      refine (LO.out _).mono ?_
      rintro e w8 ⟨rfl, hb8⟩
      have b8 : Hid (Below W7.heap.size W7 w8) := by first | exact hb8 | exact below_trans ((Below.refl _ _).drew) hb8 (Nat.le_refl _)
      refine hK.out _ _ (fun _ => S7.out _ b8.out) ?_
      clear hK K hb8 hS LO
      try simp only [Act.put]
      refine wpAnyT_one (i := 3) rfl (by kernel_rfl) (fun K hK => ?_)
      go_simp
      go_at_call 9
      refine (LI1.out _ _ (by first | exact below_trans BW7.out b8.out BW7.out.size | exact (below_trans BW7.out b8.out BW7.out.size).drew) (by first | exact Rd.below U7.out b8.out | exact Rd.below U7.out b8.out.drew)).mono ?_
      rintro e w9 ⟨rfl, hb9⟩
      have b9 : Hid (Below W7.heap.size W7 w9) := below_trans b8.out (by first | exact hb9 | exact below_trans ((Below.refl _ _).drew) hb9 (Nat.le_refl _)) b8.out.size
      refine hK.out _ _ (fun _ => S7.out _ b9.out) ?_
      clear hK K hb9 b8 LI1
      try simp only [Act.put]
      have hS9 := S7.out _ b9.out
      refine wpAnyT_take (i := 4) (v := .tuple #[.string AS, .int .i64 AC]) [4] rfl (by kernel_rfl) (fun _ _ _ h => h) hS9 rfl (fun w' hSw => by go_simp) ?_
      try simp only [Act.put]
      refine wpAnyT_take (i := 5) (v := .string AS) [5] rfl (by kernel_rfl) (fun _ _ _ h => h) hS9 rfl (fun w' hSw => by go_simp) ?_
      try simp only [Act.put]
      refine wpAnyT_take (i := 6) (v := .int .i64 AC) [6] rfl (by kernel_rfl) (fun _ _ _ h => h) hS9 rfl (fun w' hSw => by go_simp) ?_
      try simp only [Act.put]
      refine wpAnyT_one (i := 7) rfl (by kernel_rfl) (fun K hK => ?_)
      go_simp
      refine hK.out _ _ (fun _ => hS9) ?_
      clear hK K
      try simp only [Act.put]
      refine wpAnyT_one (i := 8) rfl (by kernel_rfl) (fun K hK => ?_)
      go_simp
      refine hK.out _ _ (fun h => absurd rfl h) ?_
      clear hK K hS9
      try simp only [Act.put]
      refine wpAnyT_done (by kernel_rfl) ?_ _
      have B9 := hideIt (below_trans B7.out b9.out B7.out.size)
      have BW9 := hideIt (below_trans BW7.out b9.out BW7.out.size)
      have U9 := hideIt (Rd.below U7.out b9.out)
      have b9z := b9.out.size
      have S9 : Hid (∀ w', Below w9.heap.size w9 w' → _ ∧ _) := fun w' hb => ⟨C7.out w' (below_trans b9.out hb b9.out.size), CA.out w' (below_trans B9.out hb B9.out.size)⟩
      clear S7 C7 CO SS B7 BW7 U7 b9
      go_upto_region 13 with fail
      refine wp_region_T 4 (fun w' => (w'.cell? ⟨w6.heap.size, 0, none⟩ = some (.int .i64 code) ∧ w'.cell? ⟨w6.heap.size, 1, none⟩ = some (.int .i64 vl) ∧ w'.cell? ⟨w6.heap.size, 2, none⟩ = some (.slice q2 nm.length y2)) ∧ (w'.cell? ⟨w.heap.size + 1, 0, none⟩ = some (.int .i64 code) ∧ w'.cell? ⟨w.heap.size + 1, 1, none⟩ = some (.int .i64 vl) ∧ w'.cell? ⟨w.heap.size + 1, 2, none⟩ = some (.slice aN nm.length cN))) (by kernel_rfl) (S9.out w9.drew (Below.refl _ _).drew) (fun hS => ?_)
      refine wpAnyT_take (i := 0) (v := .agg #[.int .i64 code, .int .i64 vl, .slice q2 nm.length y2]) [3, 0] rfl (by kernel_rfl) (fun _ _ _ h => h) hS rfl (fun w' hSw => by obtain ⟨⟨c0, c1, c2⟩, d0, d1, d2⟩ := hSw; go_simp) ?_
      try simp only [Act.put]
      refine wpAnyT_take (i := 1) (v := .agg #[.int .i64 code, .int .i64 vl, .slice aN nm.length cN]) [3, 2, 1] rfl (by kernel_rfl) (fun _ _ _ h => h) hS rfl (fun w' hSw => by obtain ⟨⟨c0, c1, c2⟩, d0, d1, d2⟩ := hSw; go_simp) ?_
      try simp only [Act.put]
      refine wpAnyT_one (i := 2) rfl (by kernel_rfl) (fun K hK => ?_)
      go_simp
      go_at_call 8
      refine (LT1.out _ (by first | exact BW9.out | exact BW9.out.drew)).mono ?_
      rintro e wa ⟨u3, rfl, hu3, hba⟩
      obtain ⟨q3, y3, rfl, -, -⟩ := (show RdT wa u3 nm from hu3.rd).shape
      have Ua := hideIt (show RdT wa (.slice q3 nm.length y3) nm from hu3.rd)
      have ba : Hid (Below w9.heap.size w9 wa) := by first | exact hba | exact below_trans ((Below.refl _ _).drew) hba (Nat.le_refl _)
      have Ub := hideIt (Rd.below U9.out ba.out)
      refine hK.out _ _ (fun _ => S9.out _ ba.out) ?_
      clear hK K hba hS hu3
      try simp only [Act.put]
      refine wpAnyT_one (i := 3) rfl (by kernel_rfl) (fun K hK => ?_)
      go_simp
      go_at_call 10
      refine (LE1.out _ _ _ (by first | exact Ub.out | exact Rd.below Ub.out (Below.refl _ _).drew) (by first | exact Ua.out | exact Rd.below Ua.out (Below.refl _ _).drew)).mono ?_
      rintro e wb ⟨rfl, hbb⟩
      have bb : Hid (Below w9.heap.size w9 wb) := below_trans ba.out (by first | exact hbb | exact below_trans ((Below.refl _ _).drew) hbb (Nat.le_refl _)) ba.out.size
      refine hK.out _ _ (fun _ => S9.out _ bb.out) ?_
      clear hK K hbb Ua Ub LE1 LT1
      try simp only [Act.put]
      refine wpAnyT_one (i := 4) rfl (by kernel_rfl) (fun K hK => ?_)
      go_simp
      refine hK.out _ _ (fun h => absurd rfl h) ?_
      clear hK K
      try simp only [Act.put]
      refine wpAnyT_done (by kernel_rfl) ?_ _
      have BF := hideIt (below_trans BW9.out bb.out BW9.out.size)
      clear S9 bb ba B9 BW9 U9
      go_wp2
      go_ret
      exact ⟨rfl, BF.out⟩
    · have nr : r < 0 := by omega
      clear LO LT LS LI LE CO CA
      go_wp2
      go_ret
      exact ⟨rfl, BW2.out⟩
end Go.Proofs.YtkchiplcjlgflaaDoor
