/- Answers told in words: by the program. -/
import Derived.Test.YtkchiplcjlgflaaDoorAxB
import Derived.Test.YtkchiplcjlgflaaDoorMtB
import Derived.Test.YtkchiplcjlgflaaDoorPbE
import Derived.Test.YtkchiplcjlgflaaDoorDuG
namespace Go.Proofs.YtkchiplcjlgflaaDoor
open Go.RowKit
theorem run_append_none0 (w : World) (ty : TypeId) (b n c : Nat) (hnc : n ≤ c) (ao : Option Addr) (cap : Nat) :
    (Builtin.append_ #[24, 24] ty #[.slice (some ⟨b, 0, none⟩) n c, .slice ao 0 cap]).run Tryd.prog w = .ok (.slice (some ⟨b, 0, none⟩) n c) w := by
  obtain ⟨i, hi, -, -, -⟩ := info_parts info9
  cases ao <;> simp [Builtin.append_, run_underlying Tryd.underlying24, sizeOf, typeInfo, hi, Builtin.lenOf, Builtin.firstCells, hnc, storeCells, loadCells, loadCellsFrom]
theorem wpList_append_outw {W w : World} {b0 : Nat} {u : Value} {l0 l : List ByteArray} {ops : Array Oper} {rest : List Oper} {o : Oper} {a : Act} {Q : Exit → Act → World → Prop} (hgd : o.guard = none) (s x : Operand)
    (hop : o.op = .call { callee := .builtin .append, args := #[s, x], argTypes := #[24, 24] }) (hs : a.eval s = .slice (some ⟨b0, 0, none⟩) l0.length l0.length) (hb : Below W.heap.size W w) (h0 : RdT W (.slice (some ⟨b0, 0, none⟩) l0.length l0.length) l0) (hx : a.eval x = u) (hr : RdT w u l) (h63 : l0.length + l.length ≤ 1099511627776)
    (h : ∀ v' w', OutV W w' (.slice (some ⟨b0, 0, none⟩) l0.length l0.length) l0 v' (l0 ++ l) → wpList Tryd.prog ops Q rest (a.put o.dst v') w') : wpList Tryd.prog ops Q (o :: rest) a w := by
  by_cases hq : 0 < l.length
  · exact wpList_append_outv hgd s x hop hs (.inl ⟨rfl, rfl, hb⟩) h0 hx hr hq h63 h
  · obtain ⟨ao, cap, rfl, -, -⟩ := hr.shape
    obtain rfl : l = [] := List.length_eq_zero_iff.1 (by omega)
    refine wpList_plain hgd fun K hK => ?_
    have hrun := run_append_none0 w o.type b0 l0.length l0.length (Nat.le_refl _) ao cap
    unfold Oper.wp execOp
    simp only [hop, resolve, invoke, builtin, Sem.run_bind, Sem.run_pure, Result.andThen_ok, List.map_toArray, List.map_cons, List.map_nil, hs, hx, List.length_nil, hrun]
    exact hK _ _ (h _ _ (.inl ⟨rfl, by simp, hb⟩))
theorem cwT_empty (c : Int) : decide (0 ≤ c ∧ c < 20) = !(cwT c).toList.isEmpty := by
  rw [← cwT_word]
  have e : (⟨#[]⟩ : ByteArray).toList = [] := by decide +kernel
  rw [e]
  cases (cwT c).toList <;> rfl
theorem rdt_litA (w : World) (l : List ByteArray) : RdT (w.alloc (.cells (strs l).toArray 9)) (.slice (some ⟨w.heap.size, 0, none⟩) l.length l.length) l := by
  refine ⟨by simp [strs], _, _, rfl, ⟨Nat.le_refl _, fun e => by cases e⟩, fun _ => ⟨_, _, rfl, by simp, fun j hj => ?_⟩⟩
  have hb : (w.alloc (.cells (strs l).toArray 9)).heap[w.heap.size]? = some (.cells (strs l).toArray 9 (0, 0)) := at_new rfl
  simp only [World.cell?, hb, Nat.zero_add]
  simp
set_option maxHeartbeats 2000000 in
theorem statWords_any (n : Nat) (w : World) (hn : n < 1099511627776) (hP : PT w) :
    Calls Tryd.prog 30 #[.int .i64 n] w fun e w' => ∃ u, e = .returned u ∧ RdT w' u (stW n) ∧ Below w.heap.size w w' := by
  have q1w : IntKind.i64.wrap ((n : Int) / 100) = (n : Int) / 100 := by rw [IntKind.wrap_i64]; omega
  have q2w : IntKind.i64.wrap ((n : Int) / 10) = (n : Int) / 10 := by rw [IntKind.wrap_i64]; omega
  have q3w : IntKind.i64.wrap ((n : Int) / 10 % 10) = (n : Int) / 10 % 10 := by rw [IntKind.wrap_i64]; omega
  have q4w : IntKind.i64.wrap ((n : Int) % 10) = (n : Int) % 10 := by rw [IntKind.wrap_i64]; omega
  have t1m : ((n : Int) / 10).tmod 10 = (n : Int) / 10 % 10 := Int.tmod_eq_emod_of_nonneg (by omega)
  have t2m : (n : Int).tmod 10 = (n : Int) % 10 := Int.tmod_eq_emod_of_nonneg (by omega)
  have L1 := hideIt (fun w1 (hb : Below w.heap.size w w1) => itoa_any ((n : Int) / 10 % 10) w1 (by omega) (by omega) (hP.below hb))
  have L2 := hideIt (fun w1 (hb : Below w.heap.size w w1) => itoa_any ((n : Int) % 10) w1 (by omega) (by omega) (hP.below hb))
  have OUT : Hid (∀ (w1 : World) kw, Below w.heap.size w w1 → kw = (if (n : Int) / 100 = 2 then (⟨#[100, 105, 114]⟩ : ByteArray) else ⟨#[102, 105, 108, 101]⟩) → RdT (w1.alloc (.cells #[.string kw, .string (itT ((n : Int) / 10 % 10)), .string (itT ((n : Int) % 10))] 9)) (.slice (some ⟨w1.heap.size, 0, none⟩) 3 3) (stW n) ∧ Below w.heap.size w (w1.alloc (.cells #[.string kw, .string (itT ((n : Int) / 10 % 10)), .string (itT ((n : Int) % 10))] 9))) := fun w1 kw hb e => by
    subst e
    exact ⟨rdt_litA w1 (stW n), hb.alloc hb.size _⟩
  generalize stW n = SW at *
  generalize itT ((n : Int) / 10 % 10) = i1 at *
  generalize itT ((n : Int) % 10) = i2 at *
  clear hP
  by_cases c : (n : Int) / 100 = 2
  · have c1 : ((n : Int) / 100 == 2) = true := by rw [beq_iff_eq]; exact c
    simp only [if_pos c] at OUT
    clear c
    go_enter Tryd.func30, Tryd.ntmps30
    go_wp2_with fail
    refine (L1.out w (Below.refl _ _)).mono ?_
    rintro e w1 ⟨rfl, hb1⟩
    have B1 := hideIt hb1
    clear hb1 L1
    go_wp2_with fail
    refine (L2.out w1 B1.out).mono ?_
    rintro e w2 ⟨rfl, hb2⟩
    have B2 := hideIt (below_trans B1.out hb2 B1.out.size)
    have R := hideIt (OUT.out w2 _ B2.out rfl)
    clear hb2 L2 B1 OUT
    go_wp2
    go_ret
    exact ⟨_, rfl, R.out.1, R.out.2⟩
  · have c1 : ((n : Int) / 100 == 2) = false := by rw [beq_eq_false_iff_ne]; exact c
    simp only [if_neg c] at OUT
    clear c
    go_enter Tryd.func30, Tryd.ntmps30
    go_wp2_with fail
    refine (L1.out w (Below.refl _ _)).mono ?_
    rintro e w1 ⟨rfl, hb1⟩
    have B1 := hideIt hb1
    clear hb1 L1
    go_wp2_with fail
    refine (L2.out w1 B1.out).mono ?_
    rintro e w2 ⟨rfl, hb2⟩
    have B2 := hideIt (below_trans B1.out hb2 B1.out.size)
    have R := hideIt (OUT.out w2 _ B2.out rfl)
    clear hb2 L2 B1 OUT
    go_wp2
    go_ret
    exact ⟨_, rfl, R.out.1, R.out.2⟩
set_option maxHeartbeats 4000000 in
theorem answerWords_any (k code : Int) (n : Nat) (vN : Value) (nm : List ByteArray) (w : World) (hn : n < 1099511627776) (hN : RdT w vN nm) (hP : PT w) :
    Calls Tryd.prog 21 #[.int .i64 k, .agg #[.int .i64 code, .int .i64 n, vN]] w fun e w' => ∃ u, e = .returned u ∧ RdT w' u (exW k n nm) ∧ Below w.heap.size w w' := by
  have HN := hideIt hN
  obtain ⟨aN, cN, rfl, -, -⟩ := hN.shape
  obtain ⟨V, hV⟩ : ∃ V, V = w.alloc (.cells #[.int .i64 code, .int .i64 n, .slice aN nm.length cN] 33) := ⟨_, rfl⟩
  have BV : Hid (Below w.heap.size w V) := by rw [hV]; exact (Below.refl _ _).alloc (Nat.le_refl _) _
  have XA : Hid (V.heap[w.heap.size]? = some (.cells #[.int .i64 code, .int .i64 n, .slice aN nm.length cN] 33 (0, 0))) := by rw [hV]; exact at_new rfl
  have LI := hideIt (itoa_any n V (by omega) (by omega) (hP.below BV.out))
  have LS := hideIt (statWords_any n V hn (hP.below BV.out))
  have LITD := hideIt (fun (w1 : World) y => rdt_litA w1 [y])
  obtain ⟨a0, a1, a2⟩ := three_box XA.out
  have R0 := hideIt (fun w1 => (show RdT w1 (.slice none 0 0) [] from ⟨rfl, none, 0, rfl, ⟨Nat.le_refl _, fun _ => rfl⟩, fun h => absurd h (by decide)⟩))
  clear hN hP XA
  unfold exW
  by_cases k8 : k = 8
  · subst k8
    rw [if_pos rfl]
    generalize itT (n : Int) = iv at *
    go_enter Tryd.func21, Tryd.ntmps21
    go_upto_region 1 with fail
    rw [← hV]
    clear hV
    go_wp2_with fail
    refine LI.out.mono ?_
    rintro e w1 ⟨rfl, hb1⟩
    have B1 := hideIt (below_trans BV.out hb1 BV.out.size)
    clear hb1 LI LS
    have R1 := hideIt (LITD.out w1 iv)
    have B2 := hideIt (B1.out.alloc B1.out.size (.cells (strs [iv]).toArray 9))
    go_wp2
    go_ret
    exact ⟨_, rfl, R1.out, B2.out⟩
  · have q8 : (k == 8) = false := by rw [beq_eq_false_iff_ne]; exact k8
    rw [if_neg k8]
    by_cases k9 : k = 9
    · subst k9
      rw [if_pos rfl]
      generalize stW n = SW at *
      go_enter Tryd.func21, Tryd.ntmps21
      go_upto_region 1 with fail
      rw [← hV]
      clear hV
      go_wp2_with fail
      refine LS.out.mono ?_
      rintro e w1 ⟨u, rfl, hr, hb1⟩
      have R1 := hideIt hr
      have B1 := hideIt (below_trans BV.out hb1 BV.out.size)
      clear hr hb1 LI LS
      go_wp2
      go_ret
      exact ⟨_, rfl, R1.out, B1.out⟩
    · have q9 : (k == 9) = false := by rw [beq_eq_false_iff_ne]; exact k9
      rw [if_neg k9]
      by_cases k10 : k = 10
      · subst k10
        rw [if_pos rfl]
        have R1 := hideIt (show RdT V (.slice aN nm.length cN) nm from Rd.below HN.out BV.out)
        clear LI LS
        go_enter Tryd.func21, Tryd.ntmps21
        go_upto_region 1 with fail
        rw [← hV]
        clear hV
        go_wp2
        go_ret
        exact ⟨_, rfl, R1.out, BV.out⟩
      · have q10 : (k == 10) = false := by rw [beq_eq_false_iff_ne]; exact k10
        rw [if_neg k10]
        clear LI LS
        go_enter Tryd.func21, Tryd.ntmps21
        go_upto_region 1 with fail
        rw [← hV]
        clear hV
        go_wp2
        go_ret
        exact ⟨_, rfl, R0.out _, BV.out⟩
set_option maxRecDepth 100000 in
set_option maxHeartbeats 8000000 in
theorem isTellable_any (code vl : Int) (vN : Value) (nm : List ByteArray) (w : World) (hN : RdT w vN nm) (hl : nm.length ≤ 1048576) (hs : ∀ y ∈ nm, y.size ≤ maxLen) (hC : CW w) :
    Calls Tryd.prog 19 #[.agg #[.int .i64 code, .int .i64 vl, vN]] w fun e w' => e = .returned (.bool (aaB code vl nm)) ∧ Below w.heap.size w w' := by
  have HN := hideIt hN
  obtain ⟨aN, cN, rfl, -, -⟩ := hN.shape
  obtain ⟨V, hV⟩ : ∃ V, V = w.alloc (.cells #[.int .i64 code, .int .i64 vl, .slice aN nm.length cN] 33) := ⟨_, rfl⟩
  have BV : Hid (Below w.heap.size w V) := by rw [hV]; exact (Below.refl _ _).alloc (Nat.le_refl _) _
  have XA : Hid (V.heap[w.heap.size]? = some (.cells #[.int .i64 code, .int .i64 vl, .slice aN nm.length cN] 33 (0, 0))) := by rw [hV]; exact at_new rfl
  have LC := hideIt (implCodeWord_any code V (hC.below BV.out))
  have LW := hideIt (isWord_any vl V)
  have LE := hideIt (everyName_any (.slice aN nm.length cN) nm V (Rd.below HN.out BV.out) hl (fun k h => hs _ (List.getElem_mem h)))
  have EW := cwT_empty code
  have EB : aaB code vl nm = (decide (0 ≤ code ∧ code < 20) && (wordB vl && (decide (nm.length ≤ 24) && nm.all nmB))) := rfl
  rw [EB, EW]
  clear EB EW hN hC hs
  obtain ⟨a0, a1, a2⟩ := three_box XA.out
  clear XA
  generalize cwT code = cw at *
  generalize wordB vl = bw at *
  generalize nm.all nmB = ba at *
  cases hE : cw.toList.isEmpty with
  | true =>
    rw [Bool.not_true, Bool.false_and]
    clear LW LE
    go_enter Tryd.func19, Tryd.ntmps19
    go_upto_region 1 with fail
    rw [← hV]
    clear hV
    go_wp2_with fail
    refine LC.out.mono ?_
    rintro e w' ⟨rfl, hw'⟩
    subst w'
    clear LC
    go_wp2
    go_ret
    exact ⟨rfl, BV.out⟩
  | false =>
    rw [Bool.not_false, Bool.true_and]
    obtain ⟨R, hR⟩ : ∃ R, R = (bw && (decide (nm.length ≤ 24) && ba)) := ⟨_, rfl⟩
    rw [← hR]
    have HR := hideIt hR
    clear hR
    go_enter Tryd.func19, Tryd.ntmps19
    go_upto_region 1 with fail
    rw [← hV]
    clear hV
    go_wp2_with fail
    refine LC.out.mono ?_
    rintro e w' ⟨rfl, hw'⟩
    subst w'
    clear LC
    go_wp2_with fail
    refine LW.out.mono ?_
    rintro e w' ⟨rfl, hw'⟩
    subst w'
    clear LW
    cases bw with
    | false =>
      have e : R = false := HR.out
      subst e
      clear LE HR
      go_wp2
      go_ret
      exact ⟨rfl, BV.out⟩
    | true =>
      by_cases h24 : nm.length ≤ 24
      · have e : R = ba := by rw [HR.out, decide_eq_true h24]; rfl
        subst e
        clear HR
        have k24 : (nm.length : Int) ≤ 24 := by omega
        go_wp2_with fail
        refine LE.out.mono ?_
        rintro e w2 ⟨rfl, hb2⟩
        have B2 := hideIt (below_trans BV.out hb2 BV.out.size)
        clear LE hb2
        go_wp2
        go_ret
        exact ⟨rfl, B2.out⟩
      · have e : R = false := by rw [HR.out, decide_eq_false h24]; rfl
        subst e
        clear HR
        have k24 : ¬ (nm.length : Int) ≤ 24 := by omega
        clear LE
        go_wp2
        go_ret
        exact ⟨rfl, BV.out⟩
set_option maxRecDepth 100000 in
set_option maxHeartbeats 8000000 in
theorem implAnswerText_any (k : Int) (p t : ByteArray) (g x code vl : Int) (vN : Value) (nm : List ByteArray) (w : World) (hN : RdT w vN nm) (hl : nm.length ≤ 1048576) (hs : ∀ y ∈ nm, y.size ≤ maxLen) (hC : CW w) (hP : PT w) :
    Calls Tryd.prog 9 #[.agg #[.int .i64 k, .string p, .string t, .int .i64 g, .int .i64 x], .agg #[.int .i64 code, .int .i64 vl, vN]] w fun e w' => e = .returned (.tuple #[.string (atS k p t g x code vl nm), .int .i64 (atC k p t g x code vl nm)]) ∧ Below w.heap.size w w' := by
  have NO : Hid (atB k p t g x code vl nm = false → atS k p t g x code vl nm = ⟨#[]⟩ ∧ atC k p t g x code vl nm = 1) := fun h => by unfold atS atC; rw [h]; exact ⟨rfl, rfl⟩
  have YES : Hid (atB k p t g x code vl nm = true → atS k p t g x code vl nm = joinB (atW k code vl nm) ∧ atC k p t g x code vl nm = 0) := fun h => by unfold atS atC; rw [h]; exact ⟨rfl, rfl⟩
  have EB := hideIt (show atB k p t g x code vl nm = (opB k p t g x && aaB code vl nm) from rfl)
  have AY : Hid (aaB code vl nm = true → (0 ≤ vl ∧ vl < 1099511627776) ∧ nm.length ≤ 24 ∧ ∀ y ∈ nm, y.size ≤ 1048576) := fun h => by
    unfold aaB at h
    simp only [Bool.and_eq_true, decide_eq_true_eq] at h
    exact ⟨wordB_true h.2.1, h.2.2.1, fun y hy => by have := (nmB_true (List.all_eq_true.1 h.2.2.2 y hy)).2.1; omega⟩
  have LO := hideIt (fun w1 => implOpOK_any k p t g x w1)
  have LT := hideIt (fun w1 (hb : Below w.heap.size w w1) => isTellable_any code vl vN nm w1 (Rd.below hN hb) hl hs (hC.below hb))
  have LC := hideIt (fun w1 (hb : Below w.heap.size w w1) => implCodeWord_any code w1 (hC.below hb))
  have LA := hideIt (fun w1 (n : Nat) (e : vl = n) (hn : n < 1099511627776) (hb : Below w.heap.size w w1) => answerWords_any k code n vN nm w1 hn (Rd.below hN hb) (hP.below hb))
  obtain ⟨aN, cN, rfl, -, -⟩ := hN.shape
  obtain ⟨V, hV⟩ : ∃ V, V = (w.alloc (.cells #[.int .i64 k, .string p, .string t, .int .i64 g, .int .i64 x] 31)).alloc (.cells #[.int .i64 code, .int .i64 vl, .slice aN nm.length cN] 33) := ⟨_, rfl⟩
  have BV : Hid (Below w.heap.size w V) := by rw [hV]; exact ((Below.refl _ _).alloc (Nat.le_refl _) _).alloc (by simp) _
  have XO : Hid (V.heap[w.heap.size]? = some (.cells #[.int .i64 k, .string p, .string t, .int .i64 g, .int .i64 x] 31 (0, 0))) := by rw [hV]; exact at_old (at_new rfl)
  have XA : Hid (V.heap[w.heap.size + 1]? = some (.cells #[.int .i64 code, .int .i64 vl, .slice aN nm.length cN] 33 (0, 0))) := by rw [hV]; exact at_new (by simp)
  have CO : Hid (∀ w', Below V.heap.size V w' → w'.cell? ⟨w.heap.size, 0, none⟩ = some (.int .i64 k) ∧ w'.cell? ⟨w.heap.size, 1, none⟩ = some (.string p) ∧ w'.cell? ⟨w.heap.size, 2, none⟩ = some (.string t) ∧ w'.cell? ⟨w.heap.size, 3, none⟩ = some (.int .i64 g) ∧ w'.cell? ⟨w.heap.size, 4, none⟩ = some (.int .i64 x)) := fun w' hb => five_boxA ((hb.block _ (Array.getElem?_eq_some_iff.1 XO.out).1).trans XO.out)
  have CA : Hid (∀ w', Below V.heap.size V w' → w'.cell? ⟨w.heap.size + 1, 0, none⟩ = some (.int .i64 code) ∧ w'.cell? ⟨w.heap.size + 1, 1, none⟩ = some (.int .i64 vl) ∧ w'.cell? ⟨w.heap.size + 1, 2, none⟩ = some (.slice aN nm.length cN)) := fun w' hb => three_box ((hb.block _ (Array.getElem?_eq_some_iff.1 XA.out).1).trans XA.out)
  generalize atS k p t g x code vl nm = AS at *
  generalize atC k p t g x code vl nm = AC at *
  clear hN XO XA hs hC hP
  go_enter Tryd.func9, Tryd.ntmps9
  go_upto_region 1 with fail
  rw [← hV]
  clear hV
  obtain ⟨o0, o1, o2, o3, o4⟩ := CO.out V (Below.refl _ _)
  go_wp2_with fail
  refine (LO.out _).mono ?_
  rintro e w1 ⟨rfl, hb1⟩
  have B1 := hideIt hb1
  have BW1 := hideIt (below_trans BV.out hb1 BV.out.size)
  clear hb1 o0 o1 o2 o3 o4 LO
  obtain ⟨a0, a1, a2⟩ := CA.out w1 B1.out
  cases qb : opB k p t g x with
  | false =>
    rw [qb, Bool.false_and] at EB
    obtain ⟨rfl, rfl⟩ := NO.out EB.out
    clear NO YES EB LA LT LC CO CA qb AY
    go_wp2
    go_ret2
    exact ⟨rfl, BW1.out⟩
  | true =>
    rw [qb, Bool.true_and] at EB
    clear qb
    go_wp2_with fail
    refine (LT.out w1 BW1.out).mono ?_
    rintro e w2 ⟨rfl, hb2⟩
    have B2 := hideIt (below_trans B1.out hb2 B1.out.size)
    have BW2 := hideIt (below_trans BW1.out hb2 BW1.out.size)
    clear hb2 LT a0 a1 a2 B1 BW1
    cases qa : aaB code vl nm with
    | false =>
      rw [qa] at EB
      obtain ⟨rfl, rfl⟩ := NO.out EB.out
      clear NO YES EB LA LC CO CA qa AY
      go_wp2
      go_ret2
      exact ⟨rfl, BW2.out⟩
    | true =>
      rw [qa] at EB
      obtain ⟨eA, rfl⟩ := YES.out EB.out
      obtain ⟨⟨v0, v1⟩, h24, hsz⟩ := AY.out qa
      have HS := hideIt hsz
      clear hsz
      obtain ⟨n, rfl⟩ : ∃ n : Nat, vl = (n : Int) := ⟨vl.toNat, by omega⟩
      have EA := hideIt eA
      obtain ⟨a0, a1, a2⟩ := CA.out w2 B2.out
      clear eA qa NO YES EB AY
      go_wp2_with fail
      refine (LC.out w2 BW2.out).mono ?_
      rintro e w' ⟨rfl, hw'⟩
      subst w'
      clear LC a0 a1 a2
      have SC := cwT_size code
      obtain ⟨cw, hcw⟩ : ∃ cw, cw = cwT code := ⟨_, rfl⟩
      have EA2 : Hid (AS = joinB (cw :: (if code = 0 then exW k n nm else []))) := by rw [hcw]; exact EA.out
      rw [← hcw] at SC ⊢
      clear hcw EA
      obtain ⟨W3, hW3⟩ : ∃ W3, W3 = w2.alloc (.cells #[.string cw] 9) := ⟨_, rfl⟩
      have b3 : Below w2.heap.size w2 W3 := by rw [hW3]; exact (Below.refl _ _).alloc (Nat.le_refl _) _
      have B3 := hideIt (below_trans B2.out b3 B2.out.size)
      have BW3 := hideIt (below_trans BW2.out b3 BW2.out.size)
      have R3 : Hid (RdT W3 (.slice (some ⟨w2.heap.size, 0, none⟩) [cw].length [cw].length) [cw]) := by rw [hW3]; exact rdt_litA w2 [cw]
      go_upto_region 4 with fail
      rw [← hW3]
      clear hW3 b3 B2 BW2
      obtain ⟨a0, a1, a2⟩ := CA.out W3 B3.out
      obtain ⟨o0, -⟩ := CO.out W3 B3.out
      by_cases c0 : code = 0
      · subst c0
        rw [if_pos rfl] at EA2
        have LA2 := hideIt (LA.out W3 n rfl (by omega) BW3.out)
        clear LA
        go_wp2_with fail
        refine LA2.out.mono ?_
        rintro e w4 ⟨u, rfl, hr, hb4⟩
        have R4 := hideIt hr
        have b4 := hideIt hb4
        have BW4 := hideIt (below_trans BW3.out hb4 BW3.out.size)
        have LEN : (exW k n nm).length ≤ 24 := by
          unfold exW stW
          split
          · simp
          · split
            · simp
            · split
              · exact h24
              · simp
        have SZX : Hid (∀ y ∈ cw :: exW k n nm, y.size ≤ 1048576) := fun y hy => by
          rcases List.mem_cons.1 hy with rfl | hy
          · omega
          · unfold exW stW at hy
            have d0 := it_size1 (z := (n : Int)) (by omega) (by omega)
            have d1 := it_size1 (z := (n : Int) / 10 % 10) (by omega) (by omega)
            have d2 := it_size1 (z := (n : Int) % 10) (by omega) (by omega)
            split at hy
            · simp at hy; subst hy; omega
            · split at hy
              · simp only [List.mem_cons, List.not_mem_nil, or_false] at hy
                rcases hy with rfl | rfl | rfl
                · split <;> decide
                · omega
                · omega
              · split at hy
                · exact HS.out y hy
                · cases hy
        clear hr hb4 LA2 a0 a1 a2 o0 HS CO CA B3
        generalize exW k n nm = ex at *
        go_wp2_with (at_builtin; refine wpList_append_outw rfl (.tmp 22) (.tmp 26) rfl rfl b4.out R3.out rfl (l := ex) R4.out (by simp; omega) ?_)
        intro v' w5 hO
        have RD := hideIt (hO.rd R3.out)
        have B5 := hideIt (below_trans BW3.out hO.b BW3.out.size)
        have LX := hideIt (textOf_any v' ([cw] ++ ex) 1048576 w5 RD.out (by simp) (by simp; omega) SZX.out (by omega))
        clear hO R3 R4 b4 BW3 BW4 RD SZX
        go_wp2_with fail
        refine LX.out.mono ?_
        rintro e w6 ⟨rfl, hb6⟩
        have B6 := hideIt (below_trans B5.out hb6 B5.out.size)
        clear hb6 LX B5
        go_wp2
        go_ret2
        exact ⟨by rw [EA2.out]; rfl, B6.out⟩
      · have q0 : (code == 0) = false := by rw [beq_eq_false_iff_ne]; exact c0
        rw [if_neg c0] at EA2
        have LX := hideIt (textOf_any _ [cw] 8 W3 R3.out (by simp) (by simp) (fun y hy => by simp at hy; subst hy; exact SC) (by omega))
        clear LA R3 CO CA HS
        go_wp2_with fail
        refine LX.out.mono ?_
        rintro e w6 ⟨rfl, hb6⟩
        have B6 := hideIt (below_trans BW3.out hb6 BW3.out.size)
        clear hb6 LX
        go_wp2
        go_ret2
        exact ⟨by rw [EA2.out]; rfl, B6.out⟩
end Go.Proofs.YtkchiplcjlgflaaDoor
