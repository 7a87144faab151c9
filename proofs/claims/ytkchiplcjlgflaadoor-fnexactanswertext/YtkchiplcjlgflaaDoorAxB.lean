/- Answers told in words: by the model. -/
import Derived.Test.YtkchiplcjlgflaaDoorAxA
import Derived.Test.YtkchiplcjlgflaaDoorZAG
import Derived.Test.YtkchiplcjlgflaaDoorDtE
import Derived.Test.YtkchiplcjlgflaaDoorZAI
import Derived.Test.YtkchiplcjlgflaaDoorZAC
import Derived.Test.YtkchiplcjlgflaaDoorNm
namespace Go.Proofs.YtkchiplcjlgflaaDoor
open Go.RowKit
def stW (vl : Int) : List ByteArray := [if vl / 100 = 2 then ⟨#[100, 105, 114]⟩ else ⟨#[102, 105, 108, 101]⟩, itT (vl / 10 % 10), itT (vl % 10)]
def exW (k vl : Int) (nm : List ByteArray) : List ByteArray := if k = 8 then [itT vl] else if k = 9 then stW vl else if k = 10 then nm else []
def atW (k code vl : Int) (nm : List ByteArray) : List ByteArray := cwT code :: (if code = 0 then exW k vl nm else [])
def aaB (code vl : Int) (nm : List ByteArray) : Bool := decide (0 ≤ code ∧ code < 20) && (wordB vl && (decide (nm.length ≤ 24) && nm.all nmB))
def atB (k : Int) (p t : ByteArray) (g x : Int) (code vl : Int) (nm : List ByteArray) : Bool := opB k p t g x && aaB code vl nm
def atS (k : Int) (p t : ByteArray) (g x : Int) (code vl : Int) (nm : List ByteArray) : ByteArray := if atB k p t g x code vl nm = true then joinB (atW k code vl nm) else ⟨#[]⟩
def atC (k : Int) (p t : ByteArray) (g x : Int) (code vl : Int) (nm : List ByteArray) : Int := if atB k p t g x code vl nm = true then 0 else 1
theorem joinB_cons (x : ByteArray) (r : List ByteArray) : joinB (x :: r) = x ++ ⟨(Lib.joinTail [32] (r.map (·.data.toList))).toArray⟩ := by
  unfold joinB
  rw [List.map_cons, Lib.join_cons]
  apply ByteArray.ext
  simp
theorem joinB_snoc (x y : ByteArray) (r : List ByteArray) : joinB (x :: (r ++ [y])) = joinB (x :: r) ++ (⟨#[32]⟩ ++ y) := by
  rw [joinB_cons, joinB_cons, ByteArray.append_assoc]
  congr 1
  apply ByteArray.ext
  apply Array.toList_inj.1
  simp [Lib.joinTail]
theorem joinB_sizeA (x : ByteArray) (B : Nat) (hx : x.size ≤ B) : ∀ r : List ByteArray, (∀ y ∈ r, y.size ≤ B) → (joinB (x :: r)).size ≤ B + r.length * (B + 1)
  | [], _ => by rw [joinB_one]; simp; omega
  | y :: r, h => by
    have ih := joinB_sizeA x B hx r (fun z hz => h z (List.mem_cons_of_mem _ hz))
    have hy := h y (by simp)
    have e : (joinB (x :: y :: r)).size = (joinB (x :: r)).size + (1 + y.size) := by
      rw [joinB_cons, joinB_cons, ByteArray.size_append, ByteArray.size_append]
      have s1 := Lib.size_eq (⟨(Lib.joinTail [32] ((y :: r).map (·.data.toList))).toArray⟩ : ByteArray)
      have s2 := Lib.size_eq (⟨(Lib.joinTail [32] (r.map (·.data.toList))).toArray⟩ : ByteArray)
      have s3 := Lib.size_eq y
      rw [s1, s2, s3]
      simp [Lib.joinTail]
      omega
    rw [e, List.length_cons, Nat.succ_mul]
    omega
theorem three_box {w : World} {b : Nat} {t : TypeId} {x0 x1 x2 : Value} (h : w.heap[b]? = some (.cells #[x0, x1, x2] t (0, 0))) : w.cell? ⟨b, 0, none⟩ = some x0 ∧ w.cell? ⟨b, 1, none⟩ = some x1 ∧ w.cell? ⟨b, 2, none⟩ = some x2 := by
  simp [World.cell?, h]
theorem five_boxA {w : World} {b : Nat} {t : TypeId} {x0 x1 x2 x3 x4 : Value} (h : w.heap[b]? = some (.cells #[x0, x1, x2, x3, x4] t (0, 0))) : w.cell? ⟨b, 0, none⟩ = some x0 ∧ w.cell? ⟨b, 1, none⟩ = some x1 ∧ w.cell? ⟨b, 2, none⟩ = some x2 ∧ w.cell? ⟨b, 3, none⟩ = some x3 ∧ w.cell? ⟨b, 4, none⟩ = some x4 := by
  simp [World.cell?, h]
set_option maxRecDepth 100000 in
set_option maxHeartbeats 8000000 in
theorem l15Answer_any (k : Int) (p t : ByteArray) (g x code : Int) (n : Nat) (vN : Value) (nm : List ByteArray) (w : World) (hn : n < 1099511627776) (hN : RdT w vN nm) (hl : nm.length ≤ 24) (hs : ∀ y ∈ nm, y.size ≤ 1048576) :
    Calls Tryd.prog 16 #[.agg #[.int .i64 k, .string p, .string t, .int .i64 g, .int .i64 x], .agg #[.int .i64 code, .int .i64 n, vN]] w fun e w' => e = .returned (.string (joinB (atW k code n nm))) ∧ Below w.heap.size w w' := by
  have LD := hideIt (fun (z : Int) (h0 : 0 ≤ z) (h1 : z < 1099511627776) w1 => dig_it (z := z) h0 (by omega) w1)
  have LC := hideIt (fun w1 => specCodeWord_any code w1)
  have SC := cwT_size code
  obtain ⟨aN, cN, rfl, hcN, hcell⟩ := hN.shape
  obtain ⟨V, hV⟩ : ∃ V, V = (w.alloc (.cells #[.int .i64 k, .string p, .string t, .int .i64 g, .int .i64 x] 31)).alloc (.cells #[.int .i64 code, .int .i64 n, .slice aN nm.length cN] 33) := ⟨_, rfl⟩
  have BV : Hid (Below w.heap.size w V) := by rw [hV]; exact ((Below.refl _ _).alloc (Nat.le_refl _) _).alloc (by simp) _
  have XO : Hid (V.heap[w.heap.size]? = some (.cells #[.int .i64 k, .string p, .string t, .int .i64 g, .int .i64 x] 31 (0, 0))) := by rw [hV]; exact at_old (at_new rfl)
  have XA : Hid (V.heap[w.heap.size + 1]? = some (.cells #[.int .i64 code, .int .i64 n, .slice aN nm.length cN] 33 (0, 0))) := by rw [hV]; exact at_new (by simp)
  have CO : Hid (∀ w', Below V.heap.size V w' → w'.cell? ⟨w.heap.size, 0, none⟩ = some (.int .i64 k)) := fun w' hb => (five_boxA ((hb.block _ (Array.getElem?_eq_some_iff.1 XO.out).1).trans XO.out)).1
  have CA : Hid (∀ w', Below V.heap.size V w' → w'.cell? ⟨w.heap.size + 1, 0, none⟩ = some (.int .i64 code) ∧ w'.cell? ⟨w.heap.size + 1, 1, none⟩ = some (.int .i64 n) ∧ w'.cell? ⟨w.heap.size + 1, 2, none⟩ = some (.slice aN nm.length cN)) := fun w' hb => three_box ((hb.block _ (Array.getElem?_eq_some_iff.1 XA.out).1).trans XA.out)
  have HC : Hid (0 < nm.length → ∃ b oo, aN = some ⟨b, oo, none⟩ ∧ b < w.heap.size ∧ ∀ j (h : j < nm.length), w.cell? ⟨b, oo + j, none⟩ = some (.string nm[j])) := hcell
  have RES := hideIt (show joinB (atW k code n nm) = joinB (cwT code :: (if code = 0 then exW k n nm else [])) from rfl)
  generalize joinB (atW k code n nm) = RS at *
  clear hN hcell XO XA
  generalize cwT code = cw at *
  go_enter Tryd.func16, Tryd.ntmps16
  go_upto_region 1 with fail
  rw [← hV]
  clear hV
  obtain ⟨a0, a1, a2⟩ := CA.out V (Below.refl _ _)
  go_wp2_with fail
  refine (LC.out _).mono ?_
  rintro e w1 ⟨rfl, hb1⟩
  have B1 := hideIt hb1
  clear hb1 a0 a1 a2 LC
  obtain ⟨a0, a1, a2⟩ := CA.out w1 B1.out
  have o0 := CO.out w1 B1.out
  by_cases c0 : code = 0
  · subst c0
    rw [if_pos rfl] at RES
    by_cases k8 : k = 8
    · subst k8
      have E := RES.out
      rw [show exW 8 n nm = [itT n] from rfl, joinB_two] at E
      have sv := it_size1 (z := (n : Int)) (by omega) (by omega)
      have A1 := fun (w1 : World) => run_string_add_sum (P := Tryd.prog) w1 cw ⟨#[32]⟩ (by show _ + 1 ≤ _; omega)
      have z1 : (cw ++ (⟨#[32]⟩ : ByteArray)).size = cw.size + 1 := by rw [ByteArray.size_append]; rfl
      have A2 := fun (w1 : World) => run_string_add_sum (P := Tryd.prog) w1 (cw ++ ⟨#[32]⟩) (itT n) (by omega)
      have LV := hideIt (LD.out n (by omega) (by omega))
      rw [← E] at A2
      clear E RES LD z1
      generalize cw ++ (⟨#[32]⟩ : ByteArray) = q1 at *
      generalize itT (n : Int) = iv at *
      go_wp2_with fail
      refine (LV.out _).mono ?_
      rintro e w2 ⟨rfl, hb2⟩
      have B2 := hideIt (below_trans BV.out (below_trans B1.out hb2 B1.out.size) BV.out.size)
      clear hb2 LV
      go_wp2
      go_ret
      exact ⟨rfl, B2.out⟩
    · by_cases k9 : k = 9
      · subst k9
        have E := RES.out
        rw [show exW 9 n nm = stW n from rfl] at E
        unfold stW at E
        obtain ⟨kw, hkw⟩ : ∃ kw : ByteArray, kw = if (n : Int) / 100 = 2 then ⟨#[100, 105, 114]⟩ else ⟨#[102, 105, 108, 101]⟩ := ⟨_, rfl⟩
        rw [← hkw] at E
        have skw : kw.size ≤ 4 := by rw [hkw]; split <;> decide
        have E2 : RS = cw ++ ⟨#[32]⟩ ++ kw ++ ⟨#[32]⟩ ++ itT ((n : Int) / 10 % 10) ++ ⟨#[32]⟩ ++ itT ((n : Int) % 10) := by
          rw [E, joinB_cons]
          apply ByteArray.ext
          apply Array.toList_inj.1
          simp [Lib.joinTail]
        have q1w : IntKind.i64.wrap ((n : Int) / 100) = (n : Int) / 100 := by rw [IntKind.wrap_i64]; omega
        have q2w : IntKind.i64.wrap ((n : Int) / 10) = (n : Int) / 10 := by rw [IntKind.wrap_i64]; omega
        have q3w : IntKind.i64.wrap ((n : Int) / 10 % 10) = (n : Int) / 10 % 10 := by rw [IntKind.wrap_i64]; omega
        have q4w : IntKind.i64.wrap ((n : Int) % 10) = (n : Int) % 10 := by rw [IntKind.wrap_i64]; omega
        have t1m : ((n : Int) / 10).tmod 10 = (n : Int) / 10 % 10 := Int.tmod_eq_emod_of_nonneg (by omega)
        have t2m : (n : Int).tmod 10 = (n : Int) % 10 := Int.tmod_eq_emod_of_nonneg (by omega)
        have sd1 := it_size1 (z := (n : Int) / 10 % 10) (by omega) (by omega)
        have sd2 := it_size1 (z := (n : Int) % 10) (by omega) (by omega)
        have L1 := hideIt (LD.out ((n : Int) / 10 % 10) (by omega) (by omega))
        have L2 := hideIt (LD.out ((n : Int) % 10) (by omega) (by omega))
        have A1 := fun (w1 : World) => run_string_add_sum (P := Tryd.prog) w1 cw ⟨#[32]⟩ (by show _ + 1 ≤ _; omega)
        have z1 : (cw ++ (⟨#[32]⟩ : ByteArray)).size = cw.size + 1 := by rw [ByteArray.size_append]; rfl
        have A2 := fun (w1 : World) => run_string_add_sum (P := Tryd.prog) w1 (cw ++ ⟨#[32]⟩) kw (by omega)
        have z2 : (cw ++ (⟨#[32]⟩ : ByteArray) ++ kw).size = cw.size + 1 + kw.size := by rw [ByteArray.size_append, z1]
        have A3 := fun (w1 : World) => run_string_add_sum (P := Tryd.prog) w1 (cw ++ ⟨#[32]⟩ ++ kw) ⟨#[32]⟩ (by show _ + 1 ≤ _; omega)
        have z3 : (cw ++ (⟨#[32]⟩ : ByteArray) ++ kw ++ ⟨#[32]⟩).size = cw.size + 1 + kw.size + 1 := by rw [ByteArray.size_append, z2]; rfl
        have A4 := fun (w1 : World) => run_string_add_sum (P := Tryd.prog) w1 (cw ++ ⟨#[32]⟩ ++ kw ++ ⟨#[32]⟩) (itT ((n : Int) / 10 % 10)) (by omega)
        have z4 : (cw ++ (⟨#[32]⟩ : ByteArray) ++ kw ++ ⟨#[32]⟩ ++ itT ((n : Int) / 10 % 10)).size = cw.size + 1 + kw.size + 1 + (itT ((n : Int) / 10 % 10)).size := by rw [ByteArray.size_append, z3]
        have A5 := fun (w1 : World) => run_string_add_sum (P := Tryd.prog) w1 (cw ++ ⟨#[32]⟩ ++ kw ++ ⟨#[32]⟩ ++ itT ((n : Int) / 10 % 10)) ⟨#[32]⟩ (by show _ + 1 ≤ _; omega)
        have z5 : (cw ++ (⟨#[32]⟩ : ByteArray) ++ kw ++ ⟨#[32]⟩ ++ itT ((n : Int) / 10 % 10) ++ ⟨#[32]⟩).size = cw.size + 1 + kw.size + 1 + (itT ((n : Int) / 10 % 10)).size + 1 := by rw [ByteArray.size_append, z4]; rfl
        have A6 := fun (w1 : World) => run_string_add_sum (P := Tryd.prog) w1 (cw ++ ⟨#[32]⟩ ++ kw ++ ⟨#[32]⟩ ++ itT ((n : Int) / 10 % 10) ++ ⟨#[32]⟩) (itT ((n : Int) % 10)) (by omega)
        rw [← E2] at A6
        clear E E2 RES LD z1 z2 z3 z4 z5
        generalize cw ++ (⟨#[32]⟩ : ByteArray) ++ kw ++ ⟨#[32]⟩ ++ itT ((n : Int) / 10 % 10) ++ ⟨#[32]⟩ = q5 at *
        generalize cw ++ (⟨#[32]⟩ : ByteArray) ++ kw ++ ⟨#[32]⟩ ++ itT ((n : Int) / 10 % 10) = q4 at *
        generalize cw ++ (⟨#[32]⟩ : ByteArray) ++ kw ++ ⟨#[32]⟩ = q3 at *
        generalize cw ++ (⟨#[32]⟩ : ByteArray) ++ kw = q2 at *
        generalize cw ++ (⟨#[32]⟩ : ByteArray) = q1 at *
        generalize itT ((n : Int) / 10 % 10) = i1 at *
        generalize itT ((n : Int) % 10) = i2 at *
        clear skw sd1 sd2 SC
        by_cases cd : (n : Int) / 100 = 2
        · have cd1 : ((n : Int) / 100 == 2) = true := by rw [beq_iff_eq]; exact cd
          rw [if_pos cd] at hkw
          subst hkw
          go_upto_region 11 with fail
          obtain ⟨kw, hkw⟩ : ∃ kw : ByteArray, kw = ⟨#[100, 105, 114]⟩ := ⟨_, rfl⟩
          rw [← hkw] at A2 ⊢
          clear cd cd1 hkw
          refine wp_region_T 17 (fun w' => w'.cell? ⟨w.heap.size + 1, 1, none⟩ = some (.int .i64 n)) (by kernel_rfl) a1 (fun hS => ?_)
          clear a0 a1 a2 o0
          refine wpAnyT_take (i := 0) (v := .string cw) [16, 11, 10, 4, 3, 1, 0] rfl (by kernel_rfl) (fun _ _ _ h => h) hS rfl (fun w' hSw => by go_simp) ?_
          try simp only [Act.put]
          refine wpAnyT_take (i := 1) (v := .string q1) [16, 11, 10, 4, 3, 1] rfl (by kernel_rfl) (fun _ _ _ h => h) hS rfl (fun w' hSw => by go_simp) ?_
          try simp only [Act.put]
          refine wpAnyT_take (i := 2) (v := .string kw) [16, 11, 10, 4, 3, 2] rfl (by kernel_rfl) (fun _ _ _ h => h) hS rfl (fun w' hSw => by go_simp) ?_
          try simp only [Act.put]
          refine wpAnyT_take (i := 3) (v := .string q2) [16, 11, 10, 4, 3] rfl (by kernel_rfl) (fun _ _ _ h => h) hS rfl (fun w' hSw => by go_simp) ?_
          try simp only [Act.put]
          refine wpAnyT_take (i := 4) (v := .string q3) [16, 11, 10, 4] rfl (by kernel_rfl) (fun _ _ _ h => h) hS rfl (fun w' hSw => by go_simp) ?_
          try simp only [Act.put]
          refine wpAnyT_take (i := 5) (v := .pointer (some ⟨w.heap.size + 1, 1, none⟩)) [16, 11, 10, 9, 8, 7, 6, 5] rfl (by kernel_rfl) (fun _ _ _ h => h) hS rfl (fun w' hSw => by go_simp) ?_
          try simp only [Act.put]
          refine wpAnyT_take (i := 6) (v := .int .i64 n) [16, 11, 10, 9, 8, 7, 6] rfl (by kernel_rfl) (fun _ _ _ h => h) hS rfl (fun w' hSw => by have h1 := hSw; go_simp) ?_
          try simp only [Act.put]
          refine wpAnyT_take (i := 7) (v := .int .i64 ((n : Int) / 10)) [16, 11, 10, 9, 8, 7] rfl (by kernel_rfl) (fun _ _ _ h => h) hS rfl (fun w' hSw => by go_simp) ?_
          try simp only [Act.put]
          refine wpAnyT_take (i := 8) (v := .int .i64 ((n : Int) / 10 % 10)) [16, 11, 10, 9, 8] rfl (by kernel_rfl) (fun _ _ _ h => h) hS rfl (fun w' hSw => by go_simp) ?_
          try simp only [Act.put]
          refine wpAnyT_take (i := 12) (v := .pointer (some ⟨w.heap.size + 1, 1, none⟩)) [16, 15, 14, 13, 12] rfl (by kernel_rfl) (fun _ _ _ h => h) hS rfl (fun w' hSw => by go_simp) ?_
          try simp only [Act.put]
          refine wpAnyT_take (i := 13) (v := .int .i64 n) [16, 15, 14, 13] rfl (by kernel_rfl) (fun _ _ _ h => h) hS rfl (fun w' hSw => by have h1 := hSw; go_simp) ?_
          try simp only [Act.put]
          refine wpAnyT_take (i := 14) (v := .int .i64 ((n : Int) % 10)) [16, 15, 14] rfl (by kernel_rfl) (fun _ _ _ h => h) hS rfl (fun w' hSw => by go_simp) ?_
          try simp only [Act.put]
          refine wpAnyT_one (i := 9) rfl (by kernel_rfl) (fun K hK => ?_)
          go_simp
          go_at_call 25
          refine (L1.out _).mono ?_
          rintro e w2 ⟨rfl, hb2⟩
          have B2 : Hid (Below w1.heap.size w1 w2) := by first | exact hb2 | exact below_trans ((Below.refl _ _).drew) hb2 (Nat.le_refl _)
          have S2 := (CA.out w2 (below_trans B1.out B2.out B1.out.size)).2.1
          refine hK.out _ _ (fun _ => S2) ?_
          clear hK K hb2 hS L1
          try simp only [Act.put]
          refine wpAnyT_take (i := 10) (v := .string q4) [16, 11, 10] rfl (by kernel_rfl) (fun _ _ _ h => h) S2 rfl (fun w' hSw => by go_simp) ?_
          try simp only [Act.put]
          refine wpAnyT_take (i := 11) (v := .string q5) [16, 11] rfl (by kernel_rfl) (fun _ _ _ h => h) S2 rfl (fun w' hSw => by go_simp) ?_
          try simp only [Act.put]
          refine wpAnyT_one (i := 15) rfl (by kernel_rfl) (fun K hK => ?_)
          go_simp
          go_at_call 25
          refine (L2.out _).mono ?_
          rintro e w3 ⟨rfl, hb3⟩
          have B3 : Hid (Below w1.heap.size w1 w3) := below_trans B2.out (by first | exact hb3 | exact below_trans ((Below.refl _ _).drew) hb3 (Nat.le_refl _)) B2.out.size
          have S3 := (CA.out w3 (below_trans B1.out B3.out B1.out.size)).2.1
          refine hK.out _ _ (fun _ => S3) ?_
          clear hK K hb3 S2 L2 B2
          try simp only [Act.put]
          refine wpAnyT_one (i := 16) rfl (by kernel_rfl) (fun K hK => ?_)
          go_simp
          refine hK.out _ _ (fun _ => S3) ?_
          clear hK K
          try simp only [Act.put]
          refine wpAnyT_one (i := 17) rfl (by kernel_rfl) (fun K hK => ?_)
          go_simp
          refine hK.out _ _ (fun h => absurd rfl h) ?_
          clear hK K
          try simp only [Act.put]
          refine wpAnyT_done (by kernel_rfl) ?_ _
          have B4 := hideIt (below_trans BV.out (below_trans B1.out B3.out B1.out.size) BV.out.size)
          clear S3 B3
          go_wp2
          go_ret
          exact ⟨rfl, B4.out⟩
        · have cd1 : ((n : Int) / 100 == 2) = false := by rw [beq_eq_false_iff_ne]; exact cd
          rw [if_neg cd] at hkw
          subst hkw
          go_upto_region 11 with fail
          obtain ⟨kw, hkw⟩ : ∃ kw : ByteArray, kw = ⟨#[102, 105, 108, 101]⟩ := ⟨_, rfl⟩
          rw [← hkw] at A2 ⊢
          clear cd cd1 hkw
          refine wp_region_T 17 (fun w' => w'.cell? ⟨w.heap.size + 1, 1, none⟩ = some (.int .i64 n)) (by kernel_rfl) a1 (fun hS => ?_)
          clear a0 a1 a2 o0
          refine wpAnyT_take (i := 0) (v := .string cw) [16, 11, 10, 4, 3, 1, 0] rfl (by kernel_rfl) (fun _ _ _ h => h) hS rfl (fun w' hSw => by go_simp) ?_
          try simp only [Act.put]
          refine wpAnyT_take (i := 1) (v := .string q1) [16, 11, 10, 4, 3, 1] rfl (by kernel_rfl) (fun _ _ _ h => h) hS rfl (fun w' hSw => by go_simp) ?_
          try simp only [Act.put]
          refine wpAnyT_take (i := 2) (v := .string kw) [16, 11, 10, 4, 3, 2] rfl (by kernel_rfl) (fun _ _ _ h => h) hS rfl (fun w' hSw => by go_simp) ?_
          try simp only [Act.put]
          refine wpAnyT_take (i := 3) (v := .string q2) [16, 11, 10, 4, 3] rfl (by kernel_rfl) (fun _ _ _ h => h) hS rfl (fun w' hSw => by go_simp) ?_
          try simp only [Act.put]
          refine wpAnyT_take (i := 4) (v := .string q3) [16, 11, 10, 4] rfl (by kernel_rfl) (fun _ _ _ h => h) hS rfl (fun w' hSw => by go_simp) ?_
          try simp only [Act.put]
          refine wpAnyT_take (i := 5) (v := .pointer (some ⟨w.heap.size + 1, 1, none⟩)) [16, 11, 10, 9, 8, 7, 6, 5] rfl (by kernel_rfl) (fun _ _ _ h => h) hS rfl (fun w' hSw => by go_simp) ?_
          try simp only [Act.put]
          refine wpAnyT_take (i := 6) (v := .int .i64 n) [16, 11, 10, 9, 8, 7, 6] rfl (by kernel_rfl) (fun _ _ _ h => h) hS rfl (fun w' hSw => by have h1 := hSw; go_simp) ?_
          try simp only [Act.put]
          refine wpAnyT_take (i := 7) (v := .int .i64 ((n : Int) / 10)) [16, 11, 10, 9, 8, 7] rfl (by kernel_rfl) (fun _ _ _ h => h) hS rfl (fun w' hSw => by go_simp) ?_
          try simp only [Act.put]
          refine wpAnyT_take (i := 8) (v := .int .i64 ((n : Int) / 10 % 10)) [16, 11, 10, 9, 8] rfl (by kernel_rfl) (fun _ _ _ h => h) hS rfl (fun w' hSw => by go_simp) ?_
          try simp only [Act.put]
          refine wpAnyT_take (i := 12) (v := .pointer (some ⟨w.heap.size + 1, 1, none⟩)) [16, 15, 14, 13, 12] rfl (by kernel_rfl) (fun _ _ _ h => h) hS rfl (fun w' hSw => by go_simp) ?_
          try simp only [Act.put]
          refine wpAnyT_take (i := 13) (v := .int .i64 n) [16, 15, 14, 13] rfl (by kernel_rfl) (fun _ _ _ h => h) hS rfl (fun w' hSw => by have h1 := hSw; go_simp) ?_
          try simp only [Act.put]
          refine wpAnyT_take (i := 14) (v := .int .i64 ((n : Int) % 10)) [16, 15, 14] rfl (by kernel_rfl) (fun _ _ _ h => h) hS rfl (fun w' hSw => by go_simp) ?_
          try simp only [Act.put]
          refine wpAnyT_one (i := 9) rfl (by kernel_rfl) (fun K hK => ?_)
          go_simp
          go_at_call 25
          refine (L1.out _).mono ?_
          rintro e w2 ⟨rfl, hb2⟩
          have B2 : Hid (Below w1.heap.size w1 w2) := by first | exact hb2 | exact below_trans ((Below.refl _ _).drew) hb2 (Nat.le_refl _)
          have S2 := (CA.out w2 (below_trans B1.out B2.out B1.out.size)).2.1
          refine hK.out _ _ (fun _ => S2) ?_
          clear hK K hb2 hS L1
          try simp only [Act.put]
          refine wpAnyT_take (i := 10) (v := .string q4) [16, 11, 10] rfl (by kernel_rfl) (fun _ _ _ h => h) S2 rfl (fun w' hSw => by go_simp) ?_
          try simp only [Act.put]
          refine wpAnyT_take (i := 11) (v := .string q5) [16, 11] rfl (by kernel_rfl) (fun _ _ _ h => h) S2 rfl (fun w' hSw => by go_simp) ?_
          try simp only [Act.put]
          refine wpAnyT_one (i := 15) rfl (by kernel_rfl) (fun K hK => ?_)
          go_simp
          go_at_call 25
          refine (L2.out _).mono ?_
          rintro e w3 ⟨rfl, hb3⟩
          have B3 : Hid (Below w1.heap.size w1 w3) := below_trans B2.out (by first | exact hb3 | exact below_trans ((Below.refl _ _).drew) hb3 (Nat.le_refl _)) B2.out.size
          have S3 := (CA.out w3 (below_trans B1.out B3.out B1.out.size)).2.1
          refine hK.out _ _ (fun _ => S3) ?_
          clear hK K hb3 S2 L2 B2
          try simp only [Act.put]
          refine wpAnyT_one (i := 16) rfl (by kernel_rfl) (fun K hK => ?_)
          go_simp
          refine hK.out _ _ (fun _ => S3) ?_
          clear hK K
          try simp only [Act.put]
          refine wpAnyT_one (i := 17) rfl (by kernel_rfl) (fun K hK => ?_)
          go_simp
          refine hK.out _ _ (fun h => absurd rfl h) ?_
          clear hK K
          try simp only [Act.put]
          refine wpAnyT_done (by kernel_rfl) ?_ _
          have B4 := hideIt (below_trans BV.out (below_trans B1.out B3.out B1.out.size) BV.out.size)
          clear S3 B3
          go_wp2
          go_ret
          exact ⟨rfl, B4.out⟩
      · have q8 : (k == 8) = false := by rw [beq_eq_false_iff_ne]; exact k8
        have q9 : (k == 9) = false := by rw [beq_eq_false_iff_ne]; exact k9
        by_cases k10 : k = 10
        · subst k10
          have E := RES.out
          rw [show exW 10 n nm = nm from rfl] at E
          have SZ : Hid (∀ m, m ≤ nm.length → (joinB (cw :: nm.take m)).size ≤ 30000000) := fun m hm => by
            have := joinB_sizeA cw 1048576 (by omega) (nm.take m) (fun y hy => hs y (List.mem_of_mem_take hy))
            rw [List.length_take, Nat.min_eq_left hm] at this
            have : m * (1048576 + 1) ≤ 24 * (1048576 + 1) := Nat.mul_le_mul_right _ (by omega)
            omega
          have SN : Hid (∀ m (h : m < nm.length), joinB (cw :: nm.take (m + 1)) = joinB (cw :: nm.take m) ++ (⟨#[32]⟩ ++ nm[m])) := fun m h => by
            rw [List.take_succ_eq_append_getElem h]
            exact joinB_snoc _ _ _
          have HS := hideIt hs
          clear hs RES LD q8 q9 k8 k9
          go_wp2_with fail
          go_loopg [5, 7] nm.length (fun gk s i wr => ∃ m : Nat, m + gk = nm.length ∧ s = .string (joinB (cw :: nm.take m)) ∧ i = .int .i64 m ∧ Hid (Below w1.heap.size w1 wr))
          case atStart => exact ⟨0, by omega, by rw [List.take_zero, joinB_one], rfl, Below.refl _ _⟩
          case round =>
            obtain ⟨m, hm, rfl, rfl, BR⟩ := hrel
            have m0 : (0 : Int) ≤ (m : Int) := by omega
            have BQ := hideIt (below_trans B1.out BR.out B1.out.size)
            obtain ⟨a0, a1, a2⟩ := CA.out _ BQ.out
            by_cases hlt : m < nm.length
            · have m1 : (m : Int) < (nm.length : Int) := by omega
              obtain ⟨b, oo, eb, hbw, hcl⟩ := HC.out (by omega)
              have ea : aN = some ⟨b, oo, none⟩ := eb
              subst ea
              have cel := ((below_trans BV.out BQ.out BV.out.size).cell (p := ⟨b, oo + m, none⟩) hbw).trans (hcl m hlt)
              have SZm := SZ.out m (by omega)
              have hy := HS.out nm[m] (List.getElem_mem hlt)
              have SNm := SN.out m hlt
              clear hcl eb
              have A1 := fun (w1 : World) => run_string_add_sum (P := Tryd.prog) w1 ⟨#[32]⟩ nm[m] (by show 1 + _ ≤ _; omega)
              have z1 : ((⟨#[32]⟩ : ByteArray) ++ nm[m]).size = 1 + nm[m].size := by rw [ByteArray.size_append]; rfl
              have A2 := fun (w1 : World) => run_string_add_sum (P := Tryd.prog) w1 (joinB (cw :: nm.take m)) (⟨#[32]⟩ ++ nm[m]) (by omega)
              rw [← SNm] at A2
              have hms : nm.length - (m + 1) < gk := by omega
              have hmq : m + 1 + (nm.length - (m + 1)) = nm.length := by omega
              clear SNm SZm hy z1 hm
              obtain ⟨j2, hj2⟩ : ∃ j2, j2 = joinB (cw :: nm.take (m + 1)) := ⟨_, rfl⟩
              rw [← hj2] at A2
              have J2 := hideIt hj2
              clear hj2 SN SZ HS E
              generalize joinB (cw :: nm.take m) = j1 at *
              generalize (⟨#[32]⟩ : ByteArray) ++ nm[m] = q1 at *
              generalize nm[m] = y at *
              go_wp2
              go_roundg (nm.length - (m + 1))
              case measure => exact hms
              case rel => exact ⟨m + 1, hmq, by rw [J2.out], by go_num, BR.out⟩
            · have eq : m = nm.length := by omega
              have m1 : ¬ (m : Int) < (nm.length : Int) := by omega
              rw [eq, List.take_length, ← E]
              have B2 := hideIt (below_trans BV.out BQ.out BV.out.size)
              clear E SN SZ HS BQ
              go_wp2
              go_ret
              exact ⟨rfl, B2.out⟩
        · have q10 : (k == 10) = false := by rw [beq_eq_false_iff_ne]; exact k10
          have E := RES.out
          rw [show exW k n nm = [] by unfold exW; rw [if_neg k8, if_neg k9, if_neg k10], joinB_one] at E
          have B2 := hideIt (below_trans BV.out B1.out BV.out.size)
          clear RES
          go_wp2
          go_ret
          exact ⟨by rw [E]; rfl, B2.out⟩
  · have E := RES.out
    rw [if_neg c0, joinB_one] at E
    have q0 : (code != 0) = true := by rw [bne_iff_ne]; exact c0
    have B2 := hideIt (below_trans BV.out B1.out BV.out.size)
    clear RES
    go_wp2
    go_ret
    exact ⟨by rw [E]; rfl, B2.out⟩
set_option maxRecDepth 100000 in
set_option maxHeartbeats 8000000 in
theorem specAnswerText_any (k : Int) (p t : ByteArray) (g x code vl : Int) (vN : Value) (nm : List ByteArray) (w : World) (hN : RdT w vN nm) (hl : nm.length ≤ 1048576) (hs : ∀ y ∈ nm, y.size ≤ maxLen) :
    Calls Tryd.prog 6 #[.agg #[.int .i64 k, .string p, .string t, .int .i64 g, .int .i64 x], .agg #[.int .i64 code, .int .i64 vl, vN]] w fun e w' => e = .returned (.tuple #[.string (atS k p t g x code vl nm), .int .i64 (atC k p t g x code vl nm)]) ∧ Below w.heap.size w w' := by
  have NO : Hid (atB k p t g x code vl nm = false → atS k p t g x code vl nm = ⟨#[]⟩ ∧ atC k p t g x code vl nm = 1) := fun h => by unfold atS atC; rw [h]; exact ⟨rfl, rfl⟩
  have YES : Hid (atB k p t g x code vl nm = true → atS k p t g x code vl nm = joinB (atW k code vl nm) ∧ atC k p t g x code vl nm = 0) := fun h => by unfold atS atC; rw [h]; exact ⟨rfl, rfl⟩
  have EB := hideIt (show atB k p t g x code vl nm = (opB k p t g x && (decide (0 ≤ code ∧ code < 20) && (wordB vl && (decide (nm.length ≤ 24) && nm.all nmB)))) from rfl)
  have LO := hideIt (fun w1 => specOpOK_any k p t g x w1)
  have LW := hideIt (fun w1 => l01Word_any vl w1)
  have LN := hideIt (fun (y : ByteArray) (hy : y ∈ nm) w1 => l03Name_any y w1 (hs y hy))
  have LA := hideIt (fun w1 (n : Nat) (e : vl = n) (hn : n < 1099511627776) (h24 : nm.length ≤ 24) (hz : ∀ y ∈ nm, y.size ≤ 1048576) (hb : Below w.heap.size w w1) => l15Answer_any k p t g x code n vN nm w1 hn (Rd.below hN hb) h24 hz)
  obtain ⟨aN, cN, rfl, hcN, hcell⟩ := hN.shape
  have HC : Hid (0 < nm.length → ∃ b oo, aN = some ⟨b, oo, none⟩ ∧ b < w.heap.size ∧ ∀ j (h : j < nm.length), w.cell? ⟨b, oo + j, none⟩ = some (.string nm[j])) := hcell
  obtain ⟨V, hV⟩ : ∃ V, V = (w.alloc (.cells #[.int .i64 k, .string p, .string t, .int .i64 g, .int .i64 x] 31)).alloc (.cells #[.int .i64 code, .int .i64 vl, .slice aN nm.length cN] 33) := ⟨_, rfl⟩
  have BV : Hid (Below w.heap.size w V) := by rw [hV]; exact ((Below.refl _ _).alloc (Nat.le_refl _) _).alloc (by simp) _
  have XO : Hid (V.heap[w.heap.size]? = some (.cells #[.int .i64 k, .string p, .string t, .int .i64 g, .int .i64 x] 31 (0, 0))) := by rw [hV]; exact at_old (at_new rfl)
  have XA : Hid (V.heap[w.heap.size + 1]? = some (.cells #[.int .i64 code, .int .i64 vl, .slice aN nm.length cN] 33 (0, 0))) := by rw [hV]; exact at_new (by simp)
  have CO : Hid (∀ w', Below V.heap.size V w' → w'.cell? ⟨w.heap.size, 0, none⟩ = some (.int .i64 k) ∧ w'.cell? ⟨w.heap.size, 1, none⟩ = some (.string p) ∧ w'.cell? ⟨w.heap.size, 2, none⟩ = some (.string t) ∧ w'.cell? ⟨w.heap.size, 3, none⟩ = some (.int .i64 g) ∧ w'.cell? ⟨w.heap.size, 4, none⟩ = some (.int .i64 x)) := fun w' hb => five_boxA ((hb.block _ (Array.getElem?_eq_some_iff.1 XO.out).1).trans XO.out)
  have CA : Hid (∀ w', Below V.heap.size V w' → w'.cell? ⟨w.heap.size + 1, 0, none⟩ = some (.int .i64 code) ∧ w'.cell? ⟨w.heap.size + 1, 1, none⟩ = some (.int .i64 vl) ∧ w'.cell? ⟨w.heap.size + 1, 2, none⟩ = some (.slice aN nm.length cN)) := fun w' hb => three_box ((hb.block _ (Array.getElem?_eq_some_iff.1 XA.out).1).trans XA.out)
  generalize atS k p t g x code vl nm = AS at *
  generalize atC k p t g x code vl nm = AC at *
  clear hN hcell XO XA hs
  go_enter Tryd.func6, Tryd.ntmps6
  go_upto_region 1 with fail
  rw [← hV]
  clear hV
  obtain ⟨o0, o1, o2, o3, o4⟩ := CO.out V (Below.refl _ _)
  go_wp2_with fail
  refine (LO.out _).mono ?_
  rintro e w1 ⟨rfl, hb1⟩
  have B1 := hideIt hb1
  have BW1 := hideIt (below_trans BV.out hb1 BV.out.size)
  clear hb1 o0 o1 o2 o3 o4 LO
  obtain ⟨a0, a1, a2⟩ := CA.out w1 B1.out
  cases qb : opB k p t g x with
  | false =>
    rw [qb, Bool.false_and] at EB
    obtain ⟨rfl, rfl⟩ := NO.out EB.out
    clear NO YES EB LA LN LW CO CA HC qb
    go_wp2
    go_ret2
    exact ⟨rfl, BW1.out⟩
  | true =>
    rw [qb, Bool.true_and] at EB
    clear qb
    by_cases hc : 0 ≤ code ∧ code ≤ 19
    · rw [decide_eq_true (by omega : 0 ≤ code ∧ code < 20), Bool.true_and] at EB
      have LI := hideIt (fun w1 => l01In_yes code 0 19 w1 hc)
      go_wp2_with fail
      refine (LI.out _).mono ?_
      rintro e w' ⟨rfl, hw'⟩
      subst w'
      clear LI hc
      go_wp2_with fail
      refine (LW.out _).mono ?_
      rintro e w' ⟨rfl, hw'⟩
      subst w'
      clear LW
      cases qw : wordB vl with
      | false =>
        rw [qw, Bool.false_and] at EB
        obtain ⟨rfl, rfl⟩ := NO.out EB.out
        clear NO YES EB LA LN CO CA HC qw
        go_wp2
        go_ret2
        exact ⟨rfl, BW1.out⟩
      | true =>
        rw [qw, Bool.true_and] at EB
        have hv := wordB_true qw
        by_cases h24 : nm.length ≤ 24
        · rw [decide_eq_true h24, Bool.true_and] at EB
          have k24 : ¬ (nm.length : Int) > 24 := by omega
          clear a0 a1 a2
          obtain ⟨a0, a1, a2⟩ := CA.out w1 B1.out
          have ALLN : Hid (∀ m (h : m < nm.length), nmB nm[m] = false → nm.all nmB = false) := fun m h e => List.all_eq_false.2 ⟨_, List.getElem_mem h, by rw [e]; decide⟩
          have ALLY : Hid ((∀ j (h : j < nm.length), nmB nm[j] = true) → nm.all nmB = true) := fun h => List.all_eq_true.2 (fun y hy => by obtain ⟨j, hj, rfl⟩ := List.getElem_of_mem hy; exact h j hj)
          clear qw
          go_wp2_with fail
          go_loopg [6] nm.length (fun gk i wr => ∃ m : Nat, m + gk = nm.length ∧ i = .int .i64 m ∧ wr = w1 ∧ Hid (∀ j (h : j < nm.length), j < m → nmB nm[j] = true))
          case atStart => exact ⟨0, by omega, rfl, rfl, fun j _ h => absurd h (by omega)⟩
          case round =>
            obtain ⟨m, hm, rfl, rfl, HJ⟩ := hrel
            have m0 : (0 : Int) ≤ (m : Int) := by omega
            by_cases hlt : m < nm.length
            · have m1 : (m : Int) < (nm.length : Int) := by omega
              obtain ⟨b, oo, eb, hbw, hcl⟩ := HC.out (by omega)
              have ea : aN = some ⟨b, oo, none⟩ := eb
              subst ea
              have cel := (BW1.out.cell (p := ⟨b, oo + m, none⟩) hbw).trans (hcl m hlt)
              have LNm := hideIt (LN.out nm[m] (List.getElem_mem hlt))
              have AN := hideIt (ALLN.out m hlt)
              have HX : Hid (nmB nm[m] = true → ∀ j (h : j < nm.length), j < m + 1 → nmB nm[j] = true) := fun e j h a => by
                by_cases c : j = m
                · subst c; exact e
                · exact HJ.out j h (by omega)
              have hms : nm.length - (m + 1) < gk := by omega
              have hmq : m + 1 + (nm.length - (m + 1)) = nm.length := by omega
              clear hcl eb hm HJ
              generalize nm[m] = y at *
              go_wp2_with fail
              refine (LNm.out _).mono ?_
              rintro e w' ⟨rfl, hw'⟩
              subst w'
              clear LNm
              cases qy : nmB y with
              | false =>
                rw [AN.out qy] at EB
                obtain ⟨rfl, rfl⟩ := NO.out EB.out
                clear NO YES EB LA LN CO CA HC AN HX ALLN ALLY
                go_wp2
                go_ret2
                exact ⟨rfl, BW1.out⟩
              | true =>
                have HX2 := hideIt (HX.out qy)
                clear HX AN qy
                go_wp2
                go_roundg (nm.length - (m + 1))
                case measure => exact hms
                case rel => exact ⟨m + 1, hmq, by go_num, rfl, HX2.out⟩
            · have m1 : ¬ (m : Int) < (nm.length : Int) := by omega
              rw [ALLY.out (fun j h => HJ.out j h (by omega))] at EB
              obtain ⟨eA, rfl⟩ := YES.out EB.out
              obtain ⟨n, rfl⟩ : ∃ n : Nat, vl = (n : Int) := ⟨vl.toNat, by omega⟩
              have LA2 := hideIt (LA.out wr n rfl (by omega) h24 (fun y hy => by obtain ⟨j, hj, rfl⟩ := List.getElem_of_mem hy; have := (nmB_true (HJ.out j hj (by omega))).2.1; omega) BW1.out)
              obtain ⟨o0, o1, o2, o3, o4⟩ := CO.out _ B1.out
              rw [← eA] at LA2
              clear eA NO YES EB LA LN CO CA HC ALLN ALLY HJ
              go_wp2_with fail
              refine LA2.out.mono ?_
              rintro e w3 ⟨rfl, hb3⟩
              have B3 := hideIt (below_trans BW1.out hb3 BW1.out.size)
              clear hb3 LA2
              go_wp2
              go_ret2
              exact ⟨rfl, B3.out⟩
        · rw [decide_eq_false h24, Bool.false_and] at EB
          obtain ⟨rfl, rfl⟩ := NO.out EB.out
          have k24 : (nm.length : Int) > 24 := by omega
          clear NO YES EB LA LN CO CA HC qw
          go_wp2
          go_ret2
          exact ⟨rfl, BW1.out⟩
    · rw [decide_eq_false (by omega : ¬ (0 ≤ code ∧ code < 20)), Bool.false_and] at EB
      obtain ⟨rfl, rfl⟩ := NO.out EB.out
      have LI := hideIt (fun w1 => l01In_no code 0 19 w1 hc)
      clear NO YES EB LA LN CO CA HC LW hc
      go_wp2_with fail
      refine (LI.out _).mono ?_
      rintro e w' ⟨rfl, hw'⟩
      subst w'
      clear LI
      go_wp2
      go_ret2
      exact ⟨rfl, BW1.out⟩
end Go.Proofs.YtkchiplcjlgflaaDoor
