/- Operations told in words: by the program. -/
import Derived.Test.YtjkdmhdehihcbaaGreatDoorOtA
import Derived.Test.YtjkdmhdehihcbaaGreatDoorMtB
import Derived.Test.YtjkdmhdehihcbaaGreatDoorPbE
import Derived.Test.YtjkdmhdehihcbaaGreatDoorDuG
namespace Go.Proofs.YtjkdmhdehihcbaaGreatDoor
open Go.RowKit
def sayF (f : Nat) : FuncId := if f = 0 then 56 else if f = 1 then 58 else if f = 2 then 60 else 62
def hearF (f : Nat) : FuncId := if f = 0 then 57 else if f = 1 then 59 else if f = 2 then 61 else 63
theorem implIsIndex_any (i n : Int) (w : World) : Calls Tryz.prog 79 #[.int .i64 i, .int .i64 n] w fun e w' => e = .returned (.bool (decide (0 ≤ i ∧ i < n))) ∧ w' = w := by
  by_cases h : 0 ≤ i ∧ i < n
  · rw [decide_eq_true h]; exact isIndex_yes i n w h
  · rw [decide_eq_false h]; exact isIndex_no i n w h
set_option maxRecDepth 100000 in
set_option maxHeartbeats 4000000 in
theorem pathWord_any (k : Int) (p t : ByteArray) (g x : Int) (w : World) :
    Calls Tryz.prog 56 #[.agg #[.int .i64 k, .string p, .string t, .int .i64 g, .int .i64 x]] w fun e w' => e = .returned (.tuple #[.string (p), .bool ((spC p == 0))]) ∧ Below w.heap.size w w' := by
  have LP := hideIt (fun w1 => implPathOK_any p w1)
  generalize (spC p == 0) = ok at *
  obtain ⟨V, hV⟩ : ∃ V, V = w.alloc (.cells #[.int .i64 k, .string p, .string t, .int .i64 g, .int .i64 x] 76) := ⟨_, rfl⟩
  have BV : Hid (Below w.heap.size w V) := by rw [hV]; exact (Below.refl _ _).alloc (Nat.le_refl _) _
  have XV : Hid (V.heap[w.heap.size]? = some (.cells #[.int .i64 k, .string p, .string t, .int .i64 g, .int .i64 x] 76 (0, 0))) := by rw [hV]; exact at_new rfl
  have zV := (Array.getElem?_eq_some_iff.1 XV.out).1
  have CV : Hid (∀ w', Below V.heap.size V w' → w'.cell? ⟨w.heap.size, 1, none⟩ = some (.string p)) := fun w' hb => by
    have h := (hb.block _ zV).trans XV.out
    simp [World.cell?, h]
  clear XV
  go_enter Tryz.func56, Tryz.ntmps56
  go_upto_region 1 with fail
  rw [← hV]
  clear hV
  have S0 := CV.out V (Below.refl _ _)
  refine wp_region_T 8 (fun w' => w'.cell? ⟨w.heap.size, 1, none⟩ = some (.string p)) (by kernel_rfl) S0 (fun hS => ?_)
  refine wpAnyT_take (i := 0) (v := .pointer (some ⟨w.heap.size, 0, none⟩)) [0] rfl (by kernel_rfl) (fun _ _ _ h => h) hS rfl (fun w' hSw => by go_simp) ?_
  try simp only [Act.put]
  refine wpAnyT_take (i := 1) (v := .pointer (some ⟨w.heap.size, 1, none⟩)) [1] rfl (by kernel_rfl) (fun _ _ _ h => h) hS rfl (fun w' hSw => by go_simp) ?_
  try simp only [Act.put]
  refine wpAnyT_take (i := 2) (v := .string p) [2] rfl (by kernel_rfl) (fun _ _ _ h => h) hS rfl (fun w' hSw => by go_simp) ?_
  try simp only [Act.put]
  refine wpAnyT_take (i := 3) (v := .pointer (some ⟨w.heap.size, 0, none⟩)) [3] rfl (by kernel_rfl) (fun _ _ _ h => h) hS rfl (fun w' hSw => by go_simp) ?_
  try simp only [Act.put]
  refine wpAnyT_take (i := 4) (v := .pointer (some ⟨w.heap.size, 1, none⟩)) [4] rfl (by kernel_rfl) (fun _ _ _ h => h) hS rfl (fun w' hSw => by go_simp) ?_
  try simp only [Act.put]
  refine wpAnyT_take (i := 5) (v := .string p) [5] rfl (by kernel_rfl) (fun _ _ _ h => h) hS rfl (fun w' hSw => by go_simp) ?_
  try simp only [Act.put]
  refine wpAnyT_one (i := 6) rfl (by kernel_rfl) (fun K hK => ?_)
  go_simp
  go_at_call 104
  refine (LP.out _).mono ?_
  rintro e w1 ⟨rfl, hb1⟩
  have B1 : Hid (Below V.heap.size V w1) := by first | exact hb1 | exact below_trans ((Below.refl _ _).drew) hb1 (Nat.le_refl _)
  have S1 := CV.out w1 B1.out
  refine hK.out _ _ (fun _ => S1) ?_
  clear hK K hb1 hS S0
  try simp only [Act.put]
  refine wpAnyT_one (i := 7) rfl (by kernel_rfl) (fun K hK => ?_)
  go_simp
  refine hK.out _ _ (fun _ => S1) ?_
  clear hK K
  try simp only [Act.put]
  refine wpAnyT_one (i := 8) rfl (by kernel_rfl) (fun K hK => ?_)
  go_simp
  refine hK.out _ _ (fun h => absurd rfl h) ?_
  clear hK K
  try simp only [Act.put]
  refine wpAnyT_done (by kernel_rfl) ?_ _
  have B2 : Hid (Below w.heap.size w w1) := below_trans BV.out B1.out BV.out.size
  clear S1 B1 BV CV
  go_wp2
  go_ret2
  exact ⟨rfl, by first | exact B2.out | exact B2.out.drew⟩
set_option maxRecDepth 100000 in
set_option maxHeartbeats 4000000 in
theorem toWord_any (k : Int) (p t : ByteArray) (g x : Int) (w : World) :
    Calls Tryz.prog 62 #[.agg #[.int .i64 k, .string p, .string t, .int .i64 g, .int .i64 x]] w fun e w' => e = .returned (.tuple #[.string (t), .bool ((spC t == 0))]) ∧ Below w.heap.size w w' := by
  have LP := hideIt (fun w1 => implPathOK_any t w1)
  generalize (spC t == 0) = ok at *
  obtain ⟨V, hV⟩ : ∃ V, V = w.alloc (.cells #[.int .i64 k, .string p, .string t, .int .i64 g, .int .i64 x] 76) := ⟨_, rfl⟩
  have BV : Hid (Below w.heap.size w V) := by rw [hV]; exact (Below.refl _ _).alloc (Nat.le_refl _) _
  have XV : Hid (V.heap[w.heap.size]? = some (.cells #[.int .i64 k, .string p, .string t, .int .i64 g, .int .i64 x] 76 (0, 0))) := by rw [hV]; exact at_new rfl
  have zV := (Array.getElem?_eq_some_iff.1 XV.out).1
  have CV : Hid (∀ w', Below V.heap.size V w' → w'.cell? ⟨w.heap.size, 2, none⟩ = some (.string t)) := fun w' hb => by
    have h := (hb.block _ zV).trans XV.out
    simp [World.cell?, h]
  clear XV
  go_enter Tryz.func62, Tryz.ntmps62
  go_upto_region 1 with fail
  rw [← hV]
  clear hV
  have S0 := CV.out V (Below.refl _ _)
  refine wp_region_T 8 (fun w' => w'.cell? ⟨w.heap.size, 2, none⟩ = some (.string t)) (by kernel_rfl) S0 (fun hS => ?_)
  refine wpAnyT_take (i := 0) (v := .pointer (some ⟨w.heap.size, 0, none⟩)) [0] rfl (by kernel_rfl) (fun _ _ _ h => h) hS rfl (fun w' hSw => by go_simp) ?_
  try simp only [Act.put]
  refine wpAnyT_take (i := 1) (v := .pointer (some ⟨w.heap.size, 2, none⟩)) [1] rfl (by kernel_rfl) (fun _ _ _ h => h) hS rfl (fun w' hSw => by go_simp) ?_
  try simp only [Act.put]
  refine wpAnyT_take (i := 2) (v := .string t) [2] rfl (by kernel_rfl) (fun _ _ _ h => h) hS rfl (fun w' hSw => by go_simp) ?_
  try simp only [Act.put]
  refine wpAnyT_take (i := 3) (v := .pointer (some ⟨w.heap.size, 0, none⟩)) [3] rfl (by kernel_rfl) (fun _ _ _ h => h) hS rfl (fun w' hSw => by go_simp) ?_
  try simp only [Act.put]
  refine wpAnyT_take (i := 4) (v := .pointer (some ⟨w.heap.size, 2, none⟩)) [4] rfl (by kernel_rfl) (fun _ _ _ h => h) hS rfl (fun w' hSw => by go_simp) ?_
  try simp only [Act.put]
  refine wpAnyT_take (i := 5) (v := .string t) [5] rfl (by kernel_rfl) (fun _ _ _ h => h) hS rfl (fun w' hSw => by go_simp) ?_
  try simp only [Act.put]
  refine wpAnyT_one (i := 6) rfl (by kernel_rfl) (fun K hK => ?_)
  go_simp
  go_at_call 104
  refine (LP.out _).mono ?_
  rintro e w1 ⟨rfl, hb1⟩
  have B1 : Hid (Below V.heap.size V w1) := by first | exact hb1 | exact below_trans ((Below.refl _ _).drew) hb1 (Nat.le_refl _)
  have S1 := CV.out w1 B1.out
  refine hK.out _ _ (fun _ => S1) ?_
  clear hK K hb1 hS S0
  try simp only [Act.put]
  refine wpAnyT_one (i := 7) rfl (by kernel_rfl) (fun K hK => ?_)
  go_simp
  refine hK.out _ _ (fun _ => S1) ?_
  clear hK K
  try simp only [Act.put]
  refine wpAnyT_one (i := 8) rfl (by kernel_rfl) (fun K hK => ?_)
  go_simp
  refine hK.out _ _ (fun h => absurd rfl h) ?_
  clear hK K
  try simp only [Act.put]
  refine wpAnyT_done (by kernel_rfl) ?_ _
  have B2 : Hid (Below w.heap.size w w1) := below_trans BV.out B1.out BV.out.size
  clear S1 B1 BV CV
  go_wp2
  go_ret2
  exact ⟨rfl, by first | exact B2.out | exact B2.out.drew⟩
set_option maxRecDepth 100000 in
set_option maxHeartbeats 4000000 in
theorem pageWord_any (k : Int) (p t : ByteArray) (g x : Int) (w : World) (hP : PT w) (h0 : -9223372036854775808 ≤ g) (h1 : g ≤ 9223372036854775807) :
    Calls Tryz.prog 58 #[.agg #[.int .i64 k, .string p, .string t, .int .i64 g, .int .i64 x]] w fun e w' => e = .returned (.tuple #[.string (itT g), .bool (decide (0 ≤ g ∧ g < 1001))]) ∧ Below w.heap.size w w' := by
  have LI := hideIt (fun w1 (hb : Below w.heap.size w w1) => itoa_any g w1 h0 h1 (hP.below hb))
  have LP := hideIt (fun w1 => implIsIndex_any g 1001 w1)
  clear hP h0 h1
  generalize itT g = iv at *
  generalize decide (0 ≤ g ∧ g < 1001) = ok at *
  obtain ⟨V, hV⟩ : ∃ V, V = w.alloc (.cells #[.int .i64 k, .string p, .string t, .int .i64 g, .int .i64 x] 76) := ⟨_, rfl⟩
  have BV : Hid (Below w.heap.size w V) := by rw [hV]; exact (Below.refl _ _).alloc (Nat.le_refl _) _
  have XV : Hid (V.heap[w.heap.size]? = some (.cells #[.int .i64 k, .string p, .string t, .int .i64 g, .int .i64 x] 76 (0, 0))) := by rw [hV]; exact at_new rfl
  have zV := (Array.getElem?_eq_some_iff.1 XV.out).1
  have CV : Hid (∀ w', Below V.heap.size V w' → w'.cell? ⟨w.heap.size, 3, none⟩ = some (.int .i64 g)) := fun w' hb => by
    have h := (hb.block _ zV).trans XV.out
    simp [World.cell?, h]
  clear XV
  go_enter Tryz.func58, Tryz.ntmps58
  go_upto_region 1 with fail
  rw [← hV]
  clear hV
  have S0 := CV.out V (Below.refl _ _)
  refine wp_region_T 9 (fun w' => w'.cell? ⟨w.heap.size, 3, none⟩ = some (.int .i64 g)) (by kernel_rfl) S0 (fun hS => ?_)
  refine wpAnyT_take (i := 0) (v := .pointer (some ⟨w.heap.size, 0, none⟩)) [0] rfl (by kernel_rfl) (fun _ _ _ h => h) hS rfl (fun w' hSw => by go_simp) ?_
  try simp only [Act.put]
  refine wpAnyT_take (i := 1) (v := .pointer (some ⟨w.heap.size, 3, none⟩)) [1] rfl (by kernel_rfl) (fun _ _ _ h => h) hS rfl (fun w' hSw => by go_simp) ?_
  try simp only [Act.put]
  refine wpAnyT_take (i := 2) (v := .int .i64 g) [2] rfl (by kernel_rfl) (fun _ _ _ h => h) hS rfl (fun w' hSw => by go_simp) ?_
  try simp only [Act.put]
  refine wpAnyT_take (i := 4) (v := .pointer (some ⟨w.heap.size, 0, none⟩)) [4] rfl (by kernel_rfl) (fun _ _ _ h => h) hS rfl (fun w' hSw => by go_simp) ?_
  try simp only [Act.put]
  refine wpAnyT_take (i := 5) (v := .pointer (some ⟨w.heap.size, 3, none⟩)) [5] rfl (by kernel_rfl) (fun _ _ _ h => h) hS rfl (fun w' hSw => by go_simp) ?_
  try simp only [Act.put]
  refine wpAnyT_take (i := 6) (v := .int .i64 g) [6] rfl (by kernel_rfl) (fun _ _ _ h => h) hS rfl (fun w' hSw => by go_simp) ?_
  try simp only [Act.put]
  refine wpAnyT_one (i := 3) rfl (by kernel_rfl) (fun K hK => ?_)
  go_simp
  go_at_call 80
  refine (LI.out _ (by first | exact BV.out | exact BV.out.drew)).mono ?_
  rintro e w1 ⟨rfl, hb1⟩
  have B1 : Hid (Below V.heap.size V w1) := by first | exact hb1 | exact below_trans ((Below.refl _ _).drew) hb1 (Nat.le_refl _)
  have S1 := CV.out w1 B1.out
  refine hK.out _ _ (fun _ => S1) ?_
  clear hK K hb1 hS S0
  try simp only [Act.put]
  refine wpAnyT_one (i := 7) rfl (by kernel_rfl) (fun K hK => ?_)
  go_simp
  go_at_call 79
  refine (LP.out _).mono ?_
  rintro e w' ⟨rfl, hw'⟩
  subst w'
  refine hK.out _ _ (fun _ => S1) ?_
  clear hK K
  try simp only [Act.put]
  refine wpAnyT_one (i := 8) rfl (by kernel_rfl) (fun K hK => ?_)
  go_simp
  refine hK.out _ _ (fun _ => S1) ?_
  clear hK K
  try simp only [Act.put]
  refine wpAnyT_one (i := 9) rfl (by kernel_rfl) (fun K hK => ?_)
  go_simp
  refine hK.out _ _ (fun h => absurd rfl h) ?_
  clear hK K
  try simp only [Act.put]
  refine wpAnyT_done (by kernel_rfl) ?_ _
  have B2 : Hid (Below w.heap.size w w1) := below_trans BV.out B1.out BV.out.size
  clear S1 B1 BV CV
  go_wp2
  go_ret2
  exact ⟨rfl, by first | exact B2.out | exact B2.out.drew⟩
set_option maxRecDepth 100000 in
set_option maxHeartbeats 4000000 in
theorem valueWord_any (k : Int) (p t : ByteArray) (g x : Int) (w : World) (hP : PT w) (h0 : -9223372036854775808 ≤ x) (h1 : x ≤ 9223372036854775807) :
    Calls Tryz.prog 60 #[.agg #[.int .i64 k, .string p, .string t, .int .i64 g, .int .i64 x]] w fun e w' => e = .returned (.tuple #[.string (itT x), .bool (wordB x)]) ∧ Below w.heap.size w w' := by
  have LI := hideIt (fun w1 (hb : Below w.heap.size w w1) => itoa_any x w1 h0 h1 (hP.below hb))
  have LP := hideIt (fun w1 => isWord_any x w1)
  clear hP h0 h1
  generalize itT x = iv at *
  generalize wordB x = ok at *
  obtain ⟨V, hV⟩ : ∃ V, V = w.alloc (.cells #[.int .i64 k, .string p, .string t, .int .i64 g, .int .i64 x] 76) := ⟨_, rfl⟩
  have BV : Hid (Below w.heap.size w V) := by rw [hV]; exact (Below.refl _ _).alloc (Nat.le_refl _) _
  have XV : Hid (V.heap[w.heap.size]? = some (.cells #[.int .i64 k, .string p, .string t, .int .i64 g, .int .i64 x] 76 (0, 0))) := by rw [hV]; exact at_new rfl
  have zV := (Array.getElem?_eq_some_iff.1 XV.out).1
  have CV : Hid (∀ w', Below V.heap.size V w' → w'.cell? ⟨w.heap.size, 4, none⟩ = some (.int .i64 x)) := fun w' hb => by
    have h := (hb.block _ zV).trans XV.out
    simp [World.cell?, h]
  clear XV
  go_enter Tryz.func60, Tryz.ntmps60
  go_upto_region 1 with fail
  rw [← hV]
  clear hV
  have S0 := CV.out V (Below.refl _ _)
  refine wp_region_T 9 (fun w' => w'.cell? ⟨w.heap.size, 4, none⟩ = some (.int .i64 x)) (by kernel_rfl) S0 (fun hS => ?_)
  refine wpAnyT_take (i := 0) (v := .pointer (some ⟨w.heap.size, 0, none⟩)) [0] rfl (by kernel_rfl) (fun _ _ _ h => h) hS rfl (fun w' hSw => by go_simp) ?_
  try simp only [Act.put]
  refine wpAnyT_take (i := 1) (v := .pointer (some ⟨w.heap.size, 4, none⟩)) [1] rfl (by kernel_rfl) (fun _ _ _ h => h) hS rfl (fun w' hSw => by go_simp) ?_
  try simp only [Act.put]
  refine wpAnyT_take (i := 2) (v := .int .i64 x) [2] rfl (by kernel_rfl) (fun _ _ _ h => h) hS rfl (fun w' hSw => by go_simp) ?_
  try simp only [Act.put]
  refine wpAnyT_take (i := 4) (v := .pointer (some ⟨w.heap.size, 0, none⟩)) [4] rfl (by kernel_rfl) (fun _ _ _ h => h) hS rfl (fun w' hSw => by go_simp) ?_
  try simp only [Act.put]
  refine wpAnyT_take (i := 5) (v := .pointer (some ⟨w.heap.size, 4, none⟩)) [5] rfl (by kernel_rfl) (fun _ _ _ h => h) hS rfl (fun w' hSw => by go_simp) ?_
  try simp only [Act.put]
  refine wpAnyT_take (i := 6) (v := .int .i64 x) [6] rfl (by kernel_rfl) (fun _ _ _ h => h) hS rfl (fun w' hSw => by go_simp) ?_
  try simp only [Act.put]
  refine wpAnyT_one (i := 3) rfl (by kernel_rfl) (fun K hK => ?_)
  go_simp
  go_at_call 80
  refine (LI.out _ (by first | exact BV.out | exact BV.out.drew)).mono ?_
  rintro e w1 ⟨rfl, hb1⟩
  have B1 : Hid (Below V.heap.size V w1) := by first | exact hb1 | exact below_trans ((Below.refl _ _).drew) hb1 (Nat.le_refl _)
  have S1 := CV.out w1 B1.out
  refine hK.out _ _ (fun _ => S1) ?_
  clear hK K hb1 hS S0
  try simp only [Act.put]
  refine wpAnyT_one (i := 7) rfl (by kernel_rfl) (fun K hK => ?_)
  go_simp
  go_at_call 73
  refine (LP.out _).mono ?_
  rintro e w' ⟨rfl, hw'⟩
  subst w'
  refine hK.out _ _ (fun _ => S1) ?_
  clear hK K
  try simp only [Act.put]
  refine wpAnyT_one (i := 8) rfl (by kernel_rfl) (fun K hK => ?_)
  go_simp
  refine hK.out _ _ (fun _ => S1) ?_
  clear hK K
  try simp only [Act.put]
  refine wpAnyT_one (i := 9) rfl (by kernel_rfl) (fun K hK => ?_)
  go_simp
  refine hK.out _ _ (fun h => absurd rfl h) ?_
  clear hK K
  try simp only [Act.put]
  refine wpAnyT_done (by kernel_rfl) ?_ _
  have B2 : Hid (Below w.heap.size w w1) := below_trans BV.out B1.out BV.out.size
  clear S1 B1 BV CV
  go_wp2
  go_ret2
  exact ⟨rfl, by first | exact B2.out | exact B2.out.drew⟩
theorem infoF : (Tryz.prog.info? 73).map (fun i => (i.zero, i.size, i.bytes)) = some (some (.agg #[.nilFunc, .nilFunc]), 2, 16) := by kernel_rfl
theorem wpList_append_grows {P : Program} (w : World) {ops : Array Oper} {rest : List Oper} {o : Oper} {a : Act} {Q : Exit → Act → World → Prop} (hgd : o.guard = none) (s x : Operand) (t : TypeId)
    (hop : o.op = .call { callee := .builtin .append, args := #[s, x], argTypes := #[t, t] })
    (e : TypeId) (z : Value) (size bytes : Nat) (ht : P.underlying t = some (.slice e)) (hinfo : (P.info? e).map (fun i => (i.zero, i.size, i.bytes)) = some (some z, size, bytes)) (hzs : z.cells.size = size) (hsz : 0 < size)
    (b n cap : Nat) (olds : List Value) (hs : a.eval s = .slice (some ⟨b, 0, none⟩) n cap) (hlo : olds.length = n * size) (holds : ∀ j u, olds[j]? = some u → w.cell? ⟨b, j, none⟩ = some u)
    (b2 m c : Nat) (news : List Value) (hx : a.eval x = .slice (some ⟨b2, 0, none⟩) m c) (hl : news.length = m * size) (hnews : ∀ j u, news[j]? = some u → w.cell? ⟨b2, j, none⟩ = some u)
    (hg : cap < n + m) (h63 : n + m ≤ maxLen) (hbytes : (n + m) * bytes ≤ 140737488355328)
    (h : ∀ v' w', w'.ownsRow w.heap.size e size v' (n + m) (olds ++ news) → w.grownBy w' none → wpList P ops Q rest (a.put o.dst v') w') : wpList P ops Q (o :: rest) a w := by
  refine wpList_plain hgd fun K hK => ?_
  obtain ⟨i, hi, hz, hs2, hby⟩ := info_parts hinfo
  obtain ⟨v', w', hrun, h2, h3⟩ := run_append_arg_grows (P := P) w t o.type e i z size bytes ht hi hz hs2 hby hzs hsz ⟨b, 0, none⟩ n cap olds hlo (fun j u hj => by rw [Addr.add_lit, Nat.zero_add]; exact holds j u hj) ⟨b2, 0, none⟩ m c news hl (fun j u hj => by rw [Addr.add_lit, Nat.zero_add]; exact hnews j u hj) hg h63 hbytes
  unfold Oper.wp execOp
  simp only [hop, resolve, invoke, builtin, Sem.run_bind, Sem.run_pure, Result.andThen_ok, List.map_toArray, List.map_cons, List.map_nil, hs, hx, hrun]
  exact hK _ _ (h v' w' h2 h3)
def FoI (lo : Nat) (w : World) (b0 : Nat) : Prop := lo ≤ b0 ∧ ∀ k, k < 11 → w.cell? ⟨b0, k * 2, none⟩ = some (.string (kwT k)) ∧ (k = 0 → w.cell? ⟨b0, k * 2 + 1, none⟩ = some (.slice none 0 0)) ∧
  (1 ≤ k → ∃ bk ck, bk < w.heap.size ∧ lo ≤ bk ∧ w.cell? ⟨b0, k * 2 + 1, none⟩ = some (.slice (some ⟨bk, 0, none⟩) (fdsOf k).length ck) ∧
    ∀ i (h : i < (fdsOf k).length), w.cell? ⟨bk, i * 2, none⟩ = some (.func (.func (sayF (fdsOf k)[i])) #[] #[]) ∧ w.cell? ⟨bk, i * 2 + 1, none⟩ = some (.func (.func (hearF (fdsOf k)[i])) #[] #[]))
theorem FoI.below {lo : Nat} {w w' : World} {b0 : Nat} (h : FoI lo w b0) (h0 : b0 < w.heap.size) (hb : Below w.heap.size w w') : FoI lo w' b0 := ⟨h.1, fun k hk => by
  obtain ⟨a, b, c⟩ := h.2 k hk
  refine ⟨(hb.cell (p := ⟨b0, k * 2, none⟩) h0).trans a, fun e => (hb.cell (p := ⟨b0, k * 2 + 1, none⟩) h0).trans (b e), fun e => ?_⟩
  obtain ⟨bk, ck, z, y, q, r⟩ := c e
  have := hb.size
  exact ⟨bk, ck, by omega, y, (hb.cell (p := ⟨b0, k * 2 + 1, none⟩) h0).trans q, fun i hi => ⟨(hb.cell (p := ⟨bk, i * 2, none⟩) z).trans (r i hi).1, (hb.cell (p := ⟨bk, i * 2 + 1, none⟩) z).trans (r i hi).2⟩⟩⟩
theorem FoI.mk_ {w : World} {lo b0 bF bG cG : Nat} {t1 t3 : TypeId} (l0 : lo ≤ b0) (l1 : lo ≤ bF) (l2 : lo ≤ bG) (hF : w.heap[bF]? = some (.cells #[.func (.func 56) #[] #[], .func (.func 57) #[] #[], .func (.func 58) #[] #[], .func (.func 59) #[] #[], .func (.func 60) #[] #[], .func (.func 61) #[] #[]] t1 (0, 0))) (hG : ∀ j, j < 4 → w.cell? ⟨bG, j, none⟩ = ([.func (.func 56) #[] #[], .func (.func 57) #[] #[], .func (.func 62) #[] #[], .func (.func 63) #[] #[]] : List Value)[j]?) (hg : bG < w.heap.size)
    (h0 : w.heap[b0]? = some (.cells #[.string ⟨#[]⟩, .slice none 0 0, .string ⟨#[109, 97, 107, 101]⟩, .slice (some ⟨bF, 0, none⟩) 1 1, .string ⟨#[109, 107, 100, 105, 114]⟩, .slice (some ⟨bF, 0, none⟩) 1 1, .string ⟨#[114, 101, 109, 111, 118, 101]⟩, .slice (some ⟨bF, 0, none⟩) 1 1, .string ⟨#[108, 105, 110, 107]⟩, .slice (some ⟨bG, 0, none⟩) 2 cG, .string ⟨#[114, 101, 110, 97, 109, 101]⟩, .slice (some ⟨bG, 0, none⟩) 2 cG, .string ⟨#[119, 114, 105, 116, 101]⟩, .slice (some ⟨bF, 0, none⟩) 3 3, .string ⟨#[99, 117, 116]⟩, .slice (some ⟨bF, 0, none⟩) 2 2, .string ⟨#[114, 101, 97, 100]⟩, .slice (some ⟨bF, 0, none⟩) 2 2, .string ⟨#[115, 116, 97, 116]⟩, .slice (some ⟨bF, 0, none⟩) 1 1, .string ⟨#[108, 105, 115, 116]⟩, .slice (some ⟨bF, 0, none⟩) 1 1] t3 (0, 0))) : FoI lo w b0 := by
  have zF := (Array.getElem?_eq_some_iff.1 hF).1
  have f0 : ∀ j, w.cell? ⟨bF, j, none⟩ = (#[.func (.func 56) #[] #[], .func (.func 57) #[] #[], .func (.func 58) #[] #[], .func (.func 59) #[] #[], .func (.func 60) #[] #[], .func (.func 61) #[] #[]] : Array Value)[j]? := fun j => by simp only [World.cell?, hF]; rfl
  have f1 : ∀ j, w.cell? ⟨b0, j, none⟩ = (#[.string ⟨#[]⟩, .slice none 0 0, .string ⟨#[109, 97, 107, 101]⟩, .slice (some ⟨bF, 0, none⟩) 1 1, .string ⟨#[109, 107, 100, 105, 114]⟩, .slice (some ⟨bF, 0, none⟩) 1 1, .string ⟨#[114, 101, 109, 111, 118, 101]⟩, .slice (some ⟨bF, 0, none⟩) 1 1, .string ⟨#[108, 105, 110, 107]⟩, .slice (some ⟨bG, 0, none⟩) 2 cG, .string ⟨#[114, 101, 110, 97, 109, 101]⟩, .slice (some ⟨bG, 0, none⟩) 2 cG, .string ⟨#[119, 114, 105, 116, 101]⟩, .slice (some ⟨bF, 0, none⟩) 3 3, .string ⟨#[99, 117, 116]⟩, .slice (some ⟨bF, 0, none⟩) 2 2, .string ⟨#[114, 101, 97, 100]⟩, .slice (some ⟨bF, 0, none⟩) 2 2, .string ⟨#[115, 116, 97, 116]⟩, .slice (some ⟨bF, 0, none⟩) 1 1, .string ⟨#[108, 105, 115, 116]⟩, .slice (some ⟨bF, 0, none⟩) 1 1] : Array Value)[j]? := fun j => by simp only [World.cell?, h0]; rfl
  refine ⟨l0, ?_⟩
  intro k hk
  rcases (show k = 0 ∨ (k = 1 ∨ k = 2 ∨ k = 3 ∨ k = 9 ∨ k = 10) ∨ (k = 4 ∨ k = 5) ∨ k = 6 ∨ (k = 7 ∨ k = 8) by omega) with h | h | h | h | h
  · subst h
    exact ⟨(f1 _).trans rfl, fun _ => (f1 _).trans rfl, fun e => absurd e (by omega)⟩
  · rcases h with rfl | rfl | rfl | rfl | rfl <;>
      (refine ⟨(f1 _).trans rfl, fun e => absurd e (by omega), fun _ => ⟨bF, 1, zF, l1, (f1 _).trans rfl, fun i hi => ?_⟩⟩
       obtain rfl : i = 0 := by have : i < 1 := hi; omega
       exact ⟨(f0 _).trans rfl, (f0 _).trans rfl⟩)
  · rcases h with rfl | rfl <;>
      (refine ⟨(f1 _).trans rfl, fun e => absurd e (by omega), fun _ => ⟨bG, cG, hg, l2, (f1 _).trans rfl, fun i hi => ?_⟩⟩
       rcases (show i = 0 ∨ i = 1 by have : i < 2 := hi; omega) with rfl | rfl
       · exact ⟨(hG 0 (by omega)).trans rfl, (hG 1 (by omega)).trans rfl⟩
       · exact ⟨(hG 2 (by omega)).trans rfl, (hG 3 (by omega)).trans rfl⟩)
  · subst h
    refine ⟨(f1 _).trans rfl, fun e => absurd e (by omega), fun _ => ⟨bF, 3, zF, l1, (f1 _).trans rfl, fun i hi => ?_⟩⟩
    rcases (show i = 0 ∨ i = 1 ∨ i = 2 by have : i < 3 := hi; omega) with rfl | rfl | rfl <;> exact ⟨(f0 _).trans rfl, (f0 _).trans rfl⟩
  · rcases h with rfl | rfl <;>
      (refine ⟨(f1 _).trans rfl, fun e => absurd e (by omega), fun _ => ⟨bF, 2, zF, l1, (f1 _).trans rfl, fun i hi => ?_⟩⟩
       rcases (show i = 0 ∨ i = 1 by have : i < 2 := hi; omega) with rfl | rfl <;> exact ⟨(f0 _).trans rfl, (f0 _).trans rfl⟩)
set_option maxRecDepth 100000 in
set_option maxHeartbeats 8000000 in
theorem opForms_any (w : World) : Calls Tryz.prog 23 #[] w fun e w' => ∃ b0, e = .returned (.slice (some ⟨b0, 0, none⟩) 11 11) ∧ b0 < w'.heap.size ∧ FoI w.heap.size w' b0 ∧ Below w.heap.size w w' := by
  obtain ⟨V, hV⟩ : ∃ V, V = w.alloc (.cells #[.func (.func 56) #[] #[], .func (.func 57) #[] #[], .func (.func 58) #[] #[], .func (.func 59) #[] #[], .func (.func 60) #[] #[], .func (.func 61) #[] #[]] 73) := ⟨_, rfl⟩
  have BV : Hid (Below w.heap.size w V) := by rw [hV]; exact (Below.refl _ _).alloc (Nat.le_refl _) _
  have XV : Hid (V.heap[w.heap.size]? = some (.cells #[.func (.func 56) #[] #[], .func (.func 57) #[] #[], .func (.func 58) #[] #[], .func (.func 59) #[] #[], .func (.func 60) #[] #[], .func (.func 61) #[] #[]] 73 (0, 0))) := by rw [hV]; exact at_new rfl
  have zV := (Array.getElem?_eq_some_iff.1 XV.out).1
  go_enter Tryz.func23, Tryz.ntmps23
  go_upto_region 2 with fail
  rw [← hV]
  clear hV
  refine wp_region_T 7 (fun _ => True) (by kernel_rfl) trivial (fun _ => ?_)
  refine wpAnyT_take (i := 0) (v := .slice (some ⟨w.heap.size, 0, none⟩) 3 3) [0] rfl (by kernel_rfl) (fun _ _ _ h => h) trivial rfl (fun w' hSw => by go_simp) ?_
  try simp only [Act.put]
  refine wpAnyT_take (i := 1) (v := .slice (some ⟨w.heap.size, 0, none⟩) 1 1) [1] rfl (by kernel_rfl) (fun _ _ _ h => h) trivial rfl (fun w' hSw => by go_simp) ?_
  try simp only [Act.put]
  refine wpAnyT_take (i := 2) (v := .slice (some ⟨w.heap.size, 0, none⟩) 3 3) [2] rfl (by kernel_rfl) (fun _ _ _ h => h) trivial rfl (fun w' hSw => by go_simp) ?_
  try simp only [Act.put]
  refine wpAnyT_take (i := 3) (v := .slice (some ⟨w.heap.size, 0, none⟩) 2 2) [3] rfl (by kernel_rfl) (fun _ _ _ h => h) trivial rfl (fun w' hSw => by go_simp) ?_
  try simp only [Act.put]
  refine wpAnyT_take (i := 4) (v := .slice (some ⟨w.heap.size, 0, none⟩) 3 3) [4] rfl (by kernel_rfl) (fun _ _ _ h => h) trivial rfl (fun w' hSw => by go_simp) ?_
  try simp only [Act.put]
  refine wpAnyT_one (i := 5) rfl (by kernel_rfl) (fun K hK => ?_)
  go_simp
  refine hK.out _ _ (fun _ => trivial) ?_
  clear hK K
  try simp only [Act.put]
  refine wpAnyT_one (i := 6) rfl (by kernel_rfl) (fun K hK => ?_)
  go_simp
  refine hK.out _ _ (fun _ => trivial) ?_
  clear hK K
  try simp only [Act.put]
  refine wpAnyT_one (i := 7) rfl (by kernel_rfl) (fun K hK => ?_)
  go_simp
  refine hK.out _ _ (fun _ => trivial) ?_
  clear hK K
  try simp only [Act.put]
  refine wpAnyT_done (by kernel_rfl) ?_ _
  obtain ⟨W2, hW2⟩ : ∃ W2, W2 = V.alloc (.cells #[.func (.func 62) #[] #[], .func (.func 63) #[] #[]] 73) := ⟨_, rfl⟩
  have b2 : Below V.heap.size V W2 := by rw [hW2]; exact (Below.refl _ _).alloc (Nat.le_refl _) _
  have X2 := hideIt ((b2.block _ zV).trans XV.out)
  have XT : Hid (W2.heap[V.heap.size]? = some (.cells #[.func (.func 62) #[] #[], .func (.func 63) #[] #[]] 73 (0, 0))) := by rw [hW2]; exact at_new rfl
  have B2 := hideIt (below_trans BV.out b2 BV.out.size)
  have H1 : ∀ (j : Nat) u, ([.func (.func 56) #[] #[], .func (.func 57) #[] #[]] : List Value)[j]? = some u → W2.cell? ⟨w.heap.size, j, none⟩ = some u := fun j u hj => by
    have e : W2.cell? ⟨w.heap.size, j, none⟩ = (#[.func (.func 56) #[] #[], .func (.func 57) #[] #[], .func (.func 58) #[] #[], .func (.func 59) #[] #[], .func (.func 60) #[] #[], .func (.func 61) #[] #[]] : Array Value)[j]? := by simp only [World.cell?, X2.out]; rfl
    rw [e]
    have : j < 2 := (List.getElem?_eq_some_iff.1 hj).1
    rcases (show j = 0 ∨ j = 1 by omega) with rfl | rfl <;> exact hj
  have H2 : ∀ (j : Nat) u, ([.func (.func 62) #[] #[], .func (.func 63) #[] #[]] : List Value)[j]? = some u → W2.cell? ⟨V.heap.size, j, none⟩ = some u := fun j u hj => by
    have e : W2.cell? ⟨V.heap.size, j, none⟩ = (#[.func (.func 62) #[] #[], .func (.func 63) #[] #[]] : Array Value)[j]? := by simp only [World.cell?, XT.out]; rfl
    rw [e]
    have : j < 2 := (List.getElem?_eq_some_iff.1 hj).1
    rcases (show j = 0 ∨ j = 1 by omega) with rfl | rfl <;> exact hj
  have z2 := b2.size
  clear b2 XT BV XV
  rw [hW2] at H1 H2
  go_wp2_with (at_builtin; refine wpList_append_grows _ rfl (.tmp 15) (.tmp 17) 65 rfl 73 (.agg #[.nilFunc, .nilFunc]) 2 16 Tryz.underlying65 infoF rfl (by decide) w.heap.size 1 1 [.func (.func 56) #[] #[], .func (.func 57) #[] #[]] rfl rfl H1 V.heap.size 1 1 [.func (.func 62) #[] #[], .func (.func 63) #[] #[]] rfl rfl H2 (by decide) (by simp [maxLen]) (by decide) ?_)
  rw [← hW2]
  clear H1 H2 hW2
  intro vN wN hown hgr
  have B3 : Hid (Below w.heap.size w wN) := B2.out.drew.grown hgr B2.out.size (fun q hq => by cases hq)
  have b3 : Below W2.heap.size W2 wN := ((Below.refl W2.heap.size W2).drew).grown hgr (Nat.le_refl _) (fun q hq => by cases hq)
  have X3 := hideIt ((b3.block _ (by omega)).trans X2.out)
  obtain ⟨-, aN, cN, hvN, -, hcN⟩ := (own_block hown).rd
  subst hvN
  obtain ⟨bG, oG, rfl, hbG, -⟩ := hcN (by omega)
  obtain ⟨rfl, hb1, -, -, -, hcl⟩ := (own_block hown).at
  have HG : Hid (∀ j, j < 4 → wN.cell? ⟨bG, j, none⟩ = ([.func (.func 56) #[] #[], .func (.func 57) #[] #[], .func (.func 62) #[] #[], .func (.func 63) #[] #[]] : List Value)[j]?) := fun j hj => hcl j (by omega)
  have zN := (Array.getElem?_eq_some_iff.1 X3.out).1
  clear hown hgr hcN hcl b3 X2 B2
  have B4 : Hid (Below w.heap.size w (wN.alloc (.cells #[.string ⟨#[]⟩, .slice none 0 0, .string ⟨#[109, 97, 107, 101]⟩, .slice (some ⟨w.heap.size, 0, none⟩) 1 1, .string ⟨#[109, 107, 100, 105, 114]⟩, .slice (some ⟨w.heap.size, 0, none⟩) 1 1, .string ⟨#[114, 101, 109, 111, 118, 101]⟩, .slice (some ⟨w.heap.size, 0, none⟩) 1 1, .string ⟨#[108, 105, 110, 107]⟩, .slice (some ⟨bG, 0, none⟩) 2 cN, .string ⟨#[114, 101, 110, 97, 109, 101]⟩, .slice (some ⟨bG, 0, none⟩) 2 cN, .string ⟨#[119, 114, 105, 116, 101]⟩, .slice (some ⟨w.heap.size, 0, none⟩) 3 3, .string ⟨#[99, 117, 116]⟩, .slice (some ⟨w.heap.size, 0, none⟩) 2 2, .string ⟨#[114, 101, 97, 100]⟩, .slice (some ⟨w.heap.size, 0, none⟩) 2 2, .string ⟨#[115, 116, 97, 116]⟩, .slice (some ⟨w.heap.size, 0, none⟩) 1 1, .string ⟨#[108, 105, 115, 116]⟩, .slice (some ⟨w.heap.size, 0, none⟩) 1 1] 67))) := B3.out.alloc B3.out.size _
  have LG : Hid (w.heap.size ≤ bG) := by have : V.heap.size + 1 ≤ bG := hb1; unfold Hid; omega
  have LN : Hid (w.heap.size ≤ wN.heap.size) := B3.out.size
  have FO : Hid (FoI w.heap.size (wN.alloc (.cells #[.string ⟨#[]⟩, .slice none 0 0, .string ⟨#[109, 97, 107, 101]⟩, .slice (some ⟨w.heap.size, 0, none⟩) 1 1, .string ⟨#[109, 107, 100, 105, 114]⟩, .slice (some ⟨w.heap.size, 0, none⟩) 1 1, .string ⟨#[114, 101, 109, 111, 118, 101]⟩, .slice (some ⟨w.heap.size, 0, none⟩) 1 1, .string ⟨#[108, 105, 110, 107]⟩, .slice (some ⟨bG, 0, none⟩) 2 cN, .string ⟨#[114, 101, 110, 97, 109, 101]⟩, .slice (some ⟨bG, 0, none⟩) 2 cN, .string ⟨#[119, 114, 105, 116, 101]⟩, .slice (some ⟨w.heap.size, 0, none⟩) 3 3, .string ⟨#[99, 117, 116]⟩, .slice (some ⟨w.heap.size, 0, none⟩) 2 2, .string ⟨#[114, 101, 97, 100]⟩, .slice (some ⟨w.heap.size, 0, none⟩) 2 2, .string ⟨#[115, 116, 97, 116]⟩, .slice (some ⟨w.heap.size, 0, none⟩) 1 1, .string ⟨#[108, 105, 115, 116]⟩, .slice (some ⟨w.heap.size, 0, none⟩) 1 1] 67)) wN.heap.size) :=
    FoI.mk_ (bF := w.heap.size) (bG := bG) (cG := cN) LN.out (Nat.le_refl _) LG.out (at_old X3.out) (fun j hj => by
      have b : Below wN.heap.size wN (wN.alloc (.cells #[.string ⟨#[]⟩, .slice none 0 0, .string ⟨#[109, 97, 107, 101]⟩, .slice (some ⟨w.heap.size, 0, none⟩) 1 1, .string ⟨#[109, 107, 100, 105, 114]⟩, .slice (some ⟨w.heap.size, 0, none⟩) 1 1, .string ⟨#[114, 101, 109, 111, 118, 101]⟩, .slice (some ⟨w.heap.size, 0, none⟩) 1 1, .string ⟨#[108, 105, 110, 107]⟩, .slice (some ⟨bG, 0, none⟩) 2 cN, .string ⟨#[114, 101, 110, 97, 109, 101]⟩, .slice (some ⟨bG, 0, none⟩) 2 cN, .string ⟨#[119, 114, 105, 116, 101]⟩, .slice (some ⟨w.heap.size, 0, none⟩) 3 3, .string ⟨#[99, 117, 116]⟩, .slice (some ⟨w.heap.size, 0, none⟩) 2 2, .string ⟨#[114, 101, 97, 100]⟩, .slice (some ⟨w.heap.size, 0, none⟩) 2 2, .string ⟨#[115, 116, 97, 116]⟩, .slice (some ⟨w.heap.size, 0, none⟩) 1 1, .string ⟨#[108, 105, 115, 116]⟩, .slice (some ⟨w.heap.size, 0, none⟩) 1 1] 67)) := (Below.refl _ _).alloc (Nat.le_refl _) _
      rw [b.cell (p := ⟨bG, j, none⟩) hbG]
      exact HG.out j hj) (by simp; omega) (at_new rfl)
  clear HG X3 B3
  go_wp2
  go_ret
  exact ⟨_, rfl, by simp, FO.out, B4.out⟩
end Go.Proofs.YtjkdmhdehihcbaaGreatDoor
