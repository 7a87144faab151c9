/- Steps told in words: by the model. -/
import Derived.Test.YtjkdmhdehihcbaaGreatDoorMiS
import Derived.Test.YtjkdmhdehihcbaaGreatDoorDgA
import Derived.Test.YtjkdmhdehihcbaaGreatDoorOrdT
import Derived.Lib.Join
import Derived.Deep.RegionHeld3
namespace Go.Proofs.YtjkdmhdehihcbaaGreatDoor
open Go.RowKit
def joinB (ws : List ByteArray) : ByteArray := ⟨(Lib.join (ws.map (·.data.toList)) [32]).toArray⟩
theorem joinB_one (x : ByteArray) : joinB [x] = x := by
  unfold joinB
  rw [List.map_cons, List.map_nil, Lib.join_one]
theorem joinB_two (x y : ByteArray) : joinB [x, y] = x ++ ⟨#[32]⟩ ++ y := by
  unfold joinB
  rw [List.map_cons, List.map_cons, List.map_nil, Lib.join_cons]
  apply ByteArray.ext
  simp [Lib.joinTail]
theorem joinB_three (x y z : ByteArray) : joinB [x, y, z] = x ++ ⟨#[32]⟩ ++ y ++ ⟨#[32]⟩ ++ z := by
  unfold joinB
  rw [List.map_cons, List.map_cons, List.map_cons, List.map_nil, Lib.join_cons]
  apply ByteArray.ext
  simp [Lib.joinTail]
def miW (m : Mi) : List ByteArray :=
  if m.kind = 1 then [⟨#[115, 116, 111, 114, 101]⟩, itT m.at_, itT m.val]
  else if m.kind = 2 then [⟨#[102, 108, 117, 115, 104]⟩, itT m.at_]
  else if m.kind = 3 then [⟨#[102, 101, 110, 99, 101]⟩]
  else if m.kind = 4 then [⟨#[119, 114, 105, 116, 101]⟩, itT m.at_, itT m.val]
  else [⟨#[98, 97, 114, 114, 105, 101, 114]⟩]
def miT (m : Mi) : ByteArray := joinB (miW m)
theorem dig_it {z : Int} (h0 : 0 ≤ z) (h1 : z ≤ 9223372036854775807) (w : World) : Calls Tryz.prog 67 #[.int .i64 z] w fun e w' => e = .returned (.string (itT z)) ∧ Below w.heap.size w w' := by
  obtain ⟨n, rfl⟩ : ∃ n : Nat, z = (n : Int) := ⟨z.toNat, by omega⟩
  rw [it_nat]
  exact l00Digits_nat 19 n w (by omega) (by omega) (by omega)
theorem it_size1 {z : Int} (h0 : 0 ≤ z) (h1 : z ≤ 9223372036854775807) : (itT z).size ≤ 20 := by
  obtain ⟨n, rfl⟩ : ∃ n : Nat, z = (n : Int) := ⟨z.toNat, by omega⟩
  rw [it_nat]
  exact dg_len 19 n (by omega)
set_option maxRecDepth 100000 in
set_option maxHeartbeats 4000000 in
theorem l15Micro_any (m : Mi) (w : World) (hm : miB m = true) : Calls Tryz.prog 42 #[m.v] w fun e w' => e = .returned (.string (miT m)) ∧ Below w.heap.size w w' := by
  obtain ⟨k, a, v⟩ := m
  have hk := (miB_of k a v).1 hm
  have LD := hideIt (fun (z : Int) (h0 : 0 ≤ z) (h1 : z < 1099511627776) w1 => dig_it (z := z) h0 (by omega) w1)
  obtain ⟨V, hV⟩ : ∃ V, V = w.alloc (.cells #[.int .i64 k, .int .i64 a, .int .i64 v] 41) := ⟨_, rfl⟩
  have hb0 : Hid (Below w.heap.size w V) := by rw [hV]; exact (Below.refl _ _).alloc (Nat.le_refl _) _
  have XV : Hid (V.heap[w.heap.size]? = some (.cells #[.int .i64 k, .int .i64 a, .int .i64 v] 41 (0, 0))) := by rw [hV]; exact at_new rfl
  have CV : Hid (∀ w', Below V.heap.size V w' → w'.cell? ⟨w.heap.size, 1, none⟩ = some (.int .i64 a) ∧ w'.cell? ⟨w.heap.size, 2, none⟩ = some (.int .i64 v)) := fun w' hb => by
    have := three_cells ((hb.block _ (Array.getElem?_eq_some_iff.1 XV.out).1).trans XV.out)
    exact ⟨this.2.1, this.2.2⟩
  clear hm
  unfold Mi.v
  simp only
  rcases (show k = 1 ∨ k = 2 ∨ k = 3 ∨ k = 4 ∨ k = 5 by omega) with rfl | rfl | rfl | rfl | rfl
  · have h1 : 0 ≤ a ∧ a < 336 := by omega
    have h2 : 0 ≤ v ∧ v < 1099511627776 := by omega
    have sa := it_size1 (z := a) (by omega) (by omega)
    have sv := it_size1 (z := v) (by omega) (by omega)
    have E : miT ⟨1, a, v⟩ = ⟨#[115, 116, 111, 114, 101, 32]⟩ ++ itT a ++ ⟨#[32]⟩ ++ itT v := by
      show joinB [_, _, _] = _
      rw [joinB_three]
      rfl
    rw [E]
    have A1 := fun (w1 : World) => run_string_add_sum (P := Tryz.prog) w1 ⟨#[115, 116, 111, 114, 101, 32]⟩ (itT a) (by show 6 + _ ≤ _; omega)
    have z1 : ((⟨#[115, 116, 111, 114, 101, 32]⟩ : ByteArray) ++ itT a).size = 6 + (itT a).size := ByteArray.size_append
    have A2 := fun (w1 : World) => run_string_add_sum (P := Tryz.prog) w1 (⟨#[115, 116, 111, 114, 101, 32]⟩ ++ itT a) ⟨#[32]⟩ (by show _ + 1 ≤ _; omega)
    have z2 : ((⟨#[115, 116, 111, 114, 101, 32]⟩ : ByteArray) ++ itT a ++ ⟨#[32]⟩).size = 6 + (itT a).size + 1 := by rw [ByteArray.size_append, z1]; rfl
    have A3 := fun (w1 : World) => run_string_add_sum (P := Tryz.prog) w1 (⟨#[115, 116, 111, 114, 101, 32]⟩ ++ itT a ++ ⟨#[32]⟩) (itT v) (by omega)
    have LA := hideIt (LD.out a h1.1 (by omega))
    have LV := hideIt (LD.out v h2.1 h2.2)
    clear E LD hk h1 h2 z1 z2
    generalize (⟨#[115, 116, 111, 114, 101, 32]⟩ : ByteArray) ++ itT a ++ ⟨#[32]⟩ ++ itT v = q3 at *
    generalize (⟨#[115, 116, 111, 114, 101, 32]⟩ : ByteArray) ++ itT a ++ ⟨#[32]⟩ = q2 at *
    generalize (⟨#[115, 116, 111, 114, 101, 32]⟩ : ByteArray) ++ itT a = q1 at *
    generalize itT a = ia at *
    generalize itT v = iv at *
    go_enter Tryz.func42, Tryz.ntmps42
    go_upto_region 1 with fail
    rw [← hV]
    clear hV
    obtain ⟨x0, -, -⟩ := three_cells XV.out
    go_upto_region 3 with fail
    clear x0
    obtain ⟨c1, c2⟩ := CV.out V (Below.refl _ _)
    refine wp_region_T 9 (fun w' => w'.cell? ⟨w.heap.size, 1, none⟩ = some (.int .i64 a) ∧ w'.cell? ⟨w.heap.size, 2, none⟩ = some (.int .i64 v)) (by kernel_rfl) ⟨c1, c2⟩ (fun hS => ?_)
    clear c1 c2
    refine wpAnyT_take (i := 0) (v := .pointer (some ⟨w.heap.size, 1, none⟩)) [8, 4, 3, 2, 1, 0] rfl (by kernel_rfl) (fun _ _ _ h => h) hS rfl (fun w' hSw => by go_simp) ?_
    try simp only [Act.put]
    refine wpAnyT_take (i := 1) (v := .int .i64 a) [8, 4, 3, 2, 1] rfl (by kernel_rfl) (fun _ _ _ h => h) hS rfl (fun w' hSw => by have h1 := hSw.1; go_simp) ?_
    try simp only [Act.put]
    refine wpAnyT_take (i := 5) (v := .pointer (some ⟨w.heap.size, 2, none⟩)) [8, 7, 6, 5] rfl (by kernel_rfl) (fun _ _ _ h => h) hS rfl (fun w' hSw => by go_simp) ?_
    try simp only [Act.put]
    refine wpAnyT_take (i := 6) (v := .int .i64 v) [8, 7, 6] rfl (by kernel_rfl) (fun _ _ _ h => h) hS rfl (fun w' hSw => by have h1 := hSw.2; go_simp) ?_
    try simp only [Act.put]
    refine wpAnyT_one (i := 2) rfl (by kernel_rfl) (fun K hK => ?_)
    go_simp
    go_at_call 67
    refine (LA.out _).mono ?_
    rintro e w1 ⟨rfl, hb1⟩
    have B1 : Hid (Below V.heap.size V w1) := below_trans ((Below.refl _ _).drew) hb1 (Nat.le_refl _)
    have S1 := CV.out w1 B1.out
    refine hK.out _ _ (fun _ => S1) ?_
    clear hK K hb1 hS
    try simp only [Act.put]
    refine wpAnyT_take (i := 3) (v := .string q1) [8, 4, 3] rfl (by kernel_rfl) (fun _ _ _ h => h) S1 rfl (fun w' hSw => by go_simp) ?_
    try simp only [Act.put]
    refine wpAnyT_take (i := 4) (v := .string q2) [8, 4] rfl (by kernel_rfl) (fun _ _ _ h => h) S1 rfl (fun w' hSw => by go_simp) ?_
    try simp only [Act.put]
    refine wpAnyT_one (i := 7) rfl (by kernel_rfl) (fun K hK => ?_)
    go_simp
    go_at_call 67
    refine (LV.out _).mono ?_
    rintro e w2 ⟨rfl, hb2⟩
    have B2 : Hid (Below V.heap.size V w2) := below_trans B1.out (by first | exact hb2 | exact below_trans ((Below.refl _ _).drew) hb2 (Nat.le_refl _)) B1.out.size
    have S2 := CV.out w2 B2.out
    refine hK.out _ _ (fun _ => S2) ?_
    clear hK K hb2 B1 S1
    try simp only [Act.put]
    refine wpAnyT_one (i := 8) rfl (by kernel_rfl) (fun K hK => ?_)
    go_simp
    refine hK.out _ _ (fun _ => S2) ?_
    clear hK K
    try simp only [Act.put]
    refine wpAnyT_one (i := 9) rfl (by kernel_rfl) (fun K hK => ?_)
    go_simp
    refine hK.out _ _ (fun h => absurd rfl h) ?_
    clear hK K
    try simp only [Act.put]
    refine wpAnyT_done (by kernel_rfl) ?_ _
    go_wp2
    go_ret
    exact ⟨rfl, below_trans hb0.out B2.out hb0.out.size⟩
  · have h1 : 0 ≤ a ∧ a < 336 := by omega
    have sa := it_size1 (z := a) (by omega) (by omega)
    have E : miT ⟨2, a, v⟩ = ⟨#[102, 108, 117, 115, 104, 32]⟩ ++ itT a := by
      show joinB [_, _] = _
      rw [joinB_two]
      rfl
    rw [E]
    have A1 := fun (w1 : World) => run_string_add_sum (P := Tryz.prog) w1 ⟨#[102, 108, 117, 115, 104, 32]⟩ (itT a) (by show 6 + _ ≤ _; omega)
    have LA := hideIt (LD.out a h1.1 (by omega))
    clear E LD hk h1
    generalize (⟨#[102, 108, 117, 115, 104, 32]⟩ : ByteArray) ++ itT a = q1 at *
    generalize itT a = ia at *
    go_enter Tryz.func42, Tryz.ntmps42
    go_upto_region 1 with fail
    rw [← hV]
    clear hV
    obtain ⟨x0, x1, -⟩ := three_cells XV.out
    go_wp2_with fail
    refine (LA.out _).mono ?_
    rintro e w1 ⟨rfl, hb1⟩
    have B1 := hideIt (below_trans hb0.out hb1 hb0.out.size)
    clear hb1 x0 x1
    go_wp2
    go_ret
    exact ⟨rfl, B1.out⟩
  · have E : miT ⟨3, a, v⟩ = ⟨#[102, 101, 110, 99, 101]⟩ := joinB_one _
    rw [E]
    clear E LD hk
    go_enter Tryz.func42, Tryz.ntmps42
    go_upto_region 1 with fail
    rw [← hV]
    clear hV
    obtain ⟨x0, -, -⟩ := three_cells XV.out
    go_wp2
    go_ret
    exact ⟨rfl, hb0.out⟩
  · have h1 : 0 ≤ a ∧ a < 32 := by omega
    have h2 : 0 ≤ v ∧ v < 1099511627776 := by omega
    have sa := it_size1 (z := a) (by omega) (by omega)
    have sv := it_size1 (z := v) (by omega) (by omega)
    have E : miT ⟨4, a, v⟩ = ⟨#[119, 114, 105, 116, 101, 32]⟩ ++ itT a ++ ⟨#[32]⟩ ++ itT v := by
      show joinB [_, _, _] = _
      rw [joinB_three]
      rfl
    rw [E]
    have A1 := fun (w1 : World) => run_string_add_sum (P := Tryz.prog) w1 ⟨#[119, 114, 105, 116, 101, 32]⟩ (itT a) (by show 6 + _ ≤ _; omega)
    have z1 : ((⟨#[119, 114, 105, 116, 101, 32]⟩ : ByteArray) ++ itT a).size = 6 + (itT a).size := ByteArray.size_append
    have A2 := fun (w1 : World) => run_string_add_sum (P := Tryz.prog) w1 (⟨#[119, 114, 105, 116, 101, 32]⟩ ++ itT a) ⟨#[32]⟩ (by show _ + 1 ≤ _; omega)
    have z2 : ((⟨#[119, 114, 105, 116, 101, 32]⟩ : ByteArray) ++ itT a ++ ⟨#[32]⟩).size = 6 + (itT a).size + 1 := by rw [ByteArray.size_append, z1]; rfl
    have A3 := fun (w1 : World) => run_string_add_sum (P := Tryz.prog) w1 (⟨#[119, 114, 105, 116, 101, 32]⟩ ++ itT a ++ ⟨#[32]⟩) (itT v) (by omega)
    have LA := hideIt (LD.out a h1.1 (by omega))
    have LV := hideIt (LD.out v h2.1 h2.2)
    clear E LD hk h1 h2 z1 z2
    generalize (⟨#[119, 114, 105, 116, 101, 32]⟩ : ByteArray) ++ itT a ++ ⟨#[32]⟩ ++ itT v = q3 at *
    generalize (⟨#[119, 114, 105, 116, 101, 32]⟩ : ByteArray) ++ itT a ++ ⟨#[32]⟩ = q2 at *
    generalize (⟨#[119, 114, 105, 116, 101, 32]⟩ : ByteArray) ++ itT a = q1 at *
    generalize itT a = ia at *
    generalize itT v = iv at *
    go_enter Tryz.func42, Tryz.ntmps42
    go_upto_region 1 with fail
    rw [← hV]
    clear hV
    obtain ⟨x0, -, -⟩ := three_cells XV.out
    go_upto_region 9 with fail
    clear x0
    obtain ⟨c1, c2⟩ := CV.out V (Below.refl _ _)
    refine wp_region_T 9 (fun w' => w'.cell? ⟨w.heap.size, 1, none⟩ = some (.int .i64 a) ∧ w'.cell? ⟨w.heap.size, 2, none⟩ = some (.int .i64 v)) (by kernel_rfl) ⟨c1, c2⟩ (fun hS => ?_)
    clear c1 c2
    refine wpAnyT_take (i := 0) (v := .pointer (some ⟨w.heap.size, 1, none⟩)) [8, 4, 3, 2, 1, 0] rfl (by kernel_rfl) (fun _ _ _ h => h) hS rfl (fun w' hSw => by go_simp) ?_
    try simp only [Act.put]
    refine wpAnyT_take (i := 1) (v := .int .i64 a) [8, 4, 3, 2, 1] rfl (by kernel_rfl) (fun _ _ _ h => h) hS rfl (fun w' hSw => by have h1 := hSw.1; go_simp) ?_
    try simp only [Act.put]
    refine wpAnyT_take (i := 5) (v := .pointer (some ⟨w.heap.size, 2, none⟩)) [8, 7, 6, 5] rfl (by kernel_rfl) (fun _ _ _ h => h) hS rfl (fun w' hSw => by go_simp) ?_
    try simp only [Act.put]
    refine wpAnyT_take (i := 6) (v := .int .i64 v) [8, 7, 6] rfl (by kernel_rfl) (fun _ _ _ h => h) hS rfl (fun w' hSw => by have h1 := hSw.2; go_simp) ?_
    try simp only [Act.put]
    refine wpAnyT_one (i := 2) rfl (by kernel_rfl) (fun K hK => ?_)
    go_simp
    go_at_call 67
    refine (LA.out _).mono ?_
    rintro e w1 ⟨rfl, hb1⟩
    have B1 : Hid (Below V.heap.size V w1) := below_trans ((Below.refl _ _).drew) hb1 (Nat.le_refl _)
    have S1 := CV.out w1 B1.out
    refine hK.out _ _ (fun _ => S1) ?_
    clear hK K hb1 hS
    try simp only [Act.put]
    refine wpAnyT_take (i := 3) (v := .string q1) [8, 4, 3] rfl (by kernel_rfl) (fun _ _ _ h => h) S1 rfl (fun w' hSw => by go_simp) ?_
    try simp only [Act.put]
    refine wpAnyT_take (i := 4) (v := .string q2) [8, 4] rfl (by kernel_rfl) (fun _ _ _ h => h) S1 rfl (fun w' hSw => by go_simp) ?_
    try simp only [Act.put]
    refine wpAnyT_one (i := 7) rfl (by kernel_rfl) (fun K hK => ?_)
    go_simp
    go_at_call 67
    refine (LV.out _).mono ?_
    rintro e w2 ⟨rfl, hb2⟩
    have B2 : Hid (Below V.heap.size V w2) := below_trans B1.out (by first | exact hb2 | exact below_trans ((Below.refl _ _).drew) hb2 (Nat.le_refl _)) B1.out.size
    have S2 := CV.out w2 B2.out
    refine hK.out _ _ (fun _ => S2) ?_
    clear hK K hb2 B1 S1
    try simp only [Act.put]
    refine wpAnyT_one (i := 8) rfl (by kernel_rfl) (fun K hK => ?_)
    go_simp
    refine hK.out _ _ (fun _ => S2) ?_
    clear hK K
    try simp only [Act.put]
    refine wpAnyT_one (i := 9) rfl (by kernel_rfl) (fun K hK => ?_)
    go_simp
    refine hK.out _ _ (fun h => absurd rfl h) ?_
    clear hK K
    try simp only [Act.put]
    refine wpAnyT_done (by kernel_rfl) ?_ _
    go_wp2
    go_ret
    exact ⟨rfl, below_trans hb0.out B2.out hb0.out.size⟩
  · have E : miT ⟨5, a, v⟩ = ⟨#[98, 97, 114, 114, 105, 101, 114]⟩ := joinB_one _
    rw [E]
    clear E LD hk
    go_enter Tryz.func42, Tryz.ntmps42
    go_upto_region 1 with fail
    rw [← hV]
    clear hV
    obtain ⟨x0, -, -⟩ := three_cells XV.out
    go_wp2
    go_ret
    exact ⟨rfl, hb0.out⟩
def mtS (m : Mi) : ByteArray := if miB m = true then miT m else ⟨#[]⟩
def mtK (m : Mi) : Int := if miB m = true then 0 else 1
end Go.Proofs.YtjkdmhdehihcbaaGreatDoor
