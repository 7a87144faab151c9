/- Operations told in words: by the model. -/
import Derived.Test.YtjkdmhdehihcbaaGreatDoorMtA
import Derived.Test.YtjkdmhdehihcbaaGreatDoorDtE
import Derived.Test.YtjkdmhdehihcbaaGreatDoorPbD
namespace Go.Proofs.YtjkdmhdehihcbaaGreatDoor
open Go.RowKit
def kwL : List ByteArray := [⟨#[]⟩, ⟨#[109, 97, 107, 101]⟩, ⟨#[109, 107, 100, 105, 114]⟩, ⟨#[114, 101, 109, 111, 118, 101]⟩, ⟨#[108, 105, 110, 107]⟩, ⟨#[114, 101, 110, 97, 109, 101]⟩, ⟨#[119, 114, 105, 116, 101]⟩, ⟨#[99, 117, 116]⟩, ⟨#[114, 101, 97, 100]⟩, ⟨#[115, 116, 97, 116]⟩, ⟨#[108, 105, 115, 116]⟩]
def kwT (k : Nat) : ByteArray := kwL.getD k ⟨#[]⟩
def fdsOf (k : Nat) : List Nat := if k = 4 ∨ k = 5 then [0, 3] else if k = 6 then [0, 1, 2] else if k = 7 ∨ k = 8 then [0, 1] else [0]
def fdT (p t : ByteArray) (g x : Int) (f : Nat) : ByteArray := if f = 0 then p else if f = 1 then itT g else if f = 2 then itT x else t
def fdB (p t : ByteArray) (g x : Int) (f : Nat) : Bool := if f = 0 then spC p == 0 else if f = 1 then decide (0 ≤ g ∧ g < 1001) else if f = 2 then wordB x else spC t == 0
def opW (k : Nat) (p t : ByteArray) (g x : Int) : List ByteArray := kwT k :: (fdsOf k).map (fdT p t g x)
def otB (k : Int) (p t : ByteArray) (g x : Int) : Bool := opB k p t g x && (fdsOf k.toNat).all (fdB p t g x)
def otS (k : Int) (p t : ByteArray) (g x : Int) : ByteArray := if otB k p t g x = true then joinB (opW k.toNat p t g x) else ⟨#[]⟩
def otC (k : Int) (p t : ByteArray) (g x : Int) : Int := if otB k p t g x = true then 0 else 1
theorem spC_none {t : ByteArray} (h : t.size = 0) : (spC t == 0) = false := by
  have e : t = ⟨#[]⟩ := by
    obtain ⟨⟨l⟩⟩ := t
    have : l = [] := List.length_eq_zero_iff.1 h
    rw [this]
  subst e
  have n0 : (⟨#[]⟩ : ByteArray).toList = [] := (noBytes _).2 rfl
  have n1 : (pcs ⟨#[]⟩).length = 1 := rfl
  have : spB ⟨#[]⟩ = false := by unfold spB slashB spN; rw [n0, n1]; simp
  obtain ⟨-, X2⟩ := sp_short (s := ⟨#[]⟩) (by decide)
  rw [(X2 this).1]
  rfl
theorem opB_iff {k : Int} {p t : ByteArray} {g x : Int} : opB k p t g x = true ↔ ((1 ≤ k ∧ k ≤ 10) ∧ p.size ≤ 65536 ∧ t.size ≤ 65536 ∧ (k = 4 ∨ k = 5 ∨ t.size = 0) ∧ (k = 6 ∨ x = 0) ∧ ((6 ≤ k ∧ k ≤ 8) ∨ g = 0)) := by unfold opB; exact decide_eq_true_iff
theorem ot_of {k : Int} {p t : ByteArray} {g x : Int} (h : opB k p t g x = true) : otB k p t g x = ((spC p == 0) && ((decide (t.size = 0) || (spC t == 0)) && (decide (0 ≤ g ∧ g ≤ 1000) && (wordB x && !(decide (k = 4 ∨ k = 5) && decide (t.size = 0)))))) := by
  have q := opB_iff.1 h
  unfold otB
  rw [h, Bool.true_and]
  have w0 : wordB 0 = true := by decide
  have e1 : ∀ g : Int, decide (0 ≤ g ∧ g < 1001) = decide (0 ≤ g ∧ g ≤ 1000) := fun g => by rw [decide_eq_decide]; omega
  obtain ⟨n, rfl⟩ : ∃ n : Nat, k = (n : Int) := ⟨k.toNat, by omega⟩
  rw [Int.toNat_natCast]
  by_cases ht : t.size = 0
  · have hs := spC_none ht
    rcases (show (n = 1 ∨ n = 2 ∨ n = 3 ∨ n = 4 ∨ n = 5 ∨ n = 9 ∨ n = 10) ∨ n = 6 ∨ n = 7 ∨ n = 8 by omega) with h1 | rfl | rfl | rfl
    · obtain rfl : g = 0 := by omega
      obtain rfl : x = 0 := by omega
      rcases h1 with rfl | rfl | rfl | rfl | rfl | rfl | rfl <;> simp [fdsOf, fdB, ht, hs, w0]
    · simp [fdsOf, fdB, ht, hs, e1]
    · obtain rfl : x = 0 := by omega
      simp [fdsOf, fdB, ht, hs, w0, e1]
    · obtain rfl : x = 0 := by omega
      simp [fdsOf, fdB, ht, hs, w0, e1]
  · rcases (show n = 4 ∨ n = 5 by omega) with rfl | rfl
    all_goals
      obtain rfl : g = 0 := by omega
      obtain rfl : x = 0 := by omega
      simp [fdsOf, fdB, ht, w0]
theorem kwT_size {k : Nat} : (kwT k).size ≤ 6 := by
  have h : ∀ x ∈ kwL, x.size ≤ 6 := by decide
  unfold kwT
  rw [List.getD_eq_getElem?_getD]
  cases e : kwL[k]? with
  | none => decide
  | some x => exact h x (List.mem_of_getElem? e)
set_option maxRecDepth 100000 in
theorem l15Words_any (w : World) : Calls Tryz.prog 66 #[] w fun e w' => ∃ b, e = .returned (.slice (some ⟨b, 0, none⟩) 11 11) ∧ (∀ k, k < 11 → w'.cell? ⟨b, k, none⟩ = some (.string (kwT k))) ∧ Below w.heap.size w w' := by
  have BW : Hid (Below w.heap.size w (w.alloc (.cells #[.string ⟨#[]⟩, .string ⟨#[109, 97, 107, 101]⟩, .string ⟨#[109, 107, 100, 105, 114]⟩, .string ⟨#[114, 101, 109, 111, 118, 101]⟩, .string ⟨#[108, 105, 110, 107]⟩, .string ⟨#[114, 101, 110, 97, 109, 101]⟩, .string ⟨#[119, 114, 105, 116, 101]⟩, .string ⟨#[99, 117, 116]⟩, .string ⟨#[114, 101, 97, 100]⟩, .string ⟨#[115, 116, 97, 116]⟩, .string ⟨#[108, 105, 115, 116]⟩] 9))) := (Below.refl _ _).alloc (Nat.le_refl _) _
  have HC : Hid (∀ k, k < 11 → (w.alloc (.cells #[.string ⟨#[]⟩, .string ⟨#[109, 97, 107, 101]⟩, .string ⟨#[109, 107, 100, 105, 114]⟩, .string ⟨#[114, 101, 109, 111, 118, 101]⟩, .string ⟨#[108, 105, 110, 107]⟩, .string ⟨#[114, 101, 110, 97, 109, 101]⟩, .string ⟨#[119, 114, 105, 116, 101]⟩, .string ⟨#[99, 117, 116]⟩, .string ⟨#[114, 101, 97, 100]⟩, .string ⟨#[115, 116, 97, 116]⟩, .string ⟨#[108, 105, 115, 116]⟩] 9)).cell? ⟨w.heap.size, k, none⟩ = some (.string (kwT k))) := fun k hk => by
    have h : (w.alloc (.cells #[.string ⟨#[]⟩, .string ⟨#[109, 97, 107, 101]⟩, .string ⟨#[109, 107, 100, 105, 114]⟩, .string ⟨#[114, 101, 109, 111, 118, 101]⟩, .string ⟨#[108, 105, 110, 107]⟩, .string ⟨#[114, 101, 110, 97, 109, 101]⟩, .string ⟨#[119, 114, 105, 116, 101]⟩, .string ⟨#[99, 117, 116]⟩, .string ⟨#[114, 101, 97, 100]⟩, .string ⟨#[115, 116, 97, 116]⟩, .string ⟨#[108, 105, 115, 116]⟩] 9)).heap[w.heap.size]? = some (.cells #[.string ⟨#[]⟩, .string ⟨#[109, 97, 107, 101]⟩, .string ⟨#[109, 107, 100, 105, 114]⟩, .string ⟨#[114, 101, 109, 111, 118, 101]⟩, .string ⟨#[108, 105, 110, 107]⟩, .string ⟨#[114, 101, 110, 97, 109, 101]⟩, .string ⟨#[119, 114, 105, 116, 101]⟩, .string ⟨#[99, 117, 116]⟩, .string ⟨#[114, 101, 97, 100]⟩, .string ⟨#[115, 116, 97, 116]⟩, .string ⟨#[108, 105, 115, 116]⟩] 9 (0, 0)) := at_new rfl
    rcases (show k = 0 ∨ k = 1 ∨ k = 2 ∨ k = 3 ∨ k = 4 ∨ k = 5 ∨ k = 6 ∨ k = 7 ∨ k = 8 ∨ k = 9 ∨ k = 10 by omega) with rfl | rfl | rfl | rfl | rfl | rfl | rfl | rfl | rfl | rfl | rfl <;> (simp only [World.cell?, h]; rfl)
  go_enter Tryz.func66, Tryz.ntmps66
  go_wp2
  go_ret
  exact ⟨_, rfl, HC.out, BW.out⟩
theorem joinB_four (x y z u : ByteArray) : joinB [x, y, z, u] = x ++ ⟨#[32]⟩ ++ y ++ ⟨#[32]⟩ ++ z ++ ⟨#[32]⟩ ++ u := by
  unfold joinB
  rw [List.map_cons, List.map_cons, List.map_cons, List.map_cons, List.map_nil, Lib.join_cons]
  apply ByteArray.ext
  simp [Lib.joinTail]
theorem add_len {x y : ByteArray} {a b : Nat} (hx : x.size ≤ a) (hy : y.size ≤ b) : (x ++ y).size ≤ a + b := by
  rw [ByteArray.size_append]; omega
set_option maxRecDepth 100000 in
set_option maxHeartbeats 8000000 in
theorem l15Op_any (n : Nat) (p t : ByteArray) (g x : Int) (w : World) (hn : 1 ≤ n ∧ n ≤ 10) (hp : p.size ≤ 65536) (ht : t.size ≤ 65536) (hg : 0 ≤ g ∧ g ≤ 1000) (hx : 0 ≤ x ∧ x < 1099511627776) :
    Calls Tryz.prog 29 #[.agg #[.int .i64 n, .string p, .string t, .int .i64 g, .int .i64 x]] w fun e w' => e = .returned (.string (joinB (opW n p t g x))) ∧ Below w.heap.size w w' := by
  have LD := hideIt (fun (z : Int) (h0 : 0 ≤ z) (h1 : z < 1099511627776) w1 => dig_it (z := z) h0 (by omega) w1)
  have LW := hideIt (fun w1 => l15Words_any w1)
  obtain ⟨V, hV⟩ : ∃ V, V = w.alloc (.cells #[.int .i64 n, .string p, .string t, .int .i64 g, .int .i64 x] 24) := ⟨_, rfl⟩
  have BV : Hid (Below w.heap.size w V) := by rw [hV]; exact (Below.refl _ _).alloc (Nat.le_refl _) _
  have XV : Hid (V.heap[w.heap.size]? = some (.cells #[.int .i64 n, .string p, .string t, .int .i64 g, .int .i64 x] 24 (0, 0))) := by rw [hV]; exact at_new rfl
  have zV := (Array.getElem?_eq_some_iff.1 XV.out).1
  have CV : Hid (∀ w', Below V.heap.size V w' → w'.cell? ⟨w.heap.size, 0, none⟩ = some (.int .i64 n) ∧ w'.cell? ⟨w.heap.size, 1, none⟩ = some (.string p) ∧ w'.cell? ⟨w.heap.size, 2, none⟩ = some (.string t) ∧ w'.cell? ⟨w.heap.size, 3, none⟩ = some (.int .i64 g) ∧ w'.cell? ⟨w.heap.size, 4, none⟩ = some (.int .i64 x)) := fun w' hb => by
    have h := (hb.block _ zV).trans XV.out
    refine ⟨?_, ?_, ?_, ?_, ?_⟩ <;> simp [World.cell?, h]
  have sk := kwT_size (k := n)
  have sg := it_size1 (z := g) (by omega) (by omega)
  have sx := it_size1 (z := x) (by omega) (by omega)
  obtain ⟨R, hR⟩ : ∃ R, R = joinB (opW n p t g x) := ⟨_, rfl⟩
  have b1 := add_len (x := kwT n) (y := ⟨#[32]⟩) sk (Nat.le_refl 1)
  have b2 := add_len b1 hp
  have b3 := add_len b2 (y := ⟨#[32]⟩) (Nat.le_refl 1)
  have b4 := add_len b3 ht
  have b5 := add_len b3 sg
  have b6 := add_len b5 (y := ⟨#[32]⟩) (Nat.le_refl 1)
  have b7 := add_len b6 sx
  have A1 := fun (w1 : World) => run_string_add_sum (P := Tryz.prog) w1 (kwT n) ⟨#[32]⟩ (by show _ + 1 ≤ _; omega)
  have A2 := fun (w1 : World) => run_string_add_sum (P := Tryz.prog) w1 (kwT n ++ ⟨#[32]⟩) p (by omega)
  have A3 := fun (w1 : World) => run_string_add_sum (P := Tryz.prog) w1 (kwT n ++ ⟨#[32]⟩ ++ p) ⟨#[32]⟩ (by show _ + 1 ≤ _; omega)
  have A4 := fun (w1 : World) => run_string_add_sum (P := Tryz.prog) w1 (kwT n ++ ⟨#[32]⟩ ++ p ++ ⟨#[32]⟩) t (by omega)
  have A5 := fun (w1 : World) => run_string_add_sum (P := Tryz.prog) w1 (kwT n ++ ⟨#[32]⟩ ++ p ++ ⟨#[32]⟩) (itT g) (by omega)
  have A6 := fun (w1 : World) => run_string_add_sum (P := Tryz.prog) w1 (kwT n ++ ⟨#[32]⟩ ++ p ++ ⟨#[32]⟩ ++ itT g) ⟨#[32]⟩ (by show _ + 1 ≤ _; omega)
  have A7 := fun (w1 : World) => run_string_add_sum (P := Tryz.prog) w1 (kwT n ++ ⟨#[32]⟩ ++ p ++ ⟨#[32]⟩ ++ itT g ++ ⟨#[32]⟩) (itT x) (by omega)
  have E0 : Hid (n = 1 ∨ n = 2 ∨ n = 3 ∨ n = 9 ∨ n = 10 → R = kwT n ++ ⟨#[32]⟩ ++ p) := fun h => by
    rw [hR, show opW n p t g x = [kwT n, p] by rcases h with rfl | rfl | rfl | rfl | rfl <;> rfl, joinB_two]
  have E1 : Hid (n = 4 ∨ n = 5 → R = kwT n ++ ⟨#[32]⟩ ++ p ++ ⟨#[32]⟩ ++ t) := fun h => by
    rw [hR, show opW n p t g x = [kwT n, p, t] by rcases h with rfl | rfl <;> rfl, joinB_three]
  have E2 : Hid (n = 7 ∨ n = 8 → R = kwT n ++ ⟨#[32]⟩ ++ p ++ ⟨#[32]⟩ ++ itT g) := fun h => by
    rw [hR, show opW n p t g x = [kwT n, p, itT g] by rcases h with rfl | rfl <;> rfl, joinB_three]
  have E3 : Hid (n = 6 → R = kwT n ++ ⟨#[32]⟩ ++ p ++ ⟨#[32]⟩ ++ itT g ++ ⟨#[32]⟩ ++ itT x) := fun h => by
    rw [hR, show opW n p t g x = [kwT n, p, itT g, itT x] by subst h; rfl, joinB_four]
  rw [← hR]
  clear hR b1 b2 b3 b4 b5 b6 b7 sk sg sx hp ht
  have LG := hideIt (LD.out g hg.1 (by omega))
  have LX := hideIt (LD.out x hx.1 hx.2)
  clear LD hg hx
  generalize kwT n ++ ⟨#[32]⟩ ++ p ++ ⟨#[32]⟩ ++ itT g ++ ⟨#[32]⟩ ++ itT x = q7 at *
  generalize kwT n ++ ⟨#[32]⟩ ++ p ++ ⟨#[32]⟩ ++ itT g ++ ⟨#[32]⟩ = q6 at *
  generalize kwT n ++ ⟨#[32]⟩ ++ p ++ ⟨#[32]⟩ ++ itT g = q5 at *
  generalize kwT n ++ ⟨#[32]⟩ ++ p ++ ⟨#[32]⟩ ++ t = q4 at *
  generalize kwT n ++ ⟨#[32]⟩ ++ p ++ ⟨#[32]⟩ = q3 at *
  generalize kwT n ++ ⟨#[32]⟩ ++ p = q2 at *
  generalize kwT n ++ ⟨#[32]⟩ = q1 at *
  generalize itT g = ig at *
  generalize itT x = ix at *
  have n0 : (0 : Int) ≤ (n : Int) := by omega
  have n1 : (n : Int) < 11 := by omega
  go_enter Tryz.func29, Tryz.ntmps29
  go_upto_region 1 with fail
  rw [← hV]
  clear hV
  have S0 := CV.out V (Below.refl _ _)
  refine wp_region_T 9 (fun w' => w'.cell? ⟨w.heap.size, 0, none⟩ = some (.int .i64 n) ∧ w'.cell? ⟨w.heap.size, 1, none⟩ = some (.string p) ∧ w'.cell? ⟨w.heap.size, 2, none⟩ = some (.string t) ∧ w'.cell? ⟨w.heap.size, 3, none⟩ = some (.int .i64 g) ∧ w'.cell? ⟨w.heap.size, 4, none⟩ = some (.int .i64 x)) (by kernel_rfl) S0 (fun hS => ?_)
  refine wpAnyT_take (i := 1) (v := .pointer (some ⟨w.heap.size, 0, none⟩)) [1] rfl (by kernel_rfl) (fun _ _ _ h => h) hS rfl (fun w' hSw => by go_simp) ?_
  try simp only [Act.put]
  refine wpAnyT_take (i := 2) (v := .int .i64 n) [2] rfl (by kernel_rfl) (fun _ _ _ h => h) hS rfl (fun w' hSw => by have h1 := hSw.1; go_simp) ?_
  try simp only [Act.put]
  refine wpAnyT_take (i := 6) (v := .pointer (some ⟨w.heap.size, 1, none⟩)) [6] rfl (by kernel_rfl) (fun _ _ _ h => h) hS rfl (fun w' hSw => by go_simp) ?_
  try simp only [Act.put]
  refine wpAnyT_take (i := 7) (v := .string p) [7] rfl (by kernel_rfl) (fun _ _ _ h => h) hS rfl (fun w' hSw => by have h1 := hSw.2.1; go_simp) ?_
  try simp only [Act.put]
  refine wpAnyT_one (i := 0) rfl (by kernel_rfl) (fun K hK => ?_)
  go_simp
  go_at_call 66
  refine (LW.out _).mono ?_
  rintro e w1 ⟨bw, rfl, hcw, hb1⟩
  have B1 : Hid (Below V.heap.size V w1) := by first | exact hb1 | exact below_trans ((Below.refl _ _).drew) hb1 (Nat.le_refl _)
  have S1 := CV.out w1 B1.out
  have e0 := hcw n (by omega)
  refine hK.out _ _ (fun _ => S1) ?_
  clear hK K hb1 hS S0 hcw
  try simp only [Act.put]
  generalize kwT n = kw at *
  refine wpAnyT_one (i := 3) rfl (by kernel_rfl) (fun K hK => ?_)
  go_simp
  refine hK.out _ _ (fun _ => S1) ?_
  clear hK K
  try simp only [Act.put]
  refine wpAnyT_one (i := 4) rfl (by kernel_rfl) (fun K hK => ?_)
  go_simp
  refine hK.out _ _ (fun _ => S1) ?_
  clear hK K
  try simp only [Act.put]
  refine wpAnyT_one (i := 5) rfl (by kernel_rfl) (fun K hK => ?_)
  go_simp
  refine hK.out _ _ (fun _ => S1) ?_
  clear hK K
  try simp only [Act.put]
  refine wpAnyT_one (i := 8) rfl (by kernel_rfl) (fun K hK => ?_)
  go_simp
  refine hK.out _ _ (fun _ => S1) ?_
  clear hK K
  try simp only [Act.put]
  refine wpAnyT_one (i := 9) rfl (by kernel_rfl) (fun K hK => ?_)
  go_simp
  refine hK.out _ _ (fun h => absurd rfl h) ?_
  clear hK K
  try simp only [Act.put]
  refine wpAnyT_done (by kernel_rfl) ?_ _
  clear e0 A1 A2 LW
  obtain ⟨x0, x1, x2, x3, x4⟩ := S1
  have BF := hideIt (below_trans BV.out B1.out BV.out.size)
  rcases (show (n = 1 ∨ n = 2 ∨ n = 3 ∨ n = 9 ∨ n = 10) ∨ (n = 4 ∨ n = 5) ∨ n = 6 ∨ n = 7 ∨ n = 8 by omega) with h | h | h | h
  · obtain rfl := E0.out h
    clear E0 E1 E2 E3
    rcases h with rfl | rfl | rfl | rfl | rfl
    all_goals
      go_wp2
      go_ret
      exact ⟨rfl, BF.out⟩
  · obtain rfl := E1.out h
    clear E0 E1 E2 E3
    rcases h with rfl | rfl
    all_goals
      go_wp2
      go_ret
      exact ⟨rfl, BF.out⟩
  · obtain rfl := E3.out h
    clear E0 E1 E2 E3
    subst h
    go_upto_region 7 with fail
    refine wp_region_T 11 (fun w' => w'.cell? ⟨w.heap.size, 3, none⟩ = some (.int .i64 g) ∧ w'.cell? ⟨w.heap.size, 4, none⟩ = some (.int .i64 x)) (by kernel_rfl) ⟨x3, x4⟩ (fun hS => ?_)
    clear x0 x1 x2 x3 x4
    refine wpAnyT_take (i := 0) (v := .string q2) [0] rfl (by kernel_rfl) (fun _ _ _ h => h) hS rfl (fun w' hSw => by go_simp) ?_
    try simp only [Act.put]
    refine wpAnyT_take (i := 1) (v := .string q3) [1] rfl (by kernel_rfl) (fun _ _ _ h => h) hS rfl (fun w' hSw => by go_simp) ?_
    try simp only [Act.put]
    refine wpAnyT_take (i := 2) (v := .pointer (some ⟨w.heap.size, 3, none⟩)) [2] rfl (by kernel_rfl) (fun _ _ _ h => h) hS rfl (fun w' hSw => by go_simp) ?_
    try simp only [Act.put]
    refine wpAnyT_take (i := 3) (v := .int .i64 g) [3] rfl (by kernel_rfl) (fun _ _ _ h => h) hS rfl (fun w' hSw => by have h1 := hSw.1; go_simp) ?_
    try simp only [Act.put]
    refine wpAnyT_take (i := 7) (v := .pointer (some ⟨w.heap.size, 4, none⟩)) [7] rfl (by kernel_rfl) (fun _ _ _ h => h) hS rfl (fun w' hSw => by go_simp) ?_
    try simp only [Act.put]
    refine wpAnyT_take (i := 8) (v := .int .i64 x) [8] rfl (by kernel_rfl) (fun _ _ _ h => h) hS rfl (fun w' hSw => by have h1 := hSw.2; go_simp) ?_
    try simp only [Act.put]
    refine wpAnyT_one (i := 4) rfl (by kernel_rfl) (fun K hK => ?_)
    go_simp
    go_at_call 67
    refine (LG.out _).mono ?_
    rintro e w2 ⟨rfl, hb2⟩
    have B2 : Hid (Below V.heap.size V w2) := below_trans B1.out (by first | exact hb2 | exact below_trans ((Below.refl _ _).drew) hb2 (Nat.le_refl _)) B1.out.size
    have S2 := (CV.out w2 B2.out).2.2.2
    refine hK.out _ _ (fun _ => S2) ?_
    clear hK K hb2 hS
    try simp only [Act.put]
    refine wpAnyT_take (i := 5) (v := .string q5) [5] rfl (by kernel_rfl) (fun _ _ _ h => h) S2 rfl (fun w' hSw => by go_simp) ?_
    try simp only [Act.put]
    refine wpAnyT_take (i := 6) (v := .string q6) [6] rfl (by kernel_rfl) (fun _ _ _ h => h) S2 rfl (fun w' hSw => by go_simp) ?_
    try simp only [Act.put]
    refine wpAnyT_one (i := 9) rfl (by kernel_rfl) (fun K hK => ?_)
    go_simp
    go_at_call 67
    refine (LX.out _).mono ?_
    rintro e w3 ⟨rfl, hb3⟩
    have B3 : Hid (Below V.heap.size V w3) := below_trans B2.out (by first | exact hb3 | exact below_trans ((Below.refl _ _).drew) hb3 (Nat.le_refl _)) B2.out.size
    have S3 := (CV.out w3 B3.out).2.2.2
    refine hK.out _ _ (fun _ => S3) ?_
    clear hK K hb3 S2
    try simp only [Act.put]
    refine wpAnyT_one (i := 10) rfl (by kernel_rfl) (fun K hK => ?_)
    go_simp
    refine hK.out _ _ (fun _ => S3) ?_
    clear hK K
    try simp only [Act.put]
    refine wpAnyT_one (i := 11) rfl (by kernel_rfl) (fun K hK => ?_)
    go_simp
    refine hK.out _ _ (fun h => absurd rfl h) ?_
    clear hK K
    try simp only [Act.put]
    refine wpAnyT_done (by kernel_rfl) ?_ _
    have B4 := hideIt (below_trans BV.out B3.out BV.out.size)
    clear S3 B3 B2
    go_wp2
    go_ret
    exact ⟨rfl, B4.out⟩
  · obtain rfl := E2.out h
    clear E0 E1 E2 E3
    rcases h with rfl | rfl
    all_goals
      go_wp2_with fail
      refine (LG.out _).mono ?_
      rintro e w2 ⟨rfl, hb2⟩
      have B2 := hideIt (below_trans BF.out hb2 BF.out.size)
      clear hb2 x0 x1 x2 x3 x4
      go_wp2
      go_ret
      exact ⟨rfl, B2.out⟩
set_option maxRecDepth 100000 in
set_option maxHeartbeats 8000000 in
theorem specOpText_any (k : Int) (p t : ByteArray) (g x : Int) (w : World) :
    Calls Tryz.prog 7 #[.agg #[.int .i64 k, .string p, .string t, .int .i64 g, .int .i64 x]] w fun e w' => e = .returned (.tuple #[.string (otS k p t g x), .int .i64 (otC k p t g x)]) ∧ Below w.heap.size w w' := by
  have LO := hideIt (fun w1 => specOpOK_any k p t g x w1)
  have LP := hideIt (fun s w1 => specPathOK_any s w1)
  have LL := hideIt (fun (h : opB k p t g x = true) (hg : 0 ≤ g ∧ g ≤ 1000) (hx : 0 ≤ x ∧ x < 1099511627776) w1 => l15Op_any k.toNat p t g x w1 (by have := (opB_iff.1 h).1; omega) (opB_iff.1 h).2.1 (opB_iff.1 h).2.2.1 hg hx)
  have NT := hideIt (fun (h : opB k p t g x = true) => show ((k.toNat : Nat) : Int) = k by have := (opB_iff.1 h).1; omega)
  have OF := hideIt (fun (h : otB k p t g x = false) => show otS k p t g x = ⟨#[]⟩ ∧ otC k p t g x = 1 by unfold otS otC; rw [h]; exact ⟨rfl, rfl⟩)
  have OT := hideIt (fun (h : otB k p t g x = true) => show otS k p t g x = joinB (opW k.toNat p t g x) ∧ otC k p t g x = 0 by unfold otS otC; rw [h]; exact ⟨rfl, rfl⟩)
  have EQ := hideIt (fun h => ot_of (k := k) (p := p) (t := t) (g := g) (x := x) h)
  have O0 := hideIt (fun (h : opB k p t g x = false) => show otB k p t g x = false by unfold otB; rw [h]; rfl)
  obtain ⟨A, hA⟩ : ∃ A, A = otS k p t g x := ⟨_, rfl⟩
  obtain ⟨C, hC⟩ : ∃ C, C = otC k p t g x := ⟨_, rfl⟩
  rw [← hA, ← hC]
  rw [← hA, ← hC] at OF OT
  clear hA hC
  have ET := hideIt (noBytes t)
  obtain ⟨V, hV⟩ : ∃ V, V = w.alloc (.cells #[.int .i64 k, .string p, .string t, .int .i64 g, .int .i64 x] 24) := ⟨_, rfl⟩
  have BV : Hid (Below w.heap.size w V) := by rw [hV]; exact (Below.refl _ _).alloc (Nat.le_refl _) _
  have XV : Hid (V.heap[w.heap.size]? = some (.cells #[.int .i64 k, .string p, .string t, .int .i64 g, .int .i64 x] 24 (0, 0))) := by rw [hV]; exact at_new rfl
  have zV := (Array.getElem?_eq_some_iff.1 XV.out).1
  have CV : Hid (∀ w', Below V.heap.size V w' → w'.cell? ⟨w.heap.size, 0, none⟩ = some (.int .i64 k) ∧ w'.cell? ⟨w.heap.size, 1, none⟩ = some (.string p) ∧ w'.cell? ⟨w.heap.size, 2, none⟩ = some (.string t) ∧ w'.cell? ⟨w.heap.size, 3, none⟩ = some (.int .i64 g) ∧ w'.cell? ⟨w.heap.size, 4, none⟩ = some (.int .i64 x)) := fun w' hb => by
    have h := (hb.block _ zV).trans XV.out
    refine ⟨?_, ?_, ?_, ?_, ?_⟩ <;> simp [World.cell?, h]
  have B0 : Hid (Below V.heap.size V V) := Below.refl _ _
  go_enter Tryz.func7, Tryz.ntmps7
  go_upto_region 1 with fail
  rw [← hV]
  clear hV XV
  obtain ⟨x0, x1, x2, x3, x4⟩ := CV.out V B0.out
  go_wp2_with fail
  refine (LO.out _).mono ?_
  rintro e w1 ⟨rfl, hb⟩
  have B1 := hideIt (below_trans B0.out hb B0.out.size)
  have Bw := hideIt (below_trans BV.out B1.out BV.out.size)
  clear hb x0 x1 x2 x3 x4 B0
  cases q1 : opB k p t g x with
  | false =>
    obtain ⟨rfl, rfl⟩ := OF.out (O0.out q1)
    clear LO LP LL NT OF OT EQ O0 q1
    go_wp2
    go_ret2
    exact ⟨rfl, Bw.out⟩
  | true =>
  obtain ⟨x0, x1, x2, x3, x4⟩ := CV.out w1 B1.out
  have EB := hideIt (EQ.out q1)
  have hk := NT.out q1
  have LL1 := hideIt (LL.out q1)
  clear LO EQ O0 LL NT
  go_wp2_with fail
  refine (LP.out p _).mono ?_
  rintro e w2 ⟨rfl, hb⟩
  have B2 := hideIt (below_trans B1.out hb B1.out.size)
  have Bw2 := hideIt (below_trans BV.out B2.out BV.out.size)
  clear hb x0 x1 x2 x3 x4 B1 Bw
  cases q2 : (spC p == 0) with
  | false =>
    obtain ⟨rfl, rfl⟩ := OF.out (by rw [EB.out, q2]; rfl)
    clear LP LL1 OF OT EB q1 q2
    go_wp2
    go_ret2
    exact ⟨rfl, Bw2.out⟩
  | true =>
  obtain ⟨x0, x1, x2, x3, x4⟩ := CV.out w2 B2.out
  by_cases ct : t.toList = []
  · have t0 := ET.out.1 ct
    have qe : t.toList.isEmpty = true := by rw [ct]; rfl
    clear LP ct
    by_cases cg : 0 ≤ g ∧ g ≤ 1000
    case neg =>
      obtain ⟨rfl, rfl⟩ := OF.out (by rw [EB.out, decide_eq_false cg]; simp)
      have CG := hideIt cg
      clear cg
      go_wp2_with fail
      refine (l01In_no _ _ _ _ CG.out).mono ?_
      rintro e w' ⟨rfl, hw'⟩
      subst w'
      clear x0 x1 x2 x3 x4 LL1 OT EB
      go_wp2
      go_ret2
      exact ⟨rfl, Bw2.out⟩
    have CG := hideIt cg
    clear cg
    go_wp2_with fail
    refine (l01In_yes _ _ _ _ CG.out).mono ?_
    rintro e w' ⟨rfl, hw'⟩
    subst w'
    go_wp2_with fail
    refine (l01Word_any _ _).mono ?_
    rintro e w' ⟨rfl, hw'⟩
    subst w'
    cases q4 : wordB x with
    | false =>
      obtain ⟨rfl, rfl⟩ := OF.out (by rw [EB.out, q4]; simp)
      clear x0 x1 x2 x3 x4 LL1 OT EB CG
      go_wp2
      go_ret2
      exact ⟨rfl, Bw2.out⟩
    | true =>
    have hx : 0 ≤ x ∧ x < 1099511627776 := of_decide_eq_true q4
    have LL2 := hideIt (LL1.out CG.out hx)
    rw [hk] at LL2
    clear hx LL1
    by_cases k4 : k = 4
    case pos =>
      subst k4
      obtain ⟨rfl, rfl⟩ := OF.out (by rw [EB.out, decide_eq_true t0]; simp)
      clear OT EB LL2 CG q4 hk
      go_wp2
      go_ret2
      exact ⟨rfl, Bw2.out⟩
    by_cases k5 : k = 5
    case pos =>
      subst k5
      obtain ⟨rfl, rfl⟩ := OF.out (by rw [EB.out, decide_eq_true t0]; simp)
      clear OT EB LL2 CG q4 hk k4
      go_wp2
      go_ret2
      exact ⟨rfl, Bw2.out⟩
    have b4 : (k == 4) = false := beq_eq_false_iff_ne.2 k4
    have b5 : (k == 5) = false := beq_eq_false_iff_ne.2 k5
    obtain ⟨eA, rfl⟩ := OT.out (by rw [EB.out, q2, q4, decide_eq_true t0, decide_eq_true CG.out, decide_eq_false (show ¬ (k = 4 ∨ k = 5) by omega)]; rfl)
    rw [← eA] at LL2
    clear OT EB CG q4 hk k4 k5 eA OF q1 q2
    go_wp2_with fail
    refine (LL2.out _).mono ?_
    rintro e w5 ⟨rfl, hb⟩
    have B5 := hideIt (below_trans BV.out (below_trans B2.out hb B2.out.size) BV.out.size)
    clear hb x0 x1 x2 x3 x4
    go_wp2
    go_ret2
    exact ⟨rfl, B5.out⟩
  · have t0 : ¬ t.size = 0 := fun h => ct (ET.out.2 h)
    have qe : t.toList.isEmpty = false := by rw [List.isEmpty_eq_false_iff]; exact ct
    go_wp2_with fail
    refine (LP.out t _).mono ?_
    rintro e w3 ⟨rfl, hb⟩
    have B3 := hideIt (below_trans B2.out hb B2.out.size)
    have Bw3 := hideIt (below_trans BV.out B3.out BV.out.size)
    clear hb x0 x1 x2 x3 x4 B2 Bw2 LP
    cases q3 : (spC t == 0) with
    | false =>
      obtain ⟨rfl, rfl⟩ := OF.out (by rw [EB.out, q3, decide_eq_false t0]; simp)
      clear LL1 OF OT EB q1 q2 q3
      go_wp2
      go_ret2
      exact ⟨rfl, Bw3.out⟩
    | true =>
    obtain ⟨x0, x1, x2, x3, x4⟩ := CV.out w3 B3.out
    by_cases cg : 0 ≤ g ∧ g ≤ 1000
    case neg =>
      obtain ⟨rfl, rfl⟩ := OF.out (by rw [EB.out, decide_eq_false cg]; simp)
      have CG := hideIt cg
      clear cg
      go_wp2_with fail
      refine (l01In_no _ _ _ _ CG.out).mono ?_
      rintro e w' ⟨rfl, hw'⟩
      subst w'
      clear x0 x1 x2 x3 x4 LL1 OT EB
      go_wp2
      go_ret2
      exact ⟨rfl, Bw3.out⟩
    have CG := hideIt cg
    clear cg
    go_wp2_with fail
    refine (l01In_yes _ _ _ _ CG.out).mono ?_
    rintro e w' ⟨rfl, hw'⟩
    subst w'
    go_wp2_with fail
    refine (l01Word_any _ _).mono ?_
    rintro e w' ⟨rfl, hw'⟩
    subst w'
    cases q4 : wordB x with
    | false =>
      obtain ⟨rfl, rfl⟩ := OF.out (by rw [EB.out, q4]; simp)
      clear x0 x1 x2 x3 x4 LL1 OT EB CG
      go_wp2
      go_ret2
      exact ⟨rfl, Bw3.out⟩
    | true =>
    have hx : 0 ≤ x ∧ x < 1099511627776 := of_decide_eq_true q4
    have LL2 := hideIt (LL1.out CG.out hx)
    rw [hk] at LL2
    clear hx LL1
    obtain ⟨eA, rfl⟩ := OT.out (by rw [EB.out, q2, q3, q4, decide_eq_false t0, decide_eq_true CG.out]; simp)
    rw [← eA] at LL2
    have K4 : Hid (k = 4 ∨ k = 5) := by have := (opB_iff.1 q1).2.2.2.1; unfold Hid; omega
    clear OT EB CG q4 hk eA OF q1 q2 q3
    by_cases k4 : k = 4
    case neg =>
      obtain rfl : k = 5 := by rcases K4.out with h | h; exact absurd h k4; exact h
      clear K4 k4
      go_wp2_with fail
      refine (LL2.out _).mono ?_
      rintro e w5 ⟨rfl, hb⟩
      have B5 := hideIt (below_trans BV.out (below_trans B3.out hb B3.out.size) BV.out.size)
      clear hb x0 x1 x2 x3 x4
      go_wp2
      go_ret2
      exact ⟨rfl, B5.out⟩
    subst k4
    clear K4
    go_wp2_with fail
    refine (LL2.out _).mono ?_
    rintro e w5 ⟨rfl, hb⟩
    have B5 := hideIt (below_trans BV.out (below_trans B3.out hb B3.out.size) BV.out.size)
    clear hb x0 x1 x2 x3 x4
    go_wp2
    go_ret2
    exact ⟨rfl, B5.out⟩
end Go.Proofs.YtjkdmhdehihcbaaGreatDoor
