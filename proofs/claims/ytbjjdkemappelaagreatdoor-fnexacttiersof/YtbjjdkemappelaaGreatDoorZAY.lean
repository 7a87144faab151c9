/- Several texts laid together: AdA, AdB. -/
import Derived.Test.YtbjjdkemappelaaGreatDoorImP
import Derived.Laws.BitsAllLaws
import Derived.Laws.BitsAll
import Derived.Laws.Bits128
import Derived.Deep.DeepCutAuto
namespace Go.Proofs.YtbjjdkemappelaaGreatDoor
open Go.RowKit
def popN : Nat → Nat → Nat
  | 0, _ => 0
  | n + 1, x => x % 2 + popN n (x / 2)
def repB (b : Nat) : Nat → Nat
  | 0 => 0
  | n + 1 => b + 256 * repB b n
def sw1 (n x : Nat) : Nat := (x / 2 &&& repB 85 n) + (x &&& repB 85 n)
def sw2 (n x : Nat) : Nat := (x / 4 &&& repB 51 n) + (x &&& repB 51 n)
def sw3 (n x : Nat) : Nat := (x / 16 + x) &&& repB 15 n
def by1 (a : Nat) : Nat := (a / 2 &&& 85) + (a &&& 85)
def by2 (a : Nat) : Nat := (a / 4 &&& 51) + (a &&& 51)
theorem and_byte (a y b z : Nat) (ha : a < 256) (hb : b < 256) : (a + 256 * y) &&& (b + 256 * z) = (a &&& b) + 256 * (y &&& z) := by
  have m : ((a + 256 * y) &&& (b + 256 * z)) % 2 ^ 8 = (a &&& b) := by
    rw [Nat.and_mod_two_pow, show (a + 256 * y) % 2 ^ 8 = a by omega, show (b + 256 * z) % 2 ^ 8 = b by omega]
  have d : ((a + 256 * y) &&& (b + 256 * z)) / 2 ^ 8 = (y &&& z) := by
    rw [Nat.and_div_two_pow, show (a + 256 * y) / 2 ^ 8 = y by omega, show (b + 256 * z) / 2 ^ 8 = z by omega]
  have := Nat.div_add_mod ((a + 256 * y) &&& (b + 256 * z)) (2 ^ 8)
  rw [m, d] at this
  omega
theorem bytes1 : ∀ a : Fin 256, ∀ c : Fin 2, ((a.val / 2 + 128 * c.val) &&& 85) + (a.val &&& 85) = by1 a.val ∧ by1 a.val < 256 ∧ a.val / 2 + 128 * c.val < 256 := by decide +kernel
theorem bytes2 : ∀ a : Fin 256, ∀ c : Fin 4, ((a.val / 4 + 64 * c.val) &&& 51) + (a.val &&& 51) = by2 a.val ∧ by2 (by1 a.val) < 256 ∧ a.val / 4 + 64 * c.val < 256 ∧ by2 (by1 a.val) % 16 ≤ 4 := by decide +kernel
theorem bytes3 : ∀ a : Fin 256, ∀ c : Fin 5, ((by2 (by1 a.val) / 16 + 16 * c.val + by2 (by1 a.val)) &&& 15) = popN 8 a.val ∧ by2 (by1 a.val) / 16 + 16 * c.val + by2 (by1 a.val) < 256 ∧ popN 8 a.val ≤ 8 := by decide +kernel
theorem sw1_step (n a y : Nat) (ha : a < 256) : sw1 (n + 1) (a + 256 * y) = by1 a + 256 * sw1 n y := by
  obtain ⟨e, -, l⟩ := bytes1 ⟨a, ha⟩ ⟨y % 2, by omega⟩
  simp only at e l
  unfold sw1
  rw [show repB 85 (n + 1) = 85 + 256 * repB 85 n from rfl, show (a + 256 * y) / 2 = (a / 2 + 128 * (y % 2)) + 256 * (y / 2) by omega, and_byte _ _ _ _ l (by omega), and_byte _ _ _ _ ha (by omega)]
  omega
theorem sw2_step (n a y : Nat) (ha : a < 256) : sw2 (n + 1) (a + 256 * y) = by2 a + 256 * sw2 n y := by
  obtain ⟨e, -, l, -⟩ := bytes2 ⟨a, ha⟩ ⟨y % 4, by omega⟩
  simp only at e l
  unfold sw2
  rw [show repB 51 (n + 1) = 51 + 256 * repB 51 n from rfl, show (a + 256 * y) / 4 = (a / 4 + 64 * (y % 4)) + 256 * (y / 4) by omega, and_byte _ _ _ _ l (by omega), and_byte _ _ _ _ ha (by omega)]
  omega
theorem sw_two (n a y : Nat) (ha : a < 256) : sw2 (n + 1) (sw1 (n + 1) (a + 256 * y)) = by2 (by1 a) + 256 * sw2 n (sw1 n y) := by
  obtain ⟨-, l, -⟩ := bytes1 ⟨a, ha⟩ ⟨0, by omega⟩
  rw [sw1_step n a y ha, sw2_step n _ _ l]
theorem sw_low : ∀ (n x : Nat), sw2 n (sw1 n x) % 16 ≤ 4
  | 0, x => by unfold sw2 sw1; simp [repB]
  | n + 1, x => by
    have e : x = x % 256 + 256 * (x / 256) := by omega
    obtain ⟨-, -, -, l⟩ := bytes2 ⟨x % 256, by omega⟩ ⟨0, by omega⟩
    simp only at l
    rw [e, sw_two n _ _ (by omega)]
    omega
def swP (n x : Nat) : Nat := sw3 n (sw2 n (sw1 n x))
theorem swP_step (n a y : Nat) (ha : a < 256) : swP (n + 1) (a + 256 * y) = popN 8 a + 256 * swP n y := by
  unfold swP
  rw [sw_two n a y ha]
  have lo := sw_low n y
  generalize sw2 n (sw1 n y) = Y at lo ⊢
  obtain ⟨e, l, -⟩ := bytes3 ⟨a, ha⟩ ⟨Y % 16, by omega⟩
  simp only at e l
  unfold sw3
  rw [show repB 15 (n + 1) = 15 + 256 * repB 15 n from rfl, show (by2 (by1 a) + 256 * Y) / 16 + (by2 (by1 a) + 256 * Y) = (by2 (by1 a) / 16 + 16 * (Y % 16) + by2 (by1 a)) + 256 * (Y / 16 + Y) by omega, and_byte _ _ _ _ l (by omega), e]
theorem popN_mod : ∀ (n x : Nat) (y : Nat), popN n (x + 2 ^ n * y) = popN n x
  | 0, _, _ => rfl
  | n + 1, x, y => by
    show (x + 2 ^ (n + 1) * y) % 2 + popN n ((x + 2 ^ (n + 1) * y) / 2) = x % 2 + popN n (x / 2)
    have e : 2 ^ (n + 1) * y = 2 * (2 ^ n * y) := by rw [Nat.pow_succ, Nat.mul_comm (2 ^ n) 2, Nat.mul_assoc]
    rw [e, show (x + 2 * (2 ^ n * y)) % 2 = x % 2 by omega, show (x + 2 * (2 ^ n * y)) / 2 = x / 2 + 2 ^ n * y by omega, popN_mod n]
theorem popN_add : ∀ (n m x : Nat), popN (n + m) x = popN n x + popN m (x / 2 ^ n)
  | 0, m, x => by simp [popN]
  | n + 1, m, x => by
    rw [show n + 1 + m = (n + m) + 1 by omega]
    show x % 2 + popN (n + m) (x / 2) = x % 2 + popN n (x / 2) + popN m (x / 2 ^ (n + 1))
    rw [popN_add n m, Nat.div_div_eq_div_mul, show 2 * 2 ^ n = 2 ^ (n + 1) by rw [Nat.pow_succ, Nat.mul_comm]]
    omega
theorem popN_byte (n a y : Nat) : popN (8 + n) (a + 256 * y) = popN 8 a + popN n ((a + 256 * y) / 256) := by
  rw [popN_add, show a + 256 * y = a + 2 ^ 8 * y by omega, popN_mod]
theorem swar (c0 c1 c2 c3 c4 c5 c6 c7 : Nat) (h0 : c0 ≤ 8) (h1 : c1 ≤ 8) (h2 : c2 ≤ 8) (h3 : c3 ≤ 8) (h4 : c4 ≤ 8) (h5 : c5 ≤ 8) (h6 : c6 ≤ 8) (h7 : c7 ≤ 8) (x3 x4 x5 x6 : Nat)
    (e3 : x3 = c0 + 256 * (c1 + 256 * (c2 + 256 * (c3 + 256 * (c4 + 256 * (c5 + 256 * (c6 + 256 * c7)))))))
    (e4 : x4 = x3 + x3 / 256) (e5 : x5 = x4 + x4 / 65536) (e6 : x6 = x5 + x5 / 4294967296) :
    x6 % 128 = c0 + c1 + c2 + c3 + c4 + c5 + c6 + c7 ∧ x4 < 1152921504606846976 ∧ x5 < 1152921504606846976 ∧ x6 < 1152921504606846976 := by
  have d3 : x3 / 256 = c1 + 256 * (c2 + 256 * (c3 + 256 * (c4 + 256 * (c5 + 256 * (c6 + 256 * c7))))) := by omega
  have f4 : x4 = (c0 + c1) + 256 * ((c1 + c2) + 256 * ((c2 + c3) + 256 * ((c3 + c4) + 256 * ((c4 + c5) + 256 * ((c5 + c6) + 256 * ((c6 + c7) + 256 * c7)))))) := by omega
  have d4 : x4 / 65536 = (c2 + c3) + 256 * ((c3 + c4) + 256 * ((c4 + c5) + 256 * ((c5 + c6) + 256 * ((c6 + c7) + 256 * c7)))) := by omega
  have f5 : x5 = (c0 + c1 + c2 + c3) + 256 * ((c1 + c2 + c3 + c4) + 256 * ((c2 + c3 + c4 + c5) + 256 * ((c3 + c4 + c5 + c6) + 256 * ((c4 + c5 + c6 + c7) + 256 * ((c5 + c6 + c7) + 256 * ((c6 + c7) + 256 * c7)))))) := by omega
  have d5 : x5 / 4294967296 = (c4 + c5 + c6 + c7) + 256 * ((c5 + c6 + c7) + 256 * ((c6 + c7) + 256 * c7)) := by omega
  have f6 : x6 = (c0 + c1 + c2 + c3 + c4 + c5 + c6 + c7) + 256 * ((c1 + c2 + c3 + c4 + (c5 + c6 + c7)) + 256 * ((c2 + c3 + c4 + c5 + (c6 + c7)) + 256 * ((c3 + c4 + c5 + c6 + c7) + 256 * ((c4 + c5 + c6 + c7) + 256 * ((c5 + c6 + c7) + 256 * ((c6 + c7) + 256 * c7)))))) := by
    rw [e6, d5, f5]
    clear e3 e4 e5 e6 d3 d4 d5 f4 f5
    omega
  clear e3 e4 e5 e6 d3 d4 d5
  have b4 : x4 < 1152921504606846976 := by clear f5 f6; omega
  have b5 : x5 < 1152921504606846976 := by clear f4 f6; omega
  have b6 : x6 < 1152921504606846976 := by clear f4 f5; omega
  refine ⟨?_, b4, b5, b6⟩
  clear f4 f5 b4 b5 b6
  generalize (c1 + c2 + c3 + c4 + (c5 + c6 + c7)) + 256 * ((c2 + c3 + c4 + c5 + (c6 + c7)) + 256 * ((c3 + c4 + c5 + c6 + c7) + 256 * ((c4 + c5 + c6 + c7) + 256 * ((c5 + c6 + c7) + 256 * ((c6 + c7) + 256 * c7))))) = Z at f6
  have hs : c0 + c1 + c2 + c3 + c4 + c5 + c6 + c7 ≤ 64 := by omega
  generalize c0 + c1 + c2 + c3 + c4 + c5 + c6 + c7 = S at f6 hs ⊢
  omega
theorem pop8_le (a : Nat) (h : a < 256) : popN 8 a ≤ 8 := (bytes3 ⟨a, h⟩ ⟨0, by omega⟩).2.2
theorem ones_all (x : Nat) (hx : x < 18446744073709551616) : ∃ x3 x4 x5 x6 : Nat, x3 = swP 8 x ∧ x4 = x3 + x3 / 256 ∧ x5 = x4 + x4 / 65536 ∧ x6 = x5 + x5 / 4294967296 ∧ x6 % 128 = popN 64 x ∧ x4 < 1152921504606846976 ∧ x5 < 1152921504606846976 ∧ x6 < 1152921504606846976 := by
  have byte : ∀ x : Nat, ∃ b y : Nat, b < 256 ∧ x = b + 256 * y := fun x => ⟨x % 256, x / 256, by omega, by omega⟩
  obtain ⟨b0, y0, h0, rfl⟩ := byte x
  obtain ⟨b1, y1, h1, rfl⟩ := byte y0
  obtain ⟨b2, y2, h2, rfl⟩ := byte y1
  obtain ⟨b3, y3, h3, rfl⟩ := byte y2
  obtain ⟨b4, y4, h4, rfl⟩ := byte y3
  obtain ⟨b5, y5, h5, rfl⟩ := byte y4
  obtain ⟨b6, b7, h6, rfl⟩ := byte y5
  have h7 : b7 < 256 := by omega
  clear byte
  have p : swP 8 (b0 + 256 * (b1 + 256 * (b2 + 256 * (b3 + 256 * (b4 + 256 * (b5 + 256 * (b6 + 256 * b7))))))) = popN 8 b0 + 256 * (popN 8 b1 + 256 * (popN 8 b2 + 256 * (popN 8 b3 + 256 * (popN 8 b4 + 256 * (popN 8 b5 + 256 * (popN 8 b6 + 256 * popN 8 b7)))))) := by
    rw [swP_step 7 _ _ h0, swP_step 6 _ _ h1, swP_step 5 _ _ h2, swP_step 4 _ _ h3, swP_step 3 _ _ h4, swP_step 2 _ _ h5, swP_step 1 _ _ h6]
    have z : swP 1 b7 = popN 8 b7 + 256 * swP 0 0 := by
      have := swP_step 0 b7 0 h7
      rwa [show b7 + 256 * 0 = b7 by omega] at this
    rw [z, show swP 0 0 = 0 by decide, Nat.mul_zero, Nat.add_zero]
  have q : ∀ n a y : Nat, a < 256 → popN (n + 8) (a + 256 * y) = popN 8 a + popN n y := fun n a y ha => by
    rw [Nat.add_comm n 8, popN_byte, show (a + 256 * y) / 256 = y by omega]
  have r : popN 64 (b0 + 256 * (b1 + 256 * (b2 + 256 * (b3 + 256 * (b4 + 256 * (b5 + 256 * (b6 + 256 * b7))))))) = popN 8 b0 + popN 8 b1 + popN 8 b2 + popN 8 b3 + popN 8 b4 + popN 8 b5 + popN 8 b6 + popN 8 b7 := by
    rw [q 56 _ _ h0, q 48 _ _ h1, q 40 _ _ h2, q 32 _ _ h3, q 24 _ _ h4, q 16 _ _ h5, q 8 _ _ h6]
    omega
  obtain ⟨s, t, u, v⟩ := swar (popN 8 b0) (popN 8 b1) (popN 8 b2) (popN 8 b3) (popN 8 b4) (popN 8 b5) (popN 8 b6) (popN 8 b7) (pop8_le _ h0) (pop8_le _ h1) (pop8_le _ h2) (pop8_le _ h3) (pop8_le _ h4) (pop8_le _ h5) (pop8_le _ h6) (pop8_le _ h7) _ _ _ _ p rfl rfl rfl
  exact ⟨_, _, _, _, rfl, rfl, rfl, rfl, by rw [s, r], t, u, v⟩
theorem popN_count (x : Nat) : ∀ n, popN n x = (List.range n).countP fun i => x.testBit i
  | 0 => rfl
  | n + 1 => by
    rw [popN_add n 1, List.range_succ, List.countP_append, popN_count x n]
    congr 1
    rw [List.countP_singleton, Nat.testBit_eq_decide_div_mod_eq]
    show x / 2 ^ n % 2 + popN 0 _ = _
    rw [show popN 0 (x / 2 ^ n / 2) = 0 from rfl]
    by_cases h : x / 2 ^ n % 2 = 1
    · simp [h]
    · simp [h]; omega
end Go.Proofs.YtbjjdkemappelaaGreatDoor

namespace Go.Proofs.YtbjjdkemappelaaGreatDoor
open Go.RowKit
theorem u_and (a : Nat) (ha : a < 18446744073709551616) (y m : Int) (hy : y = (a : Int)) (h0 : 0 ≤ m) (h1 : m < 18446744073709551616) (M : Nat) (hm : m.toNat = M) : bits .and .u64 y m = ((a &&& M : Nat) : Int) := by
  rw [hy, u64_and _ _ (by omega) (by omega) h0 h1, hm, Int.toNat_natCast]
theorem u_wrap (n : Int) (a : Nat) (ha : a < 18446744073709551616) (h : n = (a : Int)) : IntKind.u64.wrap n = (a : Int) := by
  rw [IntKind.wrap_u64]
  omega
theorem ones1 (x : Nat) (hx : x < 18446744073709551616) : IntKind.u64.wrap (bits .and .u64 ((x : Int) / 2) 6148914691236517205 + bits .and .u64 (x : Int) 6148914691236517205) = ((sw1 8 x : Nat) : Int) ∧ sw1 8 x < 18446744073709551616 := by
  have e : repB 85 8 = 6148914691236517205 := by decide
  have l1 := Nat.and_le_right (n := x / 2) (m := 6148914691236517205)
  have l2 := Nat.and_le_right (n := x) (m := 6148914691236517205)
  have b : sw1 8 x < 18446744073709551616 := by unfold sw1; rw [e]; omega
  refine ⟨u_wrap _ _ b ?_, b⟩
  rw [u_and (x / 2) (by omega) _ _ (by omega) (by decide) (by decide) 6148914691236517205 rfl, u_and x hx _ _ rfl (by decide) (by decide) 6148914691236517205 rfl]
  unfold sw1
  rw [e]
  omega
theorem ones2 (x : Nat) (hx : x < 18446744073709551616) : IntKind.u64.wrap (bits .and .u64 ((x : Int) / 4) 3689348814741910323 + bits .and .u64 (x : Int) 3689348814741910323) = ((sw2 8 x : Nat) : Int) ∧ sw2 8 x < 7378697629483820647 := by
  have e : repB 51 8 = 3689348814741910323 := by decide
  have l1 := Nat.and_le_right (n := x / 4) (m := 3689348814741910323)
  have l2 := Nat.and_le_right (n := x) (m := 3689348814741910323)
  have b : sw2 8 x < 7378697629483820647 := by unfold sw2; rw [e]; omega
  refine ⟨u_wrap _ _ (by omega) ?_, b⟩
  rw [u_and (x / 4) (by omega) _ _ (by omega) (by decide) (by decide) 3689348814741910323 rfl, u_and x hx _ _ rfl (by decide) (by decide) 3689348814741910323 rfl]
  unfold sw2
  rw [e]
  omega
theorem ones3 (x : Nat) (hx : x < 7378697629483820647) : bits .and .u64 ((x : Int) / 16 + (x : Int)) 1085102592571150095 = ((sw3 8 x : Nat) : Int) ∧ sw3 8 x < 1152921504606846976 := by
  have e : repB 15 8 = 1085102592571150095 := by decide
  rw [u_and (x / 16 + x) (by omega) _ _ (by omega) (by decide) (by decide) 1085102592571150095 rfl]
  unfold sw3
  rw [e]
  have l1 := Nat.and_le_right (n := x / 16 + x) (m := 1085102592571150095)
  exact ⟨rfl, by omega⟩
set_option maxRecDepth 100000 in
set_option maxHeartbeats 4000000 in
theorem onesCount_any (x : Nat) (hx : x < 18446744073709551616) (w : World) :
    Calls Tryz.prog 119 #[.int .u64 (x : Int)] w fun e w' => e = .returned (.int .i64 (popN 64 x)) ∧ w' = w := by
  obtain ⟨x3, x4, x5, x6, e3, e4, e5, e6, e7, b4, b5, b6⟩ := ones_all x hx
  generalize popN 64 x = r at *
  unfold swP at e3
  obtain ⟨E1, b1⟩ := ones1 x hx
  generalize sw1 8 x = x1 at *
  obtain ⟨E2, b2⟩ := ones2 x1 b1
  generalize sw2 8 x1 = x2 at *
  obtain ⟨E3, b3'⟩ := ones3 x2 b2
  generalize sw3 8 x2 = x3' at *
  have b3 : x3 < 1152921504606846976 := by omega
  clear b3'
  have E4 : (x3 : Int) + (x3 : Int) / 256 = (x4 : Int) := by omega
  have E5 : (x4 : Int) + (x4 : Int) / 65536 = (x5 : Int) := by omega
  have E6 : (x5 : Int) + (x5 : Int) / 4294967296 = (x6 : Int) := by omega
  have E7 : bits .and .i64 (x6 : Int) 127 = (r : Int) := by rw [i64_and127]; omega
  subst e3
  clear e4 e5 e6 e7
  go_enter Tryz.func119, Tryz.ntmps119
  go_wp2
  go_ret
  exact ⟨rfl, rfl⟩
end Go.Proofs.YtbjjdkemappelaaGreatDoor
