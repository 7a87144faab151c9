/- Operations that are right: by the program. -/
import Derived.Test.YtjkdmhdehihcbaaGreatDoorDtE
namespace Go.Proofs.YtjkdmhdehihcbaaGreatDoor
open Go.RowKit
def opEq (k : Int) (p t : ByteArray) (g x : Int) (k' : Int) (p' t' : ByteArray) (g' x' : Int) : Bool := k == k' && (p.toList == p'.toList && (t.toList == t'.toList && (g == g' && x == x')))
set_option maxRecDepth 100000 in
set_option maxHeartbeats 4000000 in
@[go_sem ↓] theorem eqOp (k : Int) (p t : ByteArray) (g x : Int) (k' : Int) (p' t' : ByteArray) (g' x' : Int) (w : World) : (Op.equalIn 10000 24 (.agg #[.int .i64 k, .string p, .string t, .int .i64 g, .int .i64 x]) (.agg #[.int .i64 k', .string p', .string t', .int .i64 g', .int .i64 x'])).run Tryz.prog w = .ok (opEq k p t g x k' p' t' g' x') w := by
  unfold opEq
  cases g0 : (k == k')
  · go_simp
  cases g1 : (p.toList == p'.toList)
  · go_simp
  cases g2 : (t.toList == t'.toList)
  · go_simp
  cases g3 : (g == g')
  · go_simp
  cases g4 : (x == x')
  · go_simp
  · go_simp
theorem no_bytes : (⟨#[]⟩ : ByteArray).toList = [] := (noBytes _).2 rfl
theorem op_zero (t : ByteArray) (g x : Int) : opEq 0 ⟨#[]⟩ t g x 0 ⟨#[]⟩ ⟨#[]⟩ 0 0 = decide (t.size = 0 ∧ g = 0 ∧ x = 0) := by
  unfold opEq
  rw [Bool.eq_iff_iff]
  simp only [Bool.and_eq_true, beq_iff_eq, decide_eq_true_eq, no_bytes, true_and]
  rw [noBytes t]
theorem op_in {k : Int} {p t : ByteArray} {g x : Int} (hp : ¬ 65536 < p.size) (ht : ¬ 65536 < t.size) (hk : 1 ≤ k ∧ k ≤ 10) {P : Prop} [Decidable P] (h : P ↔ ((k = 4 ∨ k = 5 ∨ t.size = 0) ∧ (k = 6 ∨ x = 0) ∧ ((6 ≤ k ∧ k ≤ 8) ∨ g = 0))) : opB k p t g x = decide P := by
  unfold opB
  rw [decide_eq_decide, h]
  exact ⟨fun q => q.2.2.2, fun q => ⟨hk, by omega, by omega, q⟩⟩
theorem op_out {k : Int} {p t : ByteArray} {g x : Int} (h : ¬ ((1 ≤ k ∧ k ≤ 10) ∧ p.size ≤ 65536 ∧ t.size ≤ 65536)) : opB k p t g x = false := decide_eq_false (fun q => h ⟨q.1, q.2.1, q.2.2.1⟩)
set_option maxRecDepth 100000 in
set_option maxHeartbeats 8000000 in
theorem implOpOK_any (k : Int) (p t : ByteArray) (g x : Int) (w : World) :
    Calls Tryz.prog 22 #[.agg #[.int .i64 k, .string p, .string t, .int .i64 g, .int .i64 x]] w fun e w' => e = .returned (.bool (opB k p t g x)) ∧ Below w.heap.size w w' := by
  by_cases c1 : 65536 < p.size
  · rw [op_out (fun h => by omega)]
    have q : (p.size : Int) > 65536 := by omega
    clear c1
    go_enter Tryz.func22, Tryz.ntmps22
    go_wp2
    go_ret
    exact ⟨rfl, (Below.refl _ _).alloc (Nat.le_refl _) _⟩
  have q1 : ¬ (p.size : Int) > 65536 := by omega
  by_cases c2 : 65536 < t.size
  · rw [op_out (fun h => by omega)]
    have q : (t.size : Int) > 65536 := by omega
    clear c1 c2
    go_enter Tryz.func22, Tryz.ntmps22
    go_wp2
    go_ret
    exact ⟨rfl, (Below.refl _ _).alloc (Nat.le_refl _) _⟩
  have q2 : ¬ (t.size : Int) > 65536 := by omega
  by_cases hk : 1 ≤ k ∧ k ≤ 10
  case neg =>
    rw [op_out (fun h => hk h.1)]
    have k1 : (k == 1) = false := by rw [beq_eq_false_iff_ne]; omega
    have k2 : (k == 2) = false := by rw [beq_eq_false_iff_ne]; omega
    have k3 : (k == 3) = false := by rw [beq_eq_false_iff_ne]; omega
    have k4 : (k == 4) = false := by rw [beq_eq_false_iff_ne]; omega
    have k5 : (k == 5) = false := by rw [beq_eq_false_iff_ne]; omega
    have k6 : (k == 6) = false := by rw [beq_eq_false_iff_ne]; omega
    have k7 : (k == 7) = false := by rw [beq_eq_false_iff_ne]; omega
    have k8 : (k == 8) = false := by rw [beq_eq_false_iff_ne]; omega
    have k9 : (k == 9) = false := by rw [beq_eq_false_iff_ne]; omega
    have k10 : (k == 10) = false := by rw [beq_eq_false_iff_ne]; omega
    clear c1 c2 hk
    go_enter Tryz.func22, Tryz.ntmps22
    go_wp2
    go_ret
    exact ⟨rfl, by repeat (first | exact Below.refl _ _ | refine Below.setCell ?_ (by simp only; omega) _ | refine Below.alloc ?_ (by simp) _)⟩
  have OI := hideIt (fun (P : Prop) (_ : Decidable P) h => op_in (k := k) (p := p) (t := t) (g := g) (x := x) c1 c2 hk (P := P) h)
  clear c1 c2
  rcases (show k = 1 ∨ k = 2 ∨ k = 3 ∨ k = 4 ∨ k = 5 ∨ k = 6 ∨ k = 7 ∨ k = 8 ∨ k = 9 ∨ k = 10 by omega) with rfl | rfl | rfl | rfl | rfl | rfl | rfl | rfl | rfl | rfl
  · have E : Hid (opB 1 p t g x = opEq 0 ⟨#[]⟩ t g x 0 ⟨#[]⟩ ⟨#[]⟩ 0 0) := by
      unfold Hid
      rw [op_zero]
      exact OI.out _ _ ⟨fun q => ⟨by omega, by omega, by omega⟩, fun q => ⟨by first | rfl | omega, by omega, by omega⟩⟩
    rw [E.out]
    clear E OI hk
    go_enter Tryz.func22, Tryz.ntmps22
    go_wp2
    go_ret
    exact ⟨rfl, by repeat (first | exact Below.refl _ _ | refine Below.setCell ?_ (by simp only; omega) _ | refine Below.alloc ?_ (by simp) _)⟩
  · have E : Hid (opB 2 p t g x = opEq 0 ⟨#[]⟩ t g x 0 ⟨#[]⟩ ⟨#[]⟩ 0 0) := by
      unfold Hid
      rw [op_zero]
      exact OI.out _ _ ⟨fun q => ⟨by omega, by omega, by omega⟩, fun q => ⟨by first | rfl | omega, by omega, by omega⟩⟩
    rw [E.out]
    clear E OI hk
    go_enter Tryz.func22, Tryz.ntmps22
    go_wp2
    go_ret
    exact ⟨rfl, by repeat (first | exact Below.refl _ _ | refine Below.setCell ?_ (by simp only; omega) _ | refine Below.alloc ?_ (by simp) _)⟩
  · have E : Hid (opB 3 p t g x = opEq 0 ⟨#[]⟩ t g x 0 ⟨#[]⟩ ⟨#[]⟩ 0 0) := by
      unfold Hid
      rw [op_zero]
      exact OI.out _ _ ⟨fun q => ⟨by omega, by omega, by omega⟩, fun q => ⟨by first | rfl | omega, by omega, by omega⟩⟩
    rw [E.out]
    clear E OI hk
    go_enter Tryz.func22, Tryz.ntmps22
    go_wp2
    go_ret
    exact ⟨rfl, by repeat (first | exact Below.refl _ _ | refine Below.setCell ?_ (by simp only; omega) _ | refine Below.alloc ?_ (by simp) _)⟩
  · have E : Hid (opB 4 p t g x = opEq 0 ⟨#[]⟩ ⟨#[]⟩ g x 0 ⟨#[]⟩ ⟨#[]⟩ 0 0) := by
      unfold Hid
      rw [op_zero]
      exact OI.out _ _ ⟨fun q => ⟨by omega, by omega, by omega⟩, fun q => ⟨by first | rfl | omega, by omega, by omega⟩⟩
    rw [E.out]
    clear E OI hk
    go_enter Tryz.func22, Tryz.ntmps22
    go_wp2
    go_ret
    exact ⟨rfl, by repeat (first | exact Below.refl _ _ | refine Below.setCell ?_ (by simp only; omega) _ | refine Below.alloc ?_ (by simp) _)⟩
  · have E : Hid (opB 5 p t g x = opEq 0 ⟨#[]⟩ ⟨#[]⟩ g x 0 ⟨#[]⟩ ⟨#[]⟩ 0 0) := by
      unfold Hid
      rw [op_zero]
      exact OI.out _ _ ⟨fun q => ⟨by omega, by omega, by omega⟩, fun q => ⟨by first | rfl | omega, by omega, by omega⟩⟩
    rw [E.out]
    clear E OI hk
    go_enter Tryz.func22, Tryz.ntmps22
    go_wp2
    go_ret
    exact ⟨rfl, by repeat (first | exact Below.refl _ _ | refine Below.setCell ?_ (by simp only; omega) _ | refine Below.alloc ?_ (by simp) _)⟩
  · have E : Hid (opB 6 p t g x = opEq 0 ⟨#[]⟩ t 0 0 0 ⟨#[]⟩ ⟨#[]⟩ 0 0) := by
      unfold Hid
      rw [op_zero]
      exact OI.out _ _ ⟨fun q => ⟨by omega, by omega, by omega⟩, fun q => ⟨by first | rfl | omega, by omega, by omega⟩⟩
    rw [E.out]
    clear E OI hk
    go_enter Tryz.func22, Tryz.ntmps22
    go_wp2
    go_ret
    exact ⟨rfl, by repeat (first | exact Below.refl _ _ | refine Below.setCell ?_ (by simp only; omega) _ | refine Below.alloc ?_ (by simp) _)⟩
  · have E : Hid (opB 7 p t g x = opEq 0 ⟨#[]⟩ t 0 x 0 ⟨#[]⟩ ⟨#[]⟩ 0 0) := by
      unfold Hid
      rw [op_zero]
      exact OI.out _ _ ⟨fun q => ⟨by omega, by omega, by omega⟩, fun q => ⟨by first | rfl | omega, by omega, by omega⟩⟩
    rw [E.out]
    clear E OI hk
    go_enter Tryz.func22, Tryz.ntmps22
    go_wp2
    go_ret
    exact ⟨rfl, by repeat (first | exact Below.refl _ _ | refine Below.setCell ?_ (by simp only; omega) _ | refine Below.alloc ?_ (by simp) _)⟩
  · have E : Hid (opB 8 p t g x = opEq 0 ⟨#[]⟩ t 0 x 0 ⟨#[]⟩ ⟨#[]⟩ 0 0) := by
      unfold Hid
      rw [op_zero]
      exact OI.out _ _ ⟨fun q => ⟨by omega, by omega, by omega⟩, fun q => ⟨by first | rfl | omega, by omega, by omega⟩⟩
    rw [E.out]
    clear E OI hk
    go_enter Tryz.func22, Tryz.ntmps22
    go_wp2
    go_ret
    exact ⟨rfl, by repeat (first | exact Below.refl _ _ | refine Below.setCell ?_ (by simp only; omega) _ | refine Below.alloc ?_ (by simp) _)⟩
  · have E : Hid (opB 9 p t g x = opEq 0 ⟨#[]⟩ t g x 0 ⟨#[]⟩ ⟨#[]⟩ 0 0) := by
      unfold Hid
      rw [op_zero]
      exact OI.out _ _ ⟨fun q => ⟨by omega, by omega, by omega⟩, fun q => ⟨by first | rfl | omega, by omega, by omega⟩⟩
    rw [E.out]
    clear E OI hk
    go_enter Tryz.func22, Tryz.ntmps22
    go_wp2
    go_ret
    exact ⟨rfl, by repeat (first | exact Below.refl _ _ | refine Below.setCell ?_ (by simp only; omega) _ | refine Below.alloc ?_ (by simp) _)⟩
  · have E : Hid (opB 10 p t g x = opEq 0 ⟨#[]⟩ t g x 0 ⟨#[]⟩ ⟨#[]⟩ 0 0) := by
      unfold Hid
      rw [op_zero]
      exact OI.out _ _ ⟨fun q => ⟨by omega, by omega, by omega⟩, fun q => ⟨by first | rfl | omega, by omega, by omega⟩⟩
    rw [E.out]
    clear E OI hk
    go_enter Tryz.func22, Tryz.ntmps22
    go_wp2
    go_ret
    exact ⟨rfl, by repeat (first | exact Below.refl _ _ | refine Below.setCell ?_ (by simp only; omega) _ | refine Below.alloc ?_ (by simp) _)⟩
end Go.Proofs.YtjkdmhdehihcbaaGreatDoor
