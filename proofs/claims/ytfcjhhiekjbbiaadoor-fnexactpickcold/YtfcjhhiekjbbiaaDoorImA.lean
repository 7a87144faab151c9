/- Inodes and entries as the laws hand them on: mathematics and the helpers over one of them. -/
import Derived.Test.YtfcjhhiekjbbiaaDoorZAB
import Derived.BigQuiet
import Derived.Deep.QuietTactic
namespace Go.Proofs.YtfcjhhiekjbbiaaDoor
open Go.RowKit

theorem eight {w : World} {b : Nat} {t : TypeId} {x0 x1 x2 x3 x4 x5 x6 x7 : Value} (h : w.heap[b]? = some (.cells #[x0, x1, x2, x3, x4, x5, x6, x7] t (0, 0))) (j : Nat) (hj : j < 8) : w.cell? ⟨b, j, none⟩ = [x0, x1, x2, x3, x4, x5, x6, x7][j]? := by
  rcases (show j = 0 ∨ j = 1 ∨ j = 2 ∨ j = 3 ∨ j = 4 ∨ j = 5 ∨ j = 6 ∨ j = 7 by omega) with rfl | rfl | rfl | rfl | rfl | rfl | rfl | rfl <;> simp [World.cell?, h]
theorem eight_set {w : World} {b : Nat} {t : TypeId} {xs : List Value} (h : w.heap[b]? = some (.cells xs.toArray t (0, 0))) (j : Nat) (u : Value) : (w.setCell ⟨b, j, none⟩ u).heap[b]? = some (.cells (xs.set j u).toArray t (0, 0)) := by
  simp [World.setCell, Array.getElem?_modify, h]
theorem eight_at {w : World} {b : Nat} {t : TypeId} {xs : List Value} (h : w.heap[b]? = some (.cells xs.toArray t (0, 0))) (j : Nat) : w.cell? ⟨b, j, none⟩ = xs[j]? ∧ w.frozen? ⟨b, j, none⟩ = false := by
  simp [World.cell?, World.frozen?, h]
/-- The first of eight numbers, and noughts. -/
def part8 (zs : List Int) (k : Nat) : List Value := (zs.take k).map (Value.int .i64) ++ List.replicate (8 - k) (.int .i64 0)
theorem part8_len (zs : List Int) (k : Nat) (h : zs.length = 8) (hk : k ≤ 8) : (part8 zs k).length = 8 := by simp [part8, h]; omega
theorem part8_succ (zs : List Int) (k : Nat) (h : zs.length = 8) (hk : k < 8) : (part8 zs k).set k (.int .i64 (zs[k]'(by omega))) = part8 zs (k + 1) := by
  have e : 8 - k = (8 - (k + 1)) + 1 := by omega
  have hl : ((zs.take k).map (Value.int .i64)).length = k := by simp [h]; omega
  have e2 : part8 zs (k + 1) = (zs.take k).map (Value.int .i64) ++ .int .i64 (zs[k]'(by omega)) :: List.replicate (8 - (k + 1)) (.int .i64 0) := by
    unfold part8
    rw [List.take_succ_eq_append_getElem (by omega), List.map_append, List.append_assoc]
    rfl
  rw [e2]
  unfold part8
  rw [e, List.replicate_succ, List.set_append_right _ _ (by rw [hl]; exact Nat.le_refl _), hl, Nat.sub_self]
  rfl
theorem part8_all (zs : List Int) (h : zs.length = 8) : part8 zs 8 = zs.map (Value.int .i64) := by
  unfold part8
  rw [List.take_of_length_le (by omega)]
  simp

set_option maxRecDepth 100000 in
set_option maxHeartbeats 2000000 in
theorem toIntA8_any (m0 m1 m2 m3 m4 m5 m6 m7 : Int) (w : World) : Calls Tryd.prog 42 #[.agg #[.int .i64 m0, .int .i64 m1, .int .i64 m2, .int .i64 m3, .int .i64 m4, .int .i64 m5, .int .i64 m6, .int .i64 m7]] w fun e w' => e = .returned (.agg #[.int .i64 m0, .int .i64 m1, .int .i64 m2, .int .i64 m3, .int .i64 m4, .int .i64 m5, .int .i64 m6, .int .i64 m7]) ∧ Below w.heap.size w w' := by
  obtain ⟨zs, hzs⟩ : ∃ zs : List Int, zs = [m0, m1, m2, m3, m4, m5, m6, m7] := ⟨_, rfl⟩
  have hl : zs.length = 8 := by rw [hzs]; rfl
  have A0 : Hid ((((w.alloc (.cells #[.int .i64 m0, .int .i64 m1, .int .i64 m2, .int .i64 m3, .int .i64 m4, .int .i64 m5, .int .i64 m6, .int .i64 m7] 54)).alloc (.cells #[.int .i64 0, .int .i64 0, .int .i64 0, .int .i64 0, .int .i64 0, .int .i64 0, .int .i64 0, .int .i64 0] 54)).alloc (.cells #[.int .i64 0, .int .i64 0, .int .i64 0, .int .i64 0, .int .i64 0, .int .i64 0, .int .i64 0, .int .i64 0] 54)).heap[w.heap.size]? = some (.cells (zs.map (Value.int .i64)).toArray 54 (0, 0))) := by rw [hzs]; exact at_old (at_old (at_new rfl))
  have R0 : Hid ((((w.alloc (.cells #[.int .i64 m0, .int .i64 m1, .int .i64 m2, .int .i64 m3, .int .i64 m4, .int .i64 m5, .int .i64 m6, .int .i64 m7] 54)).alloc (.cells #[.int .i64 0, .int .i64 0, .int .i64 0, .int .i64 0, .int .i64 0, .int .i64 0, .int .i64 0, .int .i64 0] 54)).alloc (.cells #[.int .i64 0, .int .i64 0, .int .i64 0, .int .i64 0, .int .i64 0, .int .i64 0, .int .i64 0, .int .i64 0] 54)).heap[w.heap.size + 1]? = some (.cells #[.int .i64 0, .int .i64 0, .int .i64 0, .int .i64 0, .int .i64 0, .int .i64 0, .int .i64 0, .int .i64 0] 54 (0, 0))) := at_old (at_new (by simp))
  have O0 : Hid ((((w.alloc (.cells #[.int .i64 m0, .int .i64 m1, .int .i64 m2, .int .i64 m3, .int .i64 m4, .int .i64 m5, .int .i64 m6, .int .i64 m7] 54)).alloc (.cells #[.int .i64 0, .int .i64 0, .int .i64 0, .int .i64 0, .int .i64 0, .int .i64 0, .int .i64 0, .int .i64 0] 54)).alloc (.cells #[.int .i64 0, .int .i64 0, .int .i64 0, .int .i64 0, .int .i64 0, .int .i64 0, .int .i64 0, .int .i64 0] 54)).heap[w.heap.size + 1 + 1]? = some (.cells (part8 zs 0).toArray 54 (0, 0))) := at_new (by simp)
  have B0 : Hid (Below w.heap.size w (((w.alloc (.cells #[.int .i64 m0, .int .i64 m1, .int .i64 m2, .int .i64 m3, .int .i64 m4, .int .i64 m5, .int .i64 m6, .int .i64 m7] 54)).alloc (.cells #[.int .i64 0, .int .i64 0, .int .i64 0, .int .i64 0, .int .i64 0, .int .i64 0, .int .i64 0, .int .i64 0] 54)).alloc (.cells #[.int .i64 0, .int .i64 0, .int .i64 0, .int .i64 0, .int .i64 0, .int .i64 0, .int .i64 0, .int .i64 0] 54))) := by
    show Below _ _ _
    repeat (refine Below.alloc ?_ (by simp <;> omega) _)
    exact Below.refl _ _
  have HL := hideIt hl
  have HZ := hideIt hzs
  clear hl hzs
  go_enter Tryd.func42, Tryd.ntmps42
  go_wp2
  go_loopw [4] (fun i wr => ∃ k : Nat, k ≤ 8 ∧ i = .int .i64 k ∧ Hid (wr.heap[w.heap.size]? = some (.cells (zs.map (Value.int .i64)).toArray 54 (0, 0)) ∧ wr.heap[w.heap.size + 1]? = some (.cells #[.int .i64 0, .int .i64 0, .int .i64 0, .int .i64 0, .int .i64 0, .int .i64 0, .int .i64 0, .int .i64 0] 54 (0, 0)) ∧ wr.heap[w.heap.size + 1 + 1]? = some (.cells (part8 zs k).toArray 54 (0, 0)) ∧ Below w.heap.size w wr)) (fun i _ => 8 - (intOf i).toNat)
  case atStart => exact ⟨0, by omega, rfl, A0.out, R0.out, O0.out, B0.out⟩
  case round =>
    obtain ⟨k, hk, rfl, I⟩ := hrel
    clear A0 R0 O0 B0
    by_cases hlt : k < 8
    · have hkz : k < zs.length := by have := HL.out; omega
      have a0 : wr.cell? ⟨w.heap.size, k, none⟩ = some (.int .i64 (zs[k]'hkz)) := by rw [(eight_at I.out.1 k).1]; simp [hkz]
      have b0 : wr.cell? ⟨w.heap.size + 1 + 1, k, none⟩ = some ((part8 zs k)[k]'(by rw [part8_len zs k HL.out (by omega)]; exact hlt)) := by rw [(eight_at I.out.2.2.1 k).1]; simp [part8_len zs k HL.out (by omega), hlt]
      have b1 := (eight_at I.out.2.2.1 k).2
      have PS := hideIt (part8_succ zs k HL.out hlt)
      have k0 : (0 : Int) ≤ (k : Int) := by omega
      have k1 : (k : Int) < 8 := by omega
      have G : Hid ((wr.setCell ⟨w.heap.size + 1 + 1, k, none⟩ (.int .i64 (zs[k]'hkz))).heap[w.heap.size]? = some (.cells (zs.map (Value.int .i64)).toArray 54 (0, 0)) ∧ (wr.setCell ⟨w.heap.size + 1 + 1, k, none⟩ (.int .i64 (zs[k]'hkz))).heap[w.heap.size + 1]? = some (.cells #[.int .i64 0, .int .i64 0, .int .i64 0, .int .i64 0, .int .i64 0, .int .i64 0, .int .i64 0, .int .i64 0] 54 (0, 0)) ∧ (wr.setCell ⟨w.heap.size + 1 + 1, k, none⟩ (.int .i64 (zs[k]'hkz))).heap[w.heap.size + 1 + 1]? = some (.cells (part8 zs (k + 1)).toArray 54 (0, 0)) ∧ Below w.heap.size w (wr.setCell ⟨w.heap.size + 1 + 1, k, none⟩ (.int .i64 (zs[k]'hkz)))) := by
        refine ⟨(Below.heap_setCell _ _ _ _ (by simp only; omega)).trans I.out.1, (Below.heap_setCell _ _ _ _ (by simp only; omega)).trans I.out.2.1, ?_, I.out.2.2.2.setCell (by simp only; omega) _⟩
        rw [← PS.out]
        exact eight_set I.out.2.2.1 k _
      generalize zs[k]'hkz = z at *
      clear I
      go_wp2
      go_roundw
      case rel => exact ⟨k + 1, by omega, by go_num, G⟩
      case measure => simp [intOf]; omega
    · obtain rfl : k = 8 := by omega
      have O : wr.heap[w.heap.size + 1 + 1]? = some (.cells #[.int .i64 m0, .int .i64 m1, .int .i64 m2, .int .i64 m3, .int .i64 m4, .int .i64 m5, .int .i64 m6, .int .i64 m7] 54 (0, 0)) := by
        have := I.out.2.2.1
        rw [part8_all zs HL.out, HZ.out] at this
        exact this

      have q0 := eight O 0 (by omega)
      have r0 := eight I.out.2.1 0 (by omega)
      have s0 : wr.frozen? ⟨w.heap.size + 1, 0, none⟩ = false := by simp [World.frozen?, I.out.2.1]
      have q1 := eight O 1 (by omega)
      have r1 := eight I.out.2.1 1 (by omega)
      have s1 : wr.frozen? ⟨w.heap.size + 1, 1, none⟩ = false := by simp [World.frozen?, I.out.2.1]
      have q2 := eight O 2 (by omega)
      have r2 := eight I.out.2.1 2 (by omega)
      have s2 : wr.frozen? ⟨w.heap.size + 1, 2, none⟩ = false := by simp [World.frozen?, I.out.2.1]
      have q3 := eight O 3 (by omega)
      have r3 := eight I.out.2.1 3 (by omega)
      have s3 : wr.frozen? ⟨w.heap.size + 1, 3, none⟩ = false := by simp [World.frozen?, I.out.2.1]
      have q4 := eight O 4 (by omega)
      have r4 := eight I.out.2.1 4 (by omega)
      have s4 : wr.frozen? ⟨w.heap.size + 1, 4, none⟩ = false := by simp [World.frozen?, I.out.2.1]
      have q5 := eight O 5 (by omega)
      have r5 := eight I.out.2.1 5 (by omega)
      have s5 : wr.frozen? ⟨w.heap.size + 1, 5, none⟩ = false := by simp [World.frozen?, I.out.2.1]
      have q6 := eight O 6 (by omega)
      have r6 := eight I.out.2.1 6 (by omega)
      have s6 : wr.frozen? ⟨w.heap.size + 1, 6, none⟩ = false := by simp [World.frozen?, I.out.2.1]
      have q7 := eight O 7 (by omega)
      have r7 := eight I.out.2.1 7 (by omega)
      have s7 : wr.frozen? ⟨w.heap.size + 1, 7, none⟩ = false := by simp [World.frozen?, I.out.2.1]
      simp only [List.getElem?_cons_zero, List.getElem?_cons_succ] at q0 r0 q1 r1 q2 r2 q3 r3 q4 r4 q5 r5 q6 r6 q7 r7
      have B : Hid (Below w.heap.size w ((((((((wr.setCell ⟨w.heap.size + 1, 0, none⟩ (.int .i64 m0)).setCell ⟨w.heap.size + 1, 1, none⟩ (.int .i64 m1)).setCell ⟨w.heap.size + 1, 2, none⟩ (.int .i64 m2)).setCell ⟨w.heap.size + 1, 3, none⟩ (.int .i64 m3)).setCell ⟨w.heap.size + 1, 4, none⟩ (.int .i64 m4)).setCell ⟨w.heap.size + 1, 5, none⟩ (.int .i64 m5)).setCell ⟨w.heap.size + 1, 6, none⟩ (.int .i64 m6)).setCell ⟨w.heap.size + 1, 7, none⟩ (.int .i64 m7))) := by
        show Below _ _ _
        repeat (refine Below.setCell ?_ (by simp only; omega) _)
        exact I.out.2.2.2
      have F : Hid (((((((((wr.setCell ⟨w.heap.size + 1, 0, none⟩ (.int .i64 m0)).setCell ⟨w.heap.size + 1, 1, none⟩ (.int .i64 m1)).setCell ⟨w.heap.size + 1, 2, none⟩ (.int .i64 m2)).setCell ⟨w.heap.size + 1, 3, none⟩ (.int .i64 m3)).setCell ⟨w.heap.size + 1, 4, none⟩ (.int .i64 m4)).setCell ⟨w.heap.size + 1, 5, none⟩ (.int .i64 m5)).setCell ⟨w.heap.size + 1, 6, none⟩ (.int .i64 m6)).setCell ⟨w.heap.size + 1, 7, none⟩ (.int .i64 m7)).heap[w.heap.size + 1]? = some (.cells #[.int .i64 m0, .int .i64 m1, .int .i64 m2, .int .i64 m3, .int .i64 m4, .int .i64 m5, .int .i64 m6, .int .i64 m7] 54 (0, 0))) := (eight_set ((eight_set ((eight_set ((eight_set ((eight_set ((eight_set ((eight_set ((eight_set (I.out.2.1) 0 _)) 1 _)) 2 _)) 3 _)) 4 _)) 5 _)) 6 _)) 7 _)
      clear I O
      go_wp2
      generalize ((((((((wr.setCell ⟨w.heap.size + 1, 0, none⟩ (.int .i64 m0)).setCell ⟨w.heap.size + 1, 1, none⟩ (.int .i64 m1)).setCell ⟨w.heap.size + 1, 2, none⟩ (.int .i64 m2)).setCell ⟨w.heap.size + 1, 3, none⟩ (.int .i64 m3)).setCell ⟨w.heap.size + 1, 4, none⟩ (.int .i64 m4)).setCell ⟨w.heap.size + 1, 5, none⟩ (.int .i64 m5)).setCell ⟨w.heap.size + 1, 6, none⟩ (.int .i64 m6)).setCell ⟨w.heap.size + 1, 7, none⟩ (.int .i64 m7)) = wz at B F ⊢
      have y0 := (eight F.out 0 (by omega))
      simp only [List.getElem?_cons_zero] at y0
      have y1 := (eight F.out 1 (by omega))
      simp only [List.getElem?_cons_zero, List.getElem?_cons_succ] at y1
      have y2 := (eight F.out 2 (by omega))
      simp only [List.getElem?_cons_zero, List.getElem?_cons_succ] at y2
      have y3 := (eight F.out 3 (by omega))
      simp only [List.getElem?_cons_zero, List.getElem?_cons_succ] at y3
      have y4 := (eight F.out 4 (by omega))
      simp only [List.getElem?_cons_zero, List.getElem?_cons_succ] at y4
      have y5 := (eight F.out 5 (by omega))
      simp only [List.getElem?_cons_zero, List.getElem?_cons_succ] at y5
      have y6 := (eight F.out 6 (by omega))
      simp only [List.getElem?_cons_zero, List.getElem?_cons_succ] at y6
      have y7 := (eight F.out 7 (by omega))
      simp only [List.getElem?_cons_zero, List.getElem?_cons_succ] at y7
      refine bodyPost_ret (v := .agg #[.int .i64 m0, .int .i64 m1, .int .i64 m2, .int .i64 m3, .int .i64 m4, .int .i64 m5, .int .i64 m6, .int .i64 m7]) (by simp [results, Tryd.results42, go_sem, y0, y1, y2, y3, y4, y5, y6, y7]) rfl ?_
      exact ⟨rfl, B.out⟩

/-- An inode. -/
structure Ino where
  kind : Int
  size : Int
  links : Int
  m0 : Int
  m1 : Int
  m2 : Int
  m3 : Int
  m4 : Int
  m5 : Int
  m6 : Int
  m7 : Int
/-- The map of an inode, as a list. -/
def Ino.map (x : Ino) : List Int := [x.m0, x.m1, x.m2, x.m3, x.m4, x.m5, x.m6, x.m7]
/-- An inode as a value. -/
def Ino.v (x : Ino) : Value := .agg #[.int .i64 x.kind, .int .i64 x.size, .int .i64 x.links, .int .i64 x.m0, .int .i64 x.m1, .int .i64 x.m2, .int .i64 x.m3, .int .i64 x.m4, .int .i64 x.m5, .int .i64 x.m6, .int .i64 x.m7]
/-- An inode's cells. -/
def Ino.cs (x : Ino) : List Value := [.int .i64 x.kind, .int .i64 x.size, .int .i64 x.links, .int .i64 x.m0, .int .i64 x.m1, .int .i64 x.m2, .int .i64 x.m3, .int .i64 x.m4, .int .i64 x.m5, .int .i64 x.m6, .int .i64 x.m7]

set_option maxRecDepth 100000 in
set_option maxHeartbeats 2000000 in
theorem toInode_any (x : Ino) (w : World) : Calls Tryd.prog 28 #[x.v] w fun e w' => e = .returned x.v ∧ Below w.heap.size w w' := by
  obtain ⟨k, s, l, m0, m1, m2, m3, m4, m5, m6, m7⟩ := x
  unfold Ino.v
  simp only
  go_enter Tryd.func28, Tryd.ntmps28
  go_wp2_with fail
  refine (toIntA8_any _ _ _ _ _ _ _ _ _).mono ?_
  rintro e w1 ⟨rfl, hb1⟩
  have hs : w.heap.size + 1 + 1 < (((w.alloc (.cells #[.int .i64 k, .int .i64 s, .int .i64 l, .int .i64 m0, .int .i64 m1, .int .i64 m2, .int .i64 m3, .int .i64 m4, .int .i64 m5, .int .i64 m6, .int .i64 m7] 58)).alloc (.cells #[.int .i64 0, .int .i64 0, .int .i64 0, .int .i64 0, .int .i64 0, .int .i64 0, .int .i64 0, .int .i64 0, .int .i64 0, .int .i64 0, .int .i64 0] 56)).alloc (.cells #[.int .i64 k, .int .i64 s, .int .i64 l, .int .i64 0, .int .i64 0, .int .i64 0, .int .i64 0, .int .i64 0, .int .i64 0, .int .i64 0, .int .i64 0] 56)).heap.size := by simp
  have C : w1.heap[w.heap.size + 1 + 1]? = some (.cells #[.int .i64 k, .int .i64 s, .int .i64 l, .int .i64 0, .int .i64 0, .int .i64 0, .int .i64 0, .int .i64 0, .int .i64 0, .int .i64 0, .int .i64 0] 56 (0, 0)) := (hb1.block _ hs).trans (at_new (by simp))
  have R : w1.heap[w.heap.size + 1]? = some (.cells #[.int .i64 0, .int .i64 0, .int .i64 0, .int .i64 0, .int .i64 0, .int .i64 0, .int .i64 0, .int .i64 0, .int .i64 0, .int .i64 0, .int .i64 0] 56 (0, 0)) := (hb1.block _ (by omega)).trans (at_old (at_new (by simp)))
  have B0 : Below w.heap.size w w1 := by
    refine Below.trans ?_ (hb1.mono (by simp <;> omega))
    repeat (refine Below.alloc ?_ (by simp <;> omega) _)
    exact Below.refl _ _
  obtain ⟨c0, d0⟩ := eight_at (xs := [.int .i64 k, .int .i64 s, .int .i64 l, .int .i64 0, .int .i64 0, .int .i64 0, .int .i64 0, .int .i64 0, .int .i64 0, .int .i64 0, .int .i64 0]) C 0
  obtain ⟨r0, s0⟩ := eight_at (xs := [.int .i64 0, .int .i64 0, .int .i64 0, .int .i64 0, .int .i64 0, .int .i64 0, .int .i64 0, .int .i64 0, .int .i64 0, .int .i64 0, .int .i64 0]) R 0
  obtain ⟨c1, d1⟩ := eight_at (xs := [.int .i64 k, .int .i64 s, .int .i64 l, .int .i64 0, .int .i64 0, .int .i64 0, .int .i64 0, .int .i64 0, .int .i64 0, .int .i64 0, .int .i64 0]) C 1
  obtain ⟨r1, s1⟩ := eight_at (xs := [.int .i64 0, .int .i64 0, .int .i64 0, .int .i64 0, .int .i64 0, .int .i64 0, .int .i64 0, .int .i64 0, .int .i64 0, .int .i64 0, .int .i64 0]) R 1
  obtain ⟨c2, d2⟩ := eight_at (xs := [.int .i64 k, .int .i64 s, .int .i64 l, .int .i64 0, .int .i64 0, .int .i64 0, .int .i64 0, .int .i64 0, .int .i64 0, .int .i64 0, .int .i64 0]) C 2
  obtain ⟨r2, s2⟩ := eight_at (xs := [.int .i64 0, .int .i64 0, .int .i64 0, .int .i64 0, .int .i64 0, .int .i64 0, .int .i64 0, .int .i64 0, .int .i64 0, .int .i64 0, .int .i64 0]) R 2
  obtain ⟨c3, d3⟩ := eight_at (xs := [.int .i64 k, .int .i64 s, .int .i64 l, .int .i64 0, .int .i64 0, .int .i64 0, .int .i64 0, .int .i64 0, .int .i64 0, .int .i64 0, .int .i64 0]) C 3
  obtain ⟨r3, s3⟩ := eight_at (xs := [.int .i64 0, .int .i64 0, .int .i64 0, .int .i64 0, .int .i64 0, .int .i64 0, .int .i64 0, .int .i64 0, .int .i64 0, .int .i64 0, .int .i64 0]) R 3
  obtain ⟨c4, d4⟩ := eight_at (xs := [.int .i64 k, .int .i64 s, .int .i64 l, .int .i64 0, .int .i64 0, .int .i64 0, .int .i64 0, .int .i64 0, .int .i64 0, .int .i64 0, .int .i64 0]) C 4
  obtain ⟨r4, s4⟩ := eight_at (xs := [.int .i64 0, .int .i64 0, .int .i64 0, .int .i64 0, .int .i64 0, .int .i64 0, .int .i64 0, .int .i64 0, .int .i64 0, .int .i64 0, .int .i64 0]) R 4
  obtain ⟨c5, d5⟩ := eight_at (xs := [.int .i64 k, .int .i64 s, .int .i64 l, .int .i64 0, .int .i64 0, .int .i64 0, .int .i64 0, .int .i64 0, .int .i64 0, .int .i64 0, .int .i64 0]) C 5
  obtain ⟨r5, s5⟩ := eight_at (xs := [.int .i64 0, .int .i64 0, .int .i64 0, .int .i64 0, .int .i64 0, .int .i64 0, .int .i64 0, .int .i64 0, .int .i64 0, .int .i64 0, .int .i64 0]) R 5
  obtain ⟨c6, d6⟩ := eight_at (xs := [.int .i64 k, .int .i64 s, .int .i64 l, .int .i64 0, .int .i64 0, .int .i64 0, .int .i64 0, .int .i64 0, .int .i64 0, .int .i64 0, .int .i64 0]) C 6
  obtain ⟨r6, s6⟩ := eight_at (xs := [.int .i64 0, .int .i64 0, .int .i64 0, .int .i64 0, .int .i64 0, .int .i64 0, .int .i64 0, .int .i64 0, .int .i64 0, .int .i64 0, .int .i64 0]) R 6
  obtain ⟨c7, d7⟩ := eight_at (xs := [.int .i64 k, .int .i64 s, .int .i64 l, .int .i64 0, .int .i64 0, .int .i64 0, .int .i64 0, .int .i64 0, .int .i64 0, .int .i64 0, .int .i64 0]) C 7
  obtain ⟨r7, s7⟩ := eight_at (xs := [.int .i64 0, .int .i64 0, .int .i64 0, .int .i64 0, .int .i64 0, .int .i64 0, .int .i64 0, .int .i64 0, .int .i64 0, .int .i64 0, .int .i64 0]) R 7
  obtain ⟨c8, d8⟩ := eight_at (xs := [.int .i64 k, .int .i64 s, .int .i64 l, .int .i64 0, .int .i64 0, .int .i64 0, .int .i64 0, .int .i64 0, .int .i64 0, .int .i64 0, .int .i64 0]) C 8
  obtain ⟨r8, s8⟩ := eight_at (xs := [.int .i64 0, .int .i64 0, .int .i64 0, .int .i64 0, .int .i64 0, .int .i64 0, .int .i64 0, .int .i64 0, .int .i64 0, .int .i64 0, .int .i64 0]) R 8
  obtain ⟨c9, d9⟩ := eight_at (xs := [.int .i64 k, .int .i64 s, .int .i64 l, .int .i64 0, .int .i64 0, .int .i64 0, .int .i64 0, .int .i64 0, .int .i64 0, .int .i64 0, .int .i64 0]) C 9
  obtain ⟨r9, s9⟩ := eight_at (xs := [.int .i64 0, .int .i64 0, .int .i64 0, .int .i64 0, .int .i64 0, .int .i64 0, .int .i64 0, .int .i64 0, .int .i64 0, .int .i64 0, .int .i64 0]) R 9
  obtain ⟨c10, d10⟩ := eight_at (xs := [.int .i64 k, .int .i64 s, .int .i64 l, .int .i64 0, .int .i64 0, .int .i64 0, .int .i64 0, .int .i64 0, .int .i64 0, .int .i64 0, .int .i64 0]) C 10
  obtain ⟨r10, s10⟩ := eight_at (xs := [.int .i64 0, .int .i64 0, .int .i64 0, .int .i64 0, .int .i64 0, .int .i64 0, .int .i64 0, .int .i64 0, .int .i64 0, .int .i64 0, .int .i64 0]) R 10
  simp only [List.getElem?_cons_zero, List.getElem?_cons_succ] at c0 r0 c1 r1 c2 r2 c3 r3 c4 r4 c5 r5 c6 r6 c7 r7 c8 r8 c9 r9 c10 r10
  have B : Hid (Below w.heap.size w (((((((((((((((((((w1.setCell ⟨w.heap.size + 1 + 1, 3, none⟩ (.int .i64 m0)).setCell ⟨w.heap.size + 1 + 1, 4, none⟩ (.int .i64 m1)).setCell ⟨w.heap.size + 1 + 1, 5, none⟩ (.int .i64 m2)).setCell ⟨w.heap.size + 1 + 1, 6, none⟩ (.int .i64 m3)).setCell ⟨w.heap.size + 1 + 1, 7, none⟩ (.int .i64 m4)).setCell ⟨w.heap.size + 1 + 1, 8, none⟩ (.int .i64 m5)).setCell ⟨w.heap.size + 1 + 1, 9, none⟩ (.int .i64 m6)).setCell ⟨w.heap.size + 1 + 1, 10, none⟩ (.int .i64 m7)).setCell ⟨w.heap.size + 1, 0, none⟩ (.int .i64 k)).setCell ⟨w.heap.size + 1, 1, none⟩ (.int .i64 s)).setCell ⟨w.heap.size + 1, 2, none⟩ (.int .i64 l)).setCell ⟨w.heap.size + 1, 3, none⟩ (.int .i64 m0)).setCell ⟨w.heap.size + 1, 4, none⟩ (.int .i64 m1)).setCell ⟨w.heap.size + 1, 5, none⟩ (.int .i64 m2)).setCell ⟨w.heap.size + 1, 6, none⟩ (.int .i64 m3)).setCell ⟨w.heap.size + 1, 7, none⟩ (.int .i64 m4)).setCell ⟨w.heap.size + 1, 8, none⟩ (.int .i64 m5)).setCell ⟨w.heap.size + 1, 9, none⟩ (.int .i64 m6)).setCell ⟨w.heap.size + 1, 10, none⟩ (.int .i64 m7))) := by
    show Below _ _ _
    repeat (refine Below.setCell ?_ (by simp only; omega) _)
    exact B0
  have F : Hid ((((((((((((((((((((w1.setCell ⟨w.heap.size + 1 + 1, 3, none⟩ (.int .i64 m0)).setCell ⟨w.heap.size + 1 + 1, 4, none⟩ (.int .i64 m1)).setCell ⟨w.heap.size + 1 + 1, 5, none⟩ (.int .i64 m2)).setCell ⟨w.heap.size + 1 + 1, 6, none⟩ (.int .i64 m3)).setCell ⟨w.heap.size + 1 + 1, 7, none⟩ (.int .i64 m4)).setCell ⟨w.heap.size + 1 + 1, 8, none⟩ (.int .i64 m5)).setCell ⟨w.heap.size + 1 + 1, 9, none⟩ (.int .i64 m6)).setCell ⟨w.heap.size + 1 + 1, 10, none⟩ (.int .i64 m7)).setCell ⟨w.heap.size + 1, 0, none⟩ (.int .i64 k)).setCell ⟨w.heap.size + 1, 1, none⟩ (.int .i64 s)).setCell ⟨w.heap.size + 1, 2, none⟩ (.int .i64 l)).setCell ⟨w.heap.size + 1, 3, none⟩ (.int .i64 m0)).setCell ⟨w.heap.size + 1, 4, none⟩ (.int .i64 m1)).setCell ⟨w.heap.size + 1, 5, none⟩ (.int .i64 m2)).setCell ⟨w.heap.size + 1, 6, none⟩ (.int .i64 m3)).setCell ⟨w.heap.size + 1, 7, none⟩ (.int .i64 m4)).setCell ⟨w.heap.size + 1, 8, none⟩ (.int .i64 m5)).setCell ⟨w.heap.size + 1, 9, none⟩ (.int .i64 m6)).setCell ⟨w.heap.size + 1, 10, none⟩ (.int .i64 m7)).heap[w.heap.size + 1]? = some (.cells #[.int .i64 k, .int .i64 s, .int .i64 l, .int .i64 m0, .int .i64 m1, .int .i64 m2, .int .i64 m3, .int .i64 m4, .int .i64 m5, .int .i64 m6, .int .i64 m7] 56 (0, 0))) := by
    show _ = _
    have E0 : ((((((((w1.setCell ⟨w.heap.size + 1 + 1, 3, none⟩ (.int .i64 m0)).setCell ⟨w.heap.size + 1 + 1, 4, none⟩ (.int .i64 m1)).setCell ⟨w.heap.size + 1 + 1, 5, none⟩ (.int .i64 m2)).setCell ⟨w.heap.size + 1 + 1, 6, none⟩ (.int .i64 m3)).setCell ⟨w.heap.size + 1 + 1, 7, none⟩ (.int .i64 m4)).setCell ⟨w.heap.size + 1 + 1, 8, none⟩ (.int .i64 m5)).setCell ⟨w.heap.size + 1 + 1, 9, none⟩ (.int .i64 m6)).setCell ⟨w.heap.size + 1 + 1, 10, none⟩ (.int .i64 m7)).heap[w.heap.size + 1]? = some (.cells ([.int .i64 0, .int .i64 0, .int .i64 0, .int .i64 0, .int .i64 0, .int .i64 0, .int .i64 0, .int .i64 0, .int .i64 0, .int .i64 0, .int .i64 0]).toArray 56 (0, 0)) := by
      repeat rw [Below.heap_setCell _ _ _ _ (by simp only; omega)]
      exact R
    exact (eight_set (eight_set (eight_set (eight_set (eight_set (eight_set (eight_set (eight_set (eight_set (eight_set (eight_set E0 0 _) 1 _) 2 _) 3 _) 4 _) 5 _) 6 _) 7 _) 8 _) 9 _) 10 _)
  clear C R B0 hb1 hs
  go_wp2
  generalize (((((((((((((((((((w1.setCell ⟨w.heap.size + 1 + 1, 3, none⟩ (.int .i64 m0)).setCell ⟨w.heap.size + 1 + 1, 4, none⟩ (.int .i64 m1)).setCell ⟨w.heap.size + 1 + 1, 5, none⟩ (.int .i64 m2)).setCell ⟨w.heap.size + 1 + 1, 6, none⟩ (.int .i64 m3)).setCell ⟨w.heap.size + 1 + 1, 7, none⟩ (.int .i64 m4)).setCell ⟨w.heap.size + 1 + 1, 8, none⟩ (.int .i64 m5)).setCell ⟨w.heap.size + 1 + 1, 9, none⟩ (.int .i64 m6)).setCell ⟨w.heap.size + 1 + 1, 10, none⟩ (.int .i64 m7)).setCell ⟨w.heap.size + 1, 0, none⟩ (.int .i64 k)).setCell ⟨w.heap.size + 1, 1, none⟩ (.int .i64 s)).setCell ⟨w.heap.size + 1, 2, none⟩ (.int .i64 l)).setCell ⟨w.heap.size + 1, 3, none⟩ (.int .i64 m0)).setCell ⟨w.heap.size + 1, 4, none⟩ (.int .i64 m1)).setCell ⟨w.heap.size + 1, 5, none⟩ (.int .i64 m2)).setCell ⟨w.heap.size + 1, 6, none⟩ (.int .i64 m3)).setCell ⟨w.heap.size + 1, 7, none⟩ (.int .i64 m4)).setCell ⟨w.heap.size + 1, 8, none⟩ (.int .i64 m5)).setCell ⟨w.heap.size + 1, 9, none⟩ (.int .i64 m6)).setCell ⟨w.heap.size + 1, 10, none⟩ (.int .i64 m7)) = wz at B F ⊢
  have y0 := (eight_at (xs := [.int .i64 k, .int .i64 s, .int .i64 l, .int .i64 m0, .int .i64 m1, .int .i64 m2, .int .i64 m3, .int .i64 m4, .int .i64 m5, .int .i64 m6, .int .i64 m7]) F.out 0).1
  simp only [List.getElem?_cons_zero] at y0
  have y1 := (eight_at (xs := [.int .i64 k, .int .i64 s, .int .i64 l, .int .i64 m0, .int .i64 m1, .int .i64 m2, .int .i64 m3, .int .i64 m4, .int .i64 m5, .int .i64 m6, .int .i64 m7]) F.out 1).1
  simp only [List.getElem?_cons_zero, List.getElem?_cons_succ] at y1
  have y2 := (eight_at (xs := [.int .i64 k, .int .i64 s, .int .i64 l, .int .i64 m0, .int .i64 m1, .int .i64 m2, .int .i64 m3, .int .i64 m4, .int .i64 m5, .int .i64 m6, .int .i64 m7]) F.out 2).1
  simp only [List.getElem?_cons_zero, List.getElem?_cons_succ] at y2
  have y3 := (eight_at (xs := [.int .i64 k, .int .i64 s, .int .i64 l, .int .i64 m0, .int .i64 m1, .int .i64 m2, .int .i64 m3, .int .i64 m4, .int .i64 m5, .int .i64 m6, .int .i64 m7]) F.out 3).1
  simp only [List.getElem?_cons_zero, List.getElem?_cons_succ] at y3
  have y4 := (eight_at (xs := [.int .i64 k, .int .i64 s, .int .i64 l, .int .i64 m0, .int .i64 m1, .int .i64 m2, .int .i64 m3, .int .i64 m4, .int .i64 m5, .int .i64 m6, .int .i64 m7]) F.out 4).1
  simp only [List.getElem?_cons_zero, List.getElem?_cons_succ] at y4
  have y5 := (eight_at (xs := [.int .i64 k, .int .i64 s, .int .i64 l, .int .i64 m0, .int .i64 m1, .int .i64 m2, .int .i64 m3, .int .i64 m4, .int .i64 m5, .int .i64 m6, .int .i64 m7]) F.out 5).1
  simp only [List.getElem?_cons_zero, List.getElem?_cons_succ] at y5
  have y6 := (eight_at (xs := [.int .i64 k, .int .i64 s, .int .i64 l, .int .i64 m0, .int .i64 m1, .int .i64 m2, .int .i64 m3, .int .i64 m4, .int .i64 m5, .int .i64 m6, .int .i64 m7]) F.out 6).1
  simp only [List.getElem?_cons_zero, List.getElem?_cons_succ] at y6
  have y7 := (eight_at (xs := [.int .i64 k, .int .i64 s, .int .i64 l, .int .i64 m0, .int .i64 m1, .int .i64 m2, .int .i64 m3, .int .i64 m4, .int .i64 m5, .int .i64 m6, .int .i64 m7]) F.out 7).1
  simp only [List.getElem?_cons_zero, List.getElem?_cons_succ] at y7
  have y8 := (eight_at (xs := [.int .i64 k, .int .i64 s, .int .i64 l, .int .i64 m0, .int .i64 m1, .int .i64 m2, .int .i64 m3, .int .i64 m4, .int .i64 m5, .int .i64 m6, .int .i64 m7]) F.out 8).1
  simp only [List.getElem?_cons_zero, List.getElem?_cons_succ] at y8
  have y9 := (eight_at (xs := [.int .i64 k, .int .i64 s, .int .i64 l, .int .i64 m0, .int .i64 m1, .int .i64 m2, .int .i64 m3, .int .i64 m4, .int .i64 m5, .int .i64 m6, .int .i64 m7]) F.out 9).1
  simp only [List.getElem?_cons_zero, List.getElem?_cons_succ] at y9
  have y10 := (eight_at (xs := [.int .i64 k, .int .i64 s, .int .i64 l, .int .i64 m0, .int .i64 m1, .int .i64 m2, .int .i64 m3, .int .i64 m4, .int .i64 m5, .int .i64 m6, .int .i64 m7]) F.out 10).1
  simp only [List.getElem?_cons_zero, List.getElem?_cons_succ] at y10
  refine bodyPost_ret (v := .agg #[.int .i64 k, .int .i64 s, .int .i64 l, .int .i64 m0, .int .i64 m1, .int .i64 m2, .int .i64 m3, .int .i64 m4, .int .i64 m5, .int .i64 m6, .int .i64 m7]) (by simp [results, Tryd.results28, go_sem, y0, y1, y2, y3, y4, y5, y6, y7, y8, y9, y10]) rfl ?_
  exact ⟨rfl, B.out⟩
end Go.Proofs.YtfcjhhiekjbbiaaDoor
