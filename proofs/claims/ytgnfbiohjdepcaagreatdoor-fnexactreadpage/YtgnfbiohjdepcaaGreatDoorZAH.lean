/- Several texts laid together: PiB, PiG, PiD. -/
import Derived.Test.YtgnfbiohjdepcaaGreatDoorZAG
import Derived.Test.YtgnfbiohjdepcaaGreatDoorZAF
import Derived.Test.YtgnfbiohjdepcaaGreatDoorZAD
import Derived.Test.YtgnfbiohjdepcaaGreatDoorZAE
import Derived.Laws.CopyRow
import Derived.Laws.CopyOwn
namespace Go.Proofs.YtgnfbiohjdepcaaGreatDoor
open Go.RowKit
theorem mapHead (w : World) (b n : Nat) (hn : n ≤ 8) : (Instr.sliceAt 68 (.pointer (some ⟨b, 3, none⟩)) none (some (.int .i64 (n : Int))) none).run Tryz.prog w = .ok (.slice (some ⟨b, 3, none⟩) n 8) w := by
  have al : Tryz.prog.arrayLen 68 = 8 := by kernel_rfl
  rw [run_sliceAt_array_h w 68 ⟨b, 3, none⟩ (by kernel_rfl) .i64 (n : Int) (by omega) (by rw [al]; omega), al]
  have sz : (sizeOf (Tryz.prog.elem 68)).run Tryz.prog w = .ok 1 w := by kernel_rfl
  rw [sz]
  simp [Result.andThen, slicedAt, Addr.add]
theorem mapTail (w : World) (b n : Nat) (hn : n ≤ 8) : (Instr.sliceAt 68 (.pointer (some ⟨b, 3, none⟩)) (some (.int .i64 (n : Int))) none none).run Tryz.prog w = .ok (.slice (some (if n = 8 then ⟨b, 3, none⟩ else ⟨b, 3 + n, none⟩)) (8 - n) (8 - n)) w := by
  have al : Tryz.prog.arrayLen 68 = 8 := by kernel_rfl
  rw [run_sliceAt_array_l w 68 ⟨b, 3, none⟩ (by kernel_rfl) .i64 (n : Int) (by omega) (by rw [al]; omega), al]
  have sz : (sizeOf (Tryz.prog.elem 68)).run Tryz.prog w = .ok 1 w := by kernel_rfl
  rw [sz]
  by_cases h : n = 8
  · subst h
    simp [Result.andThen, slicedAt]
  · have h' : ¬ 8 = n := by omega
    simp only [Result.andThen, slicedAt]
    rw [if_neg (by omega), if_neg h]
    simp [Addr.add]
theorem Ino.cs_map (x : Ino) (k : Nat) (hk : k < 8) : x.cs[3 + k]? = some (.int .i64 (x.map[k]'(by rw [x.len]; exact hk))) := by
  rcases (show k = 0 ∨ k = 1 ∨ k = 2 ∨ k = 3 ∨ k = 4 ∨ k = 5 ∨ k = 6 ∨ k = 7 by omega) with rfl | rfl | rfl | rfl | rfl | rfl | rfl | rfl <;> rfl
theorem map_head {x : Ino} {w : World} {b n : Nat} (hn : n ≤ 8) (hb : b < w.heap.size) (h : ∀ j, w.cell? ⟨b, j, none⟩ = x.cs[j]?) : RdI w (.slice (some ⟨b, 3, none⟩) n 8) (x.map.take n) := by
  have hl : (x.map.take n).length = n := by rw [List.length_take, x.len]; omega
  refine ⟨by rw [ints_len, Nat.mul_one], some ⟨b, 3, none⟩, 8, by rw [hl], ⟨by omega, fun e => by cases e⟩, fun _ => ⟨b, 3, rfl, hb, fun j hj => ?_⟩⟩
  rw [hl, Nat.mul_one] at hj
  rw [h, x.cs_map j (by omega), ints_at _ _ (by omega), List.getElem_take]
theorem map_tail {x : Ino} {w : World} {b n : Nat} (hn : n ≤ 8) (hb : b < w.heap.size) (h : ∀ j, w.cell? ⟨b, j, none⟩ = x.cs[j]?) : RdI w (.slice (some (if n = 8 then ⟨b, 3, none⟩ else ⟨b, 3 + n, none⟩)) (8 - n) (8 - n)) (x.map.drop n) := by
  have hl : (x.map.drop n).length = 8 - n := by rw [List.length_drop, x.len]
  refine ⟨by rw [ints_len, Nat.mul_one], some (if n = 8 then ⟨b, 3, none⟩ else ⟨b, 3 + n, none⟩), 8 - n, by rw [hl], ⟨by omega, fun e => by cases e⟩, fun hp => ?_⟩
  rw [hl] at hp
  refine ⟨b, 3 + n, by rw [if_neg (by omega)], hb, fun j hj => ?_⟩
  rw [hl, Nat.mul_one] at hj
  rw [h, Nat.add_assoc, x.cs_map (n + j) (by omega), ints_at _ _ (by omega), List.getElem_drop]
theorem Ino.R.at' {x : Ino} (h : x.R) (k : Nat) (hk : k < x.map.length) : -9223372036854775808 ≤ x.map[k] ∧ x.map[k] ≤ 9223372036854775807 := h _ (List.getElem_mem _)
set_option maxRecDepth 100000 in
set_option maxHeartbeats 2000000 in
theorem isFile_any (x : Ino) (w : World) (hT : TS w) (hr : x.R) : Calls Tryz.prog 167 #[x.v] w fun e w' => e = .returned (.bool (fileB x)) ∧ Below w.heap.size w w' := by
  have hv : x.v = .agg x.cs.toArray := rfl
  obtain ⟨W, hW⟩ : ∃ W, W = w.alloc (.cells x.cs.toArray 70) := ⟨_, rfl⟩
  have CA : Hid (∀ j, W.cell? ⟨w.heap.size, j, none⟩ = x.cs[j]?) := fun j => by rw [hW]; exact (eight_at (xs := x.cs) (at_new rfl) j).1
  have BW : Hid (Below w.heap.size w W) := by rw [hW]; exact (Below.refl _ _).alloc (Nat.le_refl _) _
  have T : Hid (TS W) := hT.below BW.out
  have hWz : w.heap.size < W.heap.size := by rw [hW]; simp
  have c0 : W.cell? ⟨w.heap.size, 0, none⟩ = some (.int .i64 x.kind) := CA.out 0
  have c1 : W.cell? ⟨w.heap.size, 1, none⟩ = some (.int .i64 x.size) := CA.out 1
  have c2 : W.cell? ⟨w.heap.size, 2, none⟩ = some (.int .i64 x.links) := CA.out 2
  have HR := hideIt hr
  subst hW
  rw [hv]
  clear hT hr
  by_cases h0 : x.kind = 1
  case neg =>
    have E := hideIt (show fileB x = false by unfold fileB; rw [decide_eq_false h0]; rfl)
    have q : (x.kind != 1) = true := by rw [bne_iff_ne]; exact h0
    go_enter Tryz.func167, Tryz.ntmps167
    go_wp2
    go_ret
    exact ⟨ret_bool E.out.symm, BW.out⟩
  have q : (x.kind != 1) = false := by rw [h0]; rfl
  by_cases h1 : 1 ≤ x.links
  case neg =>
    have E := hideIt (show fileB x = false by unfold fileB; rw [decide_eq_true h0, decide_eq_false (show ¬ (1 ≤ x.links ∧ x.links ≤ 24) by omega)]; rfl)
    have q2 : x.links < 1 := by omega
    go_enter Tryz.func167, Tryz.ntmps167
    go_wp2
    go_ret
    exact ⟨ret_bool E.out.symm, BW.out⟩
  have q2 : ¬ x.links < 1 := by omega
  by_cases h2 : x.links ≤ 24
  case neg =>
    have E := hideIt (show fileB x = false by unfold fileB; rw [decide_eq_true h0, decide_eq_false (show ¬ (1 ≤ x.links ∧ x.links ≤ 24) by omega)]; rfl)
    have q3 : 24 < x.links := by omega
    go_enter Tryz.func167, Tryz.ntmps167
    go_wp2
    go_ret
    exact ⟨ret_bool E.out.symm, BW.out⟩
  have q3 : ¬ 24 < x.links := by omega
  by_cases h3 : 0 ≤ x.size ∧ x.size < 9
  case neg =>
    have E := hideIt (show fileB x = false by unfold fileB; rw [decide_eq_true h0, decide_eq_true (show 1 ≤ x.links ∧ x.links ≤ 24 by omega), decide_eq_false h3]; rfl)
    have H3 := hideIt h3
    clear h3
    go_enter Tryz.func167, Tryz.ntmps167
    go_wp2_with (go_at_call 57; refine (isIndex_no _ _ _ H3.out).mono ?_; rintro e w' ⟨rfl, rfl⟩)
    go_ret
    exact ⟨ret_bool E.out.symm, BW.out⟩
  have E := hideIt (show fileB x = (tiesB (x.map.take x.size.toNat) && nowsB (x.map.drop x.size.toNat)) by unfold fileB; rw [decide_eq_true h0, decide_eq_true (show 1 ≤ x.links ∧ x.links ≤ 24 by omega), decide_eq_true h3]; rfl)
  obtain ⟨n, hn⟩ : ∃ n : Nat, x.size = (n : Int) := ⟨x.size.toNat, by omega⟩
  have hn8 : n ≤ 8 := by omega
  rw [show x.size.toNat = n by omega] at E
  rw [hn] at c1 h3
  have R1 := hideIt (map_head (x := x) hn8 hWz CA.out)
  have R2 := hideIt (map_tail (x := x) hn8 hWz CA.out)
  have s1 := mapHead (w.alloc (.cells x.cs.toArray 70)) w.heap.size n hn8
  have s2 := mapTail (w.alloc (.cells x.cs.toArray 70)) w.heap.size n hn8
  have L1 := hideIt (show (x.map.take n).length ≤ 2147483648 by rw [List.length_take]; omega)
  have L2 := hideIt (show (x.map.drop n).length ≤ 2147483648 by rw [List.length_drop, x.len]; omega)
  have RR := hideIt (show ∀ k (h : k < (x.map.take n).length), -9223372036854775808 ≤ (x.map.take n)[k] ∧ (x.map.take n)[k] ≤ 9223372036854775807 from fun k h => by rw [List.getElem_take]; exact HR.out.at' k _)
  have H3 := hideIt h3
  generalize (if n = 8 then (⟨w.heap.size, 3, none⟩ : Addr) else ⟨w.heap.size, 3 + n, none⟩) = aT at s2 R2
  cases hq : tiesB (x.map.take n) with
  | false =>
    have TQ := hideIt hq
    rw [hq] at E
    clear h3 hn hq
    go_enter Tryz.func167, Tryz.ntmps167
    go_wp2_with fail
    refine (isIndex_yes _ _ _ H3.out).mono ?_
    rintro e w' ⟨rfl, rfl⟩
    go_wp2_with fail
    refine (everyEntry_any _ _ _ R1.out L1.out T.out RR.out).mono ?_
    rw [TQ.out]
    rintro e w' ⟨rfl, rfl⟩
    go_wp2
    go_ret
    exact ⟨ret_bool (by rw [E.out]; rfl), BW.out⟩
  | true =>
    have TQ := hideIt hq
    rw [hq] at E
    clear h3 hn hq
    go_enter Tryz.func167, Tryz.ntmps167
    go_wp2_with fail
    refine (isIndex_yes _ _ _ H3.out).mono ?_
    rintro e w' ⟨rfl, rfl⟩
    go_wp2_with fail
    refine (everyEntry_any _ _ _ R1.out L1.out T.out RR.out).mono ?_
    rw [TQ.out]
    rintro e w' ⟨rfl, rfl⟩
    go_wp2_with fail
    refine (everyNowhere_any _ _ _ R2.out L2.out).mono ?_
    rintro e w' ⟨rfl, rfl⟩
    go_wp2
    go_ret
    exact ⟨ret_bool (by rw [E.out]; rfl), BW.out⟩
end Go.Proofs.YtgnfbiohjdepcaaGreatDoor

namespace Go.Proofs.YtgnfbiohjdepcaaGreatDoor
open Go.RowKit
theorem has_at {zs : List Int} {n : Int} {k : Nat} (hk : k < zs.length) (h : n = zs[k]) : hasB zs n = true := by
  unfold hasB
  rw [List.contains_eq_any_beq, List.any_eq_true]
  exact ⟨zs[k], List.getElem_mem _, by rw [h]; simp⟩
set_option maxHeartbeats 2000000 in
theorem indexInt_any (v : Value) (zs : List Int) (n : Int) (w : World) (h : RdI w v zs) (hn : zs.length ≤ 1048576) :
    Calls Tryz.prog 161 #[v, .int .i64 n] w fun e w' => ∃ r : Int, e = .returned (.int .i64 r) ∧ (decide (0 ≤ r) = hasB zs n) ∧ w' = w := by
  obtain ⟨aZ, cZ, rfl, _, hcZ⟩ := h.shape
  have HZ := hideIt hcZ
  clear h hcZ
  go_enter Tryz.func161, Tryz.ntmps161
  go_wp2
  go_loop [5, 8] (fun _ i => ∃ k : Nat, k ≤ zs.length ∧ i = .int .i64 k ∧ Hid (∀ j (h : j < zs.length), j < k → ¬ zs[j] = n)) (fun _ i => zs.length - (intOf i).toNat)
  case atStart => exact ⟨0, by omega, rfl, fun j h a => absurd a (by omega)⟩
  case round =>
    obtain ⟨k, hk, rfl, H⟩ := hrel
    by_cases hlt : k < zs.length
    · obtain ⟨b, o, rfl, hbl, hcell⟩ := HZ.out (by omega)
      have hck := hcell k hlt
      clear hcell
      by_cases q : n = zs[k]
      · have q' : (n == zs[k]) = true := by rw [beq_iff_eq]; exact q
        have E := hideIt (has_at hlt q)
        clear q H
        generalize zs[k] = z at *
        go_wp2
        go_ret
        exact ⟨_, rfl, by rw [E.out]; exact decide_eq_true (by omega), rfl⟩
      · have q' : (n == zs[k]) = false := by rw [beq_eq_false_iff_ne]; exact q
        have H' : Hid (∀ j (h : j < zs.length), j < k + 1 → ¬ zs[j] = n) := fun j h a => by
          by_cases e : j = k
          · subst e; exact fun e => q e.symm
          · exact H.out j h (by omega)
        clear q H
        generalize zs[k] = z at hck q'
        go_wp2
        go_round
        case rel => exact ⟨k + 1, by omega, by go_num, H'⟩
        case measure => simp [intOf]; omega
    · have E := hideIt (has_not (fun j h => H.out j h (by omega)))
      clear H
      go_wp2
      go_ret
      exact ⟨_, rfl, by rw [E.out]; rfl, rfl⟩
theorem containsInt_any (v : Value) (zs : List Int) (n : Int) (w : World) (h : RdI w v zs) (hn : zs.length ≤ 1048576) :
    Calls Tryz.prog 142 #[v, .int .i64 n] w fun e w' => e = .returned (.bool (hasB zs n)) ∧ w' = w := by
  have HZ := hideIt h
  obtain ⟨aZ, cZ, rfl, _, _⟩ := h.shape
  clear h
  go_enter Tryz.func142, Tryz.ntmps142
  go_wp2_with fail
  refine (indexInt_any _ zs n _ HZ.out hn).mono ?_
  rintro e w' ⟨r, rfl, hr, hw'⟩
  subst w'
  have R := hideIt hr
  clear hr
  go_wp2
  go_ret
  exact ⟨ret_bool R.out, rfl⟩
theorem Rd.take {w : World} {size : Nat} {ao : Option Addr} {n c : Nat} {xs : List Value} {m : Nat} (h : Rd w size (.slice ao n c) n xs) (hm : m ≤ n) : Rd w size (.slice ao m c) m (xs.take (m * size)) := by
  obtain ⟨h1, ao', cap, e, h2, h3⟩ := h
  cases e
  have hms : m * size ≤ n * size := Nat.mul_le_mul_right _ hm
  refine ⟨by rw [List.length_take, h1]; omega, ao, c, rfl, ⟨by omega, h2.2⟩, fun hp => ?_⟩
  obtain ⟨b, o, e1, e2, e3⟩ := h3 (by omega)
  exact ⟨b, o, e1, e2, fun j hj => by rw [e3 j (by omega), List.getElem?_take, if_pos hj]⟩
theorem RdI.take {w : World} {ao : Option Addr} {c : Nat} {zs : List Int} {m : Nat} (h : RdI w (.slice ao zs.length c) zs) (hm : m ≤ zs.length) : RdI w (.slice ao m c) (zs.take m) := by
  have := Rd.take h hm
  unfold RdI
  have e : (zs.take m).length = m := by rw [List.length_take]; omega
  have e2 : ints (zs.take m) = (ints zs).take (m * 1) := by rw [Nat.mul_one]; simp [ints, List.map_take]
  rw [e, e2]
  exact this
def onceB (zs : List Int) : Bool := decide (∀ k (h : k < zs.length), hasB (zs.take k) zs[k] = false)
theorem onceB_mk {zs : List Int} (h : ∀ k (h : k < zs.length), hasB (zs.take k) zs[k] = false) : onceB zs = true := decide_eq_true h
theorem onceB_not {zs : List Int} {k : Nat} (hk : k < zs.length) (h : hasB (zs.take k) zs[k] = true) : onceB zs = false := decide_eq_false (fun x => by have := x k hk; rw [h] at this; cases this)
set_option maxHeartbeats 2000000 in
theorem noneTwiceInt_any (v : Value) (zs : List Int) (w : World) (h : RdI w v zs) (hn : zs.length ≤ 1048576) :
    Calls Tryz.prog 139 #[v] w fun e w' => e = .returned (.bool (onceB zs)) ∧ w' = w := by
  have HR := hideIt h
  obtain ⟨aZ, cZ, rfl, hcap, hcZ⟩ := h.shape
  have HZ := hideIt hcZ
  clear h hcZ
  go_enter Tryz.func139, Tryz.ntmps139
  go_wp2
  go_loop [3, 4, 7] (fun _ _ i => ∃ k : Nat, k ≤ zs.length ∧ i = .int .i64 k ∧ Hid (∀ j (h : j < zs.length), j < k → hasB (zs.take j) zs[j] = false)) (fun _ _ i => zs.length - (intOf i).toNat)
  case atStart => exact ⟨0, by omega, rfl, fun j h a => absurd a (by omega)⟩
  case round =>
    obtain ⟨k, hk, rfl, H⟩ := hrel
    by_cases hlt : k < zs.length
    · obtain ⟨b, o, rfl, hbl, hcell⟩ := HZ.out (by omega)
      have hck := hcell k hlt
      have RT := hideIt (RdI.take HR.out hk)
      have LT := hideIt (show (zs.take k).length ≤ 1048576 by rw [List.length_take]; omega)
      clear hcell
      cases q : hasB (zs.take k) zs[k] with
      | false =>
        have H' : Hid (∀ j (h : j < zs.length), j < k + 1 → hasB (zs.take j) zs[j] = false) := fun j h a => by
          by_cases e : j = k
          · subst e; exact q
          · exact H.out j h (by omega)
        have Q := hideIt q
        clear q H
        generalize zs[k] = z at hck Q
        go_wp2_with (go_at_call 142; refine (containsInt_any _ (zs.take k) z _ RT.out LT.out).mono ?_; rw [Q.out]; rintro e w' ⟨rfl, rfl⟩)
        go_round
        case rel => exact ⟨k + 1, by omega, by go_num, H'⟩
        case measure => simp [intOf]; omega
      | true =>
        have E := hideIt (onceB_not hlt q)
        have Q := hideIt q
        clear q H
        generalize zs[k] = z at hck Q
        go_wp2_with (go_at_call 142; refine (containsInt_any _ (zs.take k) z _ RT.out LT.out).mono ?_; rw [Q.out]; rintro e w' ⟨rfl, rfl⟩)
        go_ret
        exact ⟨ret_bool E.out.symm, rfl⟩
    · have E := hideIt (onceB_mk (fun j h => H.out j h (by omega)))
      clear H
      go_wp2
      go_ret
      exact ⟨ret_bool E.out.symm, rfl⟩
end Go.Proofs.YtgnfbiohjdepcaaGreatDoor

namespace Go.Proofs.YtgnfbiohjdepcaaGreatDoor
open Go.RowKit
set_option maxRecDepth 100000 in
set_option maxHeartbeats 2000000 in
theorem eq8 (a0 a1 a2 a3 a4 a5 a6 a7 b0 b1 b2 b3 b4 b5 b6 b7 : Int) (w : World) : (Op.equalIn 9999 68 (.agg #[.int .i64 a0, .int .i64 a1, .int .i64 a2, .int .i64 a3, .int .i64 a4, .int .i64 a5, .int .i64 a6, .int .i64 a7]) (.agg #[.int .i64 b0, .int .i64 b1, .int .i64 b2, .int .i64 b3, .int .i64 b4, .int .i64 b5, .int .i64 b6, .int .i64 b7])).run Tryz.prog w = .ok (decide ([a0, a1, a2, a3, a4, a5, a6, a7] = [b0, b1, b2, b3, b4, b5, b6, b7])) w := by
  have U3 := Tryz.underlying3
  have A3 := Tryz.isAgg3
  have Z3 := Tryz.sizeOf3
  rw [show (9999 : Nat) = 9998 + 1 from rfl, Op.equalIn]
  simp only [Sem.run_bind, run_underlying Tryz.underlying68, Result.andThen_ok]
  simp only [Std.Legacy.Range.forIn_eq_forIn_range', Std.Legacy.Range.size, Nat.sub_zero, Nat.add_sub_cancel, Nat.div_one, List.range'_succ, List.range'_zero, List.forIn_cons, List.forIn_nil]
  go_simp
  by_cases h0 : a0 = b0
  case neg => simp [h0]
  by_cases h1 : a1 = b1
  case neg => simp [h0, h1]
  by_cases h2 : a2 = b2
  case neg => simp [h0, h1, h2]
  by_cases h3 : a3 = b3
  case neg => simp [h0, h1, h2, h3]
  by_cases h4 : a4 = b4
  case neg => simp [h0, h1, h2, h3, h4]
  by_cases h5 : a5 = b5
  case neg => simp [h0, h1, h2, h3, h4, h5]
  by_cases h6 : a6 = b6
  case neg => simp [h0, h1, h2, h3, h4, h5, h6]
  by_cases h7 : a7 = b7
  case neg => simp [h0, h1, h2, h3, h4, h5, h6, h7]
  simp [h0, h1, h2, h3, h4, h5, h6, h7]
def inoEq (xs ys : List Int) : Bool := decide (xs = ys)
theorem inoEq_t {xs ys : List Int} (h : xs = ys) : inoEq xs ys = true := decide_eq_true h
theorem inoEq_f {xs ys : List Int} (h : ¬ xs = ys) : inoEq xs ys = false := decide_eq_false h
set_option maxRecDepth 100000 in
set_option maxHeartbeats 4000000 in
@[go_sem ↓] theorem eqIno (k s l a0 a1 a2 a3 a4 a5 a6 a7 k' s' l' b0 b1 b2 b3 b4 b5 b6 b7 : Int) (w : World) : (Op.equalIn 10000 70 (.agg #[.int .i64 k, .int .i64 s, .int .i64 l, .int .i64 a0, .int .i64 a1, .int .i64 a2, .int .i64 a3, .int .i64 a4, .int .i64 a5, .int .i64 a6, .int .i64 a7]) (.agg #[.int .i64 k', .int .i64 s', .int .i64 l', .int .i64 b0, .int .i64 b1, .int .i64 b2, .int .i64 b3, .int .i64 b4, .int .i64 b5, .int .i64 b6, .int .i64 b7])).run Tryz.prog w = .ok (inoEq [k, s, l, a0, a1, a2, a3, a4, a5, a6, a7] [k', s', l', b0, b1, b2, b3, b4, b5, b6, b7]) w := by
  have e8 := eq8 a0 a1 a2 a3 a4 a5 a6 a7 b0 b1 b2 b3 b4 b5 b6 b7 w
  unfold inoEq
  by_cases g0 : k = k'
  case neg => go_simp
  by_cases g1 : s = s'
  case neg => go_simp
  by_cases g2 : l = l'
  case neg => go_simp
  subst g0 g1 g2
  go_simp
  split
  · rename_i h
    rw [h]
  · rename_i h
    rw [Bool.not_eq_false] at h
    rw [h]
set_option maxRecDepth 100000 in
set_option maxHeartbeats 2000000 in
theorem isInode_any (x : Ino) (w : World) (hT : TS w) (hE : ED w) (hr : x.R) : Calls Tryz.prog 155 #[x.v] w fun e w' => e = .returned (.bool (inoB x)) ∧ Below w.heap.size w w' := by
  have hv : x.v = .agg x.cs.toArray := rfl
  have BW : Hid (Below w.heap.size w (w.alloc (.cells x.cs.toArray 70))) := (Below.refl _ _).alloc (Nat.le_refl _) _
  have CA : Hid (∀ j, (w.alloc (.cells x.cs.toArray 70)).cell? ⟨w.heap.size, j, none⟩ = x.cs[j]?) := fun j => (eight_at (xs := x.cs) (at_new rfl) j).1
  have T : Hid (TS (w.alloc (.cells x.cs.toArray 70))) := hT.below BW.out
  obtain ⟨d0, d1, d2, d3, d4, d5, d6, d7, d8, d9, d10⟩ := ED.cells (hE.below BW.out)
  obtain ⟨p0, p1, p2, p3, p4, p5, p6, p7, p8, p9, p10⟩ := Ino.all CA.out
  have LF := hideIt (fun w1 (h : TS w1) => isFile_any x w1 h hr)
  rw [hv]
  clear hT hE hr CA
  by_cases h0 : x.ns = [0, 0, 0, 0, 0, 0, 0, 0, 0, 0, 0]
  · have E := hideIt (ino_empty h0)
    have q1 : inoEq [x.kind, x.size, x.links, x.m0, x.m1, x.m2, x.m3, x.m4, x.m5, x.m6, x.m7] [0, 0, 0, 0, 0, 0, 0, 0, 0, 0, 0] = true := inoEq_t h0
    clear h0
    go_enter Tryz.func155, Tryz.ntmps155
    go_wp2
    go_ret
    exact ⟨ret_bool E.out.symm, BW.out⟩
  have q1 : inoEq [x.kind, x.size, x.links, x.m0, x.m1, x.m2, x.m3, x.m4, x.m5, x.m6, x.m7] [0, 0, 0, 0, 0, 0, 0, 0, 0, 0, 0] = false := inoEq_f h0
  by_cases h1 : x.ns = [2, 0, 1, 0, 0, 0, 0, 0, 0, 0, 0]
  · have E := hideIt (ino_dir h1)
    have q2 : inoEq [x.kind, x.size, x.links, x.m0, x.m1, x.m2, x.m3, x.m4, x.m5, x.m6, x.m7] [2, 0, 1, 0, 0, 0, 0, 0, 0, 0, 0] = true := inoEq_t h1
    clear h0 h1
    go_enter Tryz.func155, Tryz.ntmps155
    go_wp2
    go_ret
    exact ⟨ret_bool E.out.symm, BW.out⟩
  have q2 : inoEq [x.kind, x.size, x.links, x.m0, x.m1, x.m2, x.m3, x.m4, x.m5, x.m6, x.m7] [2, 0, 1, 0, 0, 0, 0, 0, 0, 0, 0] = false := inoEq_f h1
  have E := hideIt (ino_file h0 h1)
  clear h0 h1
  go_enter Tryz.func155, Tryz.ntmps155
  go_wp2_with fail
  refine (LF.out _ T.out).mono ?_
  rw [E.out]
  rintro e w1 ⟨rfl, hb1⟩
  have B1 := hideIt (below_trans BW.out hb1 BW.out.size)
  clear hb1
  go_wp2
  go_ret
  exact ⟨rfl, B1.out⟩
end Go.Proofs.YtgnfbiohjdepcaaGreatDoor
