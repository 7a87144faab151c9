/- An inode that is right, by the program. -/
import Derived.Test.YtihmihkhkmadmaaDoorPiA
namespace Go.Proofs.YtihmihkhkmadmaaDoor
open Go.RowKit
theorem mapHead (w : World) (b n : Nat) (hn : n ≤ 8) : (Instr.sliceAt 72 (.pointer (some ⟨b, 3, none⟩)) none (some (.int .i64 (n : Int))) none).run Tryd.prog w = .ok (.slice (some ⟨b, 3, none⟩) n 8) w := by
  have al : Tryd.prog.arrayLen 72 = 8 := by kernel_rfl
  rw [run_sliceAt_array_h w 72 ⟨b, 3, none⟩ (by kernel_rfl) .i64 (n : Int) (by omega) (by rw [al]; omega), al]
  have sz : (sizeOf (Tryd.prog.elem 72)).run Tryd.prog w = .ok 1 w := by kernel_rfl
  rw [sz]
  simp [Result.andThen, slicedAt, Addr.add]
theorem mapTail (w : World) (b n : Nat) (hn : n ≤ 8) : (Instr.sliceAt 72 (.pointer (some ⟨b, 3, none⟩)) (some (.int .i64 (n : Int))) none none).run Tryd.prog w = .ok (.slice (some (if n = 8 then ⟨b, 3, none⟩ else ⟨b, 3 + n, none⟩)) (8 - n) (8 - n)) w := by
  have al : Tryd.prog.arrayLen 72 = 8 := by kernel_rfl
  rw [run_sliceAt_array_l w 72 ⟨b, 3, none⟩ (by kernel_rfl) .i64 (n : Int) (by omega) (by rw [al]; omega), al]
  have sz : (sizeOf (Tryd.prog.elem 72)).run Tryd.prog w = .ok 1 w := by kernel_rfl
  rw [sz]
  by_cases h : n = 8
  · subst h
    simp [Result.andThen, slicedAt]
  · have h' : ¬ 8 = n := by omega
    simp only [Result.andThen, slicedAt]
    rw [if_neg (by omega), if_neg h]
    simp [Addr.add]
theorem Ino.cs_map (x : Ino) (k : Nat) (hk : k < 8) : x.cs[3 + k]? = some (.int .i64 (x.map[k]'(by rw [x.len]; exact hk))) := by
  rcases (show k = 0 ∨ k = 1 ∨ k = 2 ∨ k = 3 ∨ k = 4 ∨ k = 5 ∨ k = 6 ∨ k = 7 by omega) with rfl | rfl | rfl | rfl | rfl | rfl | rfl | rfl <;> rfl
theorem map_head {x : Ino} {w : World} {b n : Nat} (hn : n ≤ 8) (hb : b < w.heap.size) (h : ∀ j, w.cell? ⟨b, j, none⟩ = x.cs[j]?) : RdI w (.slice (some ⟨b, 3, none⟩) n 8) (x.map.take n) := by
  have hl : (x.map.take n).length = n := by rw [List.length_take, x.len]; omega
  refine ⟨by rw [ints_len, Nat.mul_one], some ⟨b, 3, none⟩, 8, by rw [hl], ⟨by omega, fun e => by cases e⟩, fun _ => ⟨b, 3, rfl, hb, fun j hj => ?_⟩⟩
  rw [hl, Nat.mul_one] at hj
  rw [h, x.cs_map j (by omega), ints_at _ _ (by omega), List.getElem_take]
theorem map_tail {x : Ino} {w : World} {b n : Nat} (hn : n ≤ 8) (hb : b < w.heap.size) (h : ∀ j, w.cell? ⟨b, j, none⟩ = x.cs[j]?) : RdI w (.slice (some (if n = 8 then ⟨b, 3, none⟩ else ⟨b, 3 + n, none⟩)) (8 - n) (8 - n)) (x.map.drop n) := by
  have hl : (x.map.drop n).length = 8 - n := by rw [List.length_drop, x.len]
  refine ⟨by rw [ints_len, Nat.mul_one], some (if n = 8 then ⟨b, 3, none⟩ else ⟨b, 3 + n, none⟩), 8 - n, by rw [hl], ⟨by omega, fun e => by cases e⟩, fun hp => ?_⟩
  rw [hl] at hp
  refine ⟨b, 3 + n, by rw [if_neg (by omega)], hb, fun j hj => ?_⟩
  rw [hl, Nat.mul_one] at hj
  rw [h, Nat.add_assoc, x.cs_map (n + j) (by omega), ints_at _ _ (by omega), List.getElem_drop]
theorem Ino.R.at' {x : Ino} (h : x.R) (k : Nat) (hk : k < x.map.length) : -9223372036854775808 ≤ x.map[k] ∧ x.map[k] ≤ 9223372036854775807 := h _ (List.getElem_mem _)
set_option maxRecDepth 100000 in
set_option maxHeartbeats 2000000 in
theorem isFile_any (x : Ino) (w : World) (hT : TS w) (hr : x.R) : Calls Tryd.prog 94 #[x.v] w fun e w' => e = .returned (.bool (fileB x)) ∧ Below w.heap.size w w' := by
  have hv : x.v = .agg x.cs.toArray := rfl
  obtain ⟨W, hW⟩ : ∃ W, W = w.alloc (.cells x.cs.toArray 74) := ⟨_, rfl⟩
  have CA : Hid (∀ j, W.cell? ⟨w.heap.size, j, none⟩ = x.cs[j]?) := fun j => by rw [hW]; exact (eight_at (xs := x.cs) (at_new rfl) j).1
  have BW : Hid (Below w.heap.size w W) := by rw [hW]; exact (Below.refl _ _).alloc (Nat.le_refl _) _
  have T : Hid (TS W) := hT.below BW.out
  have hWz : w.heap.size < W.heap.size := by rw [hW]; simp
  have c0 : W.cell? ⟨w.heap.size, 0, none⟩ = some (.int .i64 x.kind) := CA.out 0
  have c1 : W.cell? ⟨w.heap.size, 1, none⟩ = some (.int .i64 x.size) := CA.out 1
  have c2 : W.cell? ⟨w.heap.size, 2, none⟩ = some (.int .i64 x.links) := CA.out 2
  have HR := hideIt hr
  subst hW
  rw [hv]
  clear hT hr
  by_cases h0 : x.kind = 1
  case neg =>
    have E := hideIt (show fileB x = false by unfold fileB; rw [decide_eq_false h0]; rfl)
    have q : (x.kind != 1) = true := by rw [bne_iff_ne]; exact h0
    go_enter Tryd.func94, Tryd.ntmps94
    go_wp2
    go_ret
    exact ⟨ret_bool E.out.symm, BW.out⟩
  have q : (x.kind != 1) = false := by rw [h0]; rfl
  by_cases h1 : 1 ≤ x.links
  case neg =>
    have E := hideIt (show fileB x = false by unfold fileB; rw [decide_eq_true h0, decide_eq_false (show ¬ (1 ≤ x.links ∧ x.links ≤ 24) by omega)]; rfl)
    have q2 : x.links < 1 := by omega
    go_enter Tryd.func94, Tryd.ntmps94
    go_wp2
    go_ret
    exact ⟨ret_bool E.out.symm, BW.out⟩
  have q2 : ¬ x.links < 1 := by omega
  by_cases h2 : x.links ≤ 24
  case neg =>
    have E := hideIt (show fileB x = false by unfold fileB; rw [decide_eq_true h0, decide_eq_false (show ¬ (1 ≤ x.links ∧ x.links ≤ 24) by omega)]; rfl)
    have q3 : 24 < x.links := by omega
    go_enter Tryd.func94, Tryd.ntmps94
    go_wp2
    go_ret
    exact ⟨ret_bool E.out.symm, BW.out⟩
  have q3 : ¬ 24 < x.links := by omega
  by_cases h3 : 0 ≤ x.size ∧ x.size < 9
  case neg =>
    have E := hideIt (show fileB x = false by unfold fileB; rw [decide_eq_true h0, decide_eq_true (show 1 ≤ x.links ∧ x.links ≤ 24 by omega), decide_eq_false h3]; rfl)
    have H3 := hideIt h3
    clear h3
    go_enter Tryd.func94, Tryd.ntmps94
    go_wp2_with (go_at_call 93; refine (isIndex_no _ _ _ H3.out).mono ?_; rintro e w' ⟨rfl, rfl⟩)
    go_ret
    exact ⟨ret_bool E.out.symm, BW.out⟩
  have E := hideIt (show fileB x = (tiesB (x.map.take x.size.toNat) && nowsB (x.map.drop x.size.toNat)) by unfold fileB; rw [decide_eq_true h0, decide_eq_true (show 1 ≤ x.links ∧ x.links ≤ 24 by omega), decide_eq_true h3]; rfl)
  obtain ⟨n, hn⟩ : ∃ n : Nat, x.size = (n : Int) := ⟨x.size.toNat, by omega⟩
  have hn8 : n ≤ 8 := by omega
  rw [show x.size.toNat = n by omega] at E
  rw [hn] at c1 h3
  have R1 := hideIt (map_head (x := x) hn8 hWz CA.out)
  have R2 := hideIt (map_tail (x := x) hn8 hWz CA.out)
  have s1 := mapHead (w.alloc (.cells x.cs.toArray 74)) w.heap.size n hn8
  have s2 := mapTail (w.alloc (.cells x.cs.toArray 74)) w.heap.size n hn8
  have L1 := hideIt (show (x.map.take n).length ≤ 2147483648 by rw [List.length_take]; omega)
  have L2 := hideIt (show (x.map.drop n).length ≤ 2147483648 by rw [List.length_drop, x.len]; omega)
  have RR := hideIt (show ∀ k (h : k < (x.map.take n).length), -9223372036854775808 ≤ (x.map.take n)[k] ∧ (x.map.take n)[k] ≤ 9223372036854775807 from fun k h => by rw [List.getElem_take]; exact HR.out.at' k _)
  have H3 := hideIt h3
  generalize (if n = 8 then (⟨w.heap.size, 3, none⟩ : Addr) else ⟨w.heap.size, 3 + n, none⟩) = aT at s2 R2
  cases hq : tiesB (x.map.take n) with
  | false =>
    have TQ := hideIt hq
    rw [hq] at E
    clear h3 hn hq
    go_enter Tryd.func94, Tryd.ntmps94
    go_wp2_with fail
    refine (isIndex_yes _ _ _ H3.out).mono ?_
    rintro e w' ⟨rfl, rfl⟩
    go_wp2_with fail
    refine (everyEntry_any _ _ _ R1.out L1.out T.out RR.out).mono ?_
    rw [TQ.out]
    rintro e w' ⟨rfl, rfl⟩
    go_wp2
    go_ret
    exact ⟨ret_bool (by rw [E.out]; rfl), BW.out⟩
  | true =>
    have TQ := hideIt hq
    rw [hq] at E
    clear h3 hn hq
    go_enter Tryd.func94, Tryd.ntmps94
    go_wp2_with fail
    refine (isIndex_yes _ _ _ H3.out).mono ?_
    rintro e w' ⟨rfl, rfl⟩
    go_wp2_with fail
    refine (everyEntry_any _ _ _ R1.out L1.out T.out RR.out).mono ?_
    rw [TQ.out]
    rintro e w' ⟨rfl, rfl⟩
    go_wp2_with fail
    refine (everyNowhere_any _ _ _ R2.out L2.out).mono ?_
    rintro e w' ⟨rfl, rfl⟩
    go_wp2
    go_ret
    exact ⟨ret_bool (by rw [E.out]; rfl), BW.out⟩
end Go.Proofs.YtihmihkhkmadmaaDoor
