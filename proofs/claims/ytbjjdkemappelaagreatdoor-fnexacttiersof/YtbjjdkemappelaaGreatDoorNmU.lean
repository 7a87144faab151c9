/- A word's name: by the program, and by the model. -/
import Derived.Test.YtbjjdkemappelaaGreatDoorZAF
import Derived.Test.YtbjjdkemappelaaGreatDoorWt
namespace Go.Proofs.YtbjjdkemappelaaGreatDoor
open Go.RowKit
def arrD (ds : List Nat) (j : Nat) : Value := if j < 6 - ds.length then .int .u8 0 else .int .u8 (96 + ((ds[j - (6 - ds.length)]?.getD 0 : Nat) : Int))
theorem arrD_nil (j : Nat) (h : j < 6) : arrD [] j = .int .u8 0 := by unfold arrD; rw [if_pos (by simpa using h)]
theorem arrD_cons (d : Nat) (ds : List Nat) (h : ds.length < 6) (j : Nat) : (if j = 6 - ds.length - 1 then Value.int .u8 (96 + (d : Int)) else arrD ds j) = arrD (d :: ds) j := by
  unfold arrD
  by_cases e : j = 6 - ds.length - 1
  · subst e
    rw [if_pos rfl, if_neg (by simp only [List.length_cons]; omega)]
    simp only [List.length_cons]
    rw [show 6 - ds.length - 1 - (6 - (ds.length + 1)) = 0 by omega]
    rfl
  · rw [if_neg e]
    simp only [List.length_cons]
    by_cases e2 : j < 6 - ds.length
    · rw [if_pos e2, if_pos (by omega)]
    · rw [if_neg e2, if_neg (by omega), show j - (6 - (ds.length + 1)) = (j - (6 - ds.length)) + 1 by omega]
      rfl
theorem strOf_digs (ds : List Nat) : strOfNums (ds.map fun d => (96 : Int) + (d : Nat)) = bytesOf ds := by
  unfold strOfNums bytesOf
  rw [List.map_map]
  congr 2
theorem slice6 (w : World) (b l : Nat) (h1 : 1 ≤ l) (h6 : l ≤ 6) : (Instr.sliceAt 208 (.pointer (some ⟨b, 0, none⟩)) (some (.int .i64 (6 - (l : Int)))) none none).run Tryz.prog w = .ok (.slice (some ⟨b, 6 - l, none⟩) l l) w := by
  have al : Tryz.prog.arrayLen 208 = 6 := by kernel_rfl
  rw [run_sliceAt_array_l w 208 ⟨b, 0, none⟩ (by kernel_rfl) .i64 (6 - (l : Int)) (by omega) (by rw [al]; omega), al]
  have sz : (sizeOf (Tryz.prog.elem 208)).run Tryz.prog w = .ok 1 w := by kernel_rfl
  rw [sz]
  simp only [Result.andThen, slicedAt]
  rw [if_neg (by omega), show (6 - (l : Int)).toNat = 6 - l by omega, show 6 - (6 - l) = l by omega, Nat.mul_one]
  simp [Addr.add]
  omega
set_option maxRecDepth 100000 in
set_option maxHeartbeats 4000000 in
theorem implUnpackName_any (n : Int) (w : World) (hn : n ≤ 9223372036854775807) : Calls Tryz.prog 153 #[.int .i64 n] w fun e w' => e = .returned (.tuple #[.string (unpS n), .int .i64 (unpC n)]) ∧ Below w.heap.size w w' := by
  by_cases c0 : n < 1
  · have E := hideIt (unp_bad (unp_low (n := n) (by omega)))
    go_enter Tryz.func153, Tryz.ntmps153
    go_wp2
    go_ret2
    exact ⟨ret_si E.out.1.symm E.out.2.symm, Below.refl _ _⟩
  obtain ⟨N, rfl⟩ := Int.eq_ofNat_of_zero_le (show 0 ≤ n by omega)
  have START : Hid ((w.alloc (.cells #[.int .u8 0, .int .u8 0, .int .u8 0, .int .u8 0, .int .u8 0, .int .u8 0] 208)).rowIs w.heap.size 208 6 (arrD [])) := by
    refine World.rowIs_alloc w #[.int .u8 0, .int .u8 0, .int .u8 0, .int .u8 0, .int .u8 0, .int .u8 0] 208 (arrD []) (fun i hi => ?_)
    have hi' : i < 6 := hi
    rw [arrD_nil i hi']
    rcases (show i = 0 ∨ i = 1 ∨ i = 2 ∨ i = 3 ∨ i = 4 ∨ i = 5 by omega) with rfl | rfl | rfl | rfl | rfl | rfl <;> rfl
  have BH : Hid (Below w.heap.size w (w.alloc (.cells #[.int .u8 0, .int .u8 0, .int .u8 0, .int .u8 0, .int .u8 0, .int .u8 0] 208))) := (Below.refl _ _).alloc (Nat.le_refl _) _
  go_enter Tryz.func153, Tryz.ntmps153
  go_wp2
  go_loopw [0, 5, 6] (fun x f _ wr => ∃ (m : Nat) (ds : List Nat), x = .int .i64 (m : Int) ∧ f = .int .i64 (6 - (ds.length : Int)) ∧ m ≤ N ∧ ds.length ≤ 6 ∧ Hid (Dg N m ds) ∧ Hid (wr.rowIs w.heap.size 208 6 (arrD ds)) ∧ Hid (Below w.heap.size w wr)) (fun x _ _ _ => (intOf x).toNat)
  case atStart => exact ⟨N, [], rfl, rfl, Nat.le_refl _, by simp, Dg.start N, START.out, BH.out⟩
  case round =>
    obtain ⟨m, ds, rfl, rfl, hm, hl, D, R, B⟩ := hrel
    by_cases c1 : 0 < m
    · have m0 : (0 : Int) < (m : Int) := by omega
      by_cases c2 : m % 27 = 0
      · have E := hideIt (unp_bad (unp_zero D.out c1 c2))
        have c2' : ((m : Int) % 27 == 0) = true := by rw [beq_iff_eq]; omega
        go_wp2
        go_ret2
        exact ⟨ret_si E.out.1.symm E.out.2.symm, B.out⟩
      · have c2' : ((m : Int) % 27 == 0) = false := by rw [beq_eq_false_iff_ne]; omega
        by_cases c3 : 6 ≤ ds.length
        · have E := hideIt (unp_bad (unp_many D.out c1 c3))
          have c3' : ((6 : Int) - (ds.length : Int) == 0) = true := by rw [beq_iff_eq]; omega
          go_wp2
          go_ret2
          exact ⟨ret_si E.out.1.symm E.out.2.symm, B.out⟩
        · have c3' : ((6 : Int) - (ds.length : Int) == 0) = false := by rw [beq_eq_false_iff_ne]; omega
          have D2 := hideIt (D.out.step c1 c2)
          have g0 := R.out.frozen (6 - ds.length - 1)
          have g1 := R.out.cell (show 6 - ds.length - 1 < 6 by omega)
          generalize hv : arrD ds (6 - ds.length - 1) = v0 at g1
          have ev : (97 + (m : Int) % 27 - 1) = 96 + ((m % 27 : Nat) : Int) := by omega
          have R2 : Hid ((wr.setCell ⟨w.heap.size, 6 - ds.length - 1, none⟩ (.int .u8 (97 + (m : Int) % 27 - 1))).rowIs w.heap.size 208 6 (arrD (m % 27 :: ds))) := by
            rw [ev]
            exact (R.out.set (6 - ds.length - 1) (.int .u8 (96 + ((m % 27 : Nat) : Int)))).congr (fun j _ => arrD_cons (m % 27) ds (by omega) j)
          have B2 : Hid (Below w.heap.size w (wr.setCell ⟨w.heap.size, 6 - ds.length - 1, none⟩ (.int .u8 (97 + (m : Int) % 27 - 1)))) := B.out.setCell (by simp only; omega) _
          clear ev
          clear hv
          go_wp2
          go_roundw
          case rel => exact ⟨m / 27, m % 27 :: ds, by go_num, by go_num, by omega, by simp; omega, D2.out, R2.out, B2.out⟩
          case measure => simp [intOf]; omega
    · obtain rfl : m = 0 := by omega
      have E := hideIt (unp_done D.out (by omega) hl)
      have hconv := fun cap => run_convert_bytes_arg (P := Tryz.prog) wr 200 5 Tryz.underlying200 Tryz.underlying5 w.heap.size (6 - ds.length) ds.length cap (ds.map fun d => (96 : Int) + (d : Nat)) (by simp) (fun i hi => by
        rw [R.out.cell (show 6 - ds.length + i < 6 by omega)]
        unfold arrD
        rw [if_neg (by omega), show 6 - ds.length + i - (6 - ds.length) = i by omega]
        simp [List.getD, hi]) 9 Tryz.underlying9
      rw [strOf_digs] at hconv
      have l1 : 1 ≤ ds.length := by
        have := digs_ne (n := N) (by omega)
        rw [D.out.done] at this
        exact this
      have hsl := slice6 wr w.heap.size ds.length l1 hl
      have hcv := hconv ds.length
      clear hconv
      go_wp2
      go_ret2
      exact ⟨ret_si E.out.1.symm E.out.2.symm, B.out⟩
set_option maxRecDepth 100000 in
set_option maxHeartbeats 4000000 in
theorem l03Unpack_any (n : Int) (w : World) (hn : n ≤ 9223372036854775807) : Calls Tryz.prog 128 #[.int .i64 n] w fun e w' => (∃ s, e = .returned (.tuple #[.string s, .bool (goodN n)]) ∧ (goodN n = true → s = unpS n)) ∧ Below w.heap.size w w' := by
  obtain ⟨N, hN, hN2, hN3⟩ : ∃ N : Nat, (0 < n → n = (N : Int)) ∧ (¬ 0 < n → N = 0) ∧ N ≤ 9223372036854775807 := ⟨n.toNat, fun h => by omega, fun h => by omega, by omega⟩
  have hdl : (digs N).length ≤ 14 := digs_len 14 N (by omega)
  go_enter Tryz.func128, Tryz.ntmps128
  go_wp2
  go_loopw [0, 4, 5] (fun x o _ wr => ∃ (y : Int) (ds : List Nat), x = .int .i64 y ∧ o = .string (bytesOf ds) ∧ y ≤ 9223372036854775807 ∧ Hid ((0 < n → ∃ m : Nat, y = (m : Int) ∧ Dg N m ds) ∧ (¬ 0 < n → ¬ 0 < y ∧ ds = [])) ∧ Hid (Below w.heap.size w wr)) (fun x _ _ _ => (intOf x).toNat)
  case atStart => exact ⟨n, [], rfl, rfl, hn, ⟨fun h => ⟨N, hN h, Dg.start N⟩, fun h => ⟨h, rfl⟩⟩, Below.refl _ _⟩
  case round =>
    obtain ⟨y, ds, rfl, rfl, hy, D, B⟩ := hrel
    by_cases c1 : 0 < y
    · have hp : 0 < n := by
        rcases Decidable.em (0 < n) with h | h
        · exact h
        · exact absurd c1 (D.out.2 h).1
      obtain ⟨m, rfl, D1⟩ := D.out.1 hp
      have D0 := hideIt D1
      clear D D1
      by_cases c2 : m % 27 = 0
      · have E : Hid (goodN n = false) := by
          rw [hN hp]
          exact unp_zero D0.out (by omega) c2
        have c2' : ((m : Int) % 27 == 0) = true := by rw [beq_iff_eq]; omega
        go_wp2
        go_ret2
        exact ⟨⟨_, ret_sb rfl E.out.symm, fun h => by rw [E.out] at h; cases h⟩, B.out⟩
      · have c2' : ((m : Int) % 27 == 0) = false := by rw [beq_eq_false_iff_ne]; omega
        have D2 := hideIt (D0.out.step (by omega) c2)
        have hl14 : ds.length ≤ 14 := Nat.le_trans D0.out.len hdl
        have hcv := run_convert_bytes_arg (P := Tryz.prog) (wr.alloc (.cells #[.int .u8 (97 + (m : Int) % 27 - 1)] 5)) 200 5 Tryz.underlying200 Tryz.underlying5 wr.heap.size 0 1 1 [97 + (m : Int) % 27 - 1] rfl (fun i hi => by
          obtain rfl : i = 0 := by omega
          exact World.cell?_alloc_mark wr #[.int .u8 (97 + (m : Int) % 27 - 1)] 5 (0, 0) 0) 9 Tryz.underlying9
        have eb : strOfNums [97 + (m : Int) % 27 - 1] = ⟨#[UInt8.ofNat (96 + m % 27)]⟩ := by
          unfold strOfNums
          simp only [List.map_cons, List.map_nil]
          rw [show (97 + (m : Int) % 27 - 1).toNat = 96 + m % 27 by omega]
        rw [eb] at hcv
        have had := run_string_add_sum (P := Tryz.prog) (wr.alloc (.cells #[.int .u8 (97 + (m : Int) % 27 - 1)] 5)) ⟨#[UInt8.ofNat (96 + m % 27)]⟩ (bytesOf ds) (by rw [bytesOf_size]; show 1 + _ ≤ _; omega)
        rw [bytesOf_cons] at had
        have B2 : Hid (Below w.heap.size w (wr.alloc (.cells #[.int .u8 (97 + (m : Int) % 27 - 1)] 5))) := B.out.alloc B.out.size _
        clear eb
        generalize hbb : (⟨#[UInt8.ofNat (96 + m % 27)]⟩ : ByteArray) = bb at hcv had
        clear hbb
        go_wp2
        go_roundw
        case rel => exact ⟨(m : Int) / 27, m % 27 :: ds, rfl, rfl, by omega, ⟨fun _ => ⟨m / 27, by omega, D2.out⟩, fun h => absurd hp h⟩, B2.out⟩
        case measure => simp [intOf]; omega
    · have LEN : Hid (ds.length ≤ 14 ∧ nmB (bytesOf ds) = goodN n ∧ (goodN n = true → bytesOf ds = unpS n)) := by
        rcases Decidable.em (0 < n) with hp | hp
        · obtain ⟨m, em, D1⟩ := D.out.1 hp
          obtain rfl : m = 0 := by omega
          have en := hN hp
          have hl := D1.len
          have hd := D1.done
          refine ⟨by omega, ?_, fun h => ?_⟩
          · by_cases c6 : ds.length ≤ 6
            · have h1 : 1 ≤ ds.length := by rw [← hd]; exact digs_ne (by omega)
              rw [nmB_bytesOf D1.ok h1 c6, en]
              exact (decide_eq_true ⟨by omega, by rw [Int.toNat_natCast, hd]; exact fun d x => (D1.ok d x).1, by rw [Int.toNat_natCast, hd]; exact c6⟩).symm
            · rw [nmB_long (by rw [bytesOf_size]; omega), en]
              exact (decide_eq_false (fun x => by have := x.2.2; rw [Int.toNat_natCast, hd] at this; omega)).symm
          · unfold unpS
            rw [if_pos h, en, Int.toNat_natCast, hd]
        · obtain ⟨_, rfl⟩ := D.out.2 hp
          refine ⟨by simp, ?_, fun h => ?_⟩
          · rw [nmB_short (by rw [bytesOf_size]; simp), unp_low hp]
          · rw [unp_low hp] at h; cases h
      have hsz : (bytesOf ds).size ≤ maxLen := by
        have := LEN.out.1
        rw [bytesOf_size]
        unfold maxLen
        omega
      go_wp2_with (go_at_call 149; refine (l03Name_any _ _ hsz).mono ?_; rintro e w' ⟨rfl, rfl⟩)
      go_ret2
      exact ⟨⟨_, ret_sb rfl LEN.out.2.1, LEN.out.2.2⟩, B.out⟩
end Go.Proofs.YtbjjdkemappelaaGreatDoor
