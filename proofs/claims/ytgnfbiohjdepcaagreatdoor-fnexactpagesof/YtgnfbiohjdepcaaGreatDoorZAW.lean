/- Several texts laid together: NmU, RdA, IgG, IgH, Draw, CrashS. -/
import Derived.Test.YtgnfbiohjdepcaaGreatDoorZAE
import Derived.Test.YtgnfbiohjdepcaaGreatDoorZAC
import Derived.Test.YtgnfbiohjdepcaaGreatDoorZAV
import Derived.Test.YtgnfbiohjdepcaaGreatDoorZAP
import Derived.Test.YtgnfbiohjdepcaaGreatDoorZAB
import Derived.Test.YtgnfbiohjdepcaaGreatDoorZAT
import Derived.BigRegion
import Derived.BigQuiet
import Derived.Deep.QuietTactic
import Derived.Test.YtgnfbiohjdepcaaGreatDoorZAG
import Derived.Deep.DeepCutAuto
import Derived.Deep.RegionLaw
namespace Go.Proofs.YtgnfbiohjdepcaaGreatDoor
open Go.RowKit
def arrD (ds : List Nat) (j : Nat) : Value := if j < 6 - ds.length then .int .u8 0 else .int .u8 (96 + ((ds[j - (6 - ds.length)]?.getD 0 : Nat) : Int))
theorem arrD_nil (j : Nat) (h : j < 6) : arrD [] j = .int .u8 0 := by unfold arrD; rw [if_pos (by simpa using h)]
theorem arrD_cons (d : Nat) (ds : List Nat) (h : ds.length < 6) (j : Nat) : (if j = 6 - ds.length - 1 then Value.int .u8 (96 + (d : Int)) else arrD ds j) = arrD (d :: ds) j := by
  unfold arrD
  by_cases e : j = 6 - ds.length - 1
  · subst e
    rw [if_pos rfl, if_neg (by simp only [List.length_cons]; omega)]
    simp only [List.length_cons]
    rw [show 6 - ds.length - 1 - (6 - (ds.length + 1)) = 0 by omega]
    rfl
  · rw [if_neg e]
    simp only [List.length_cons]
    by_cases e2 : j < 6 - ds.length
    · rw [if_pos e2, if_pos (by omega)]
    · rw [if_neg e2, if_neg (by omega), show j - (6 - (ds.length + 1)) = (j - (6 - ds.length)) + 1 by omega]
      rfl
theorem strOf_digs (ds : List Nat) : strOfNums (ds.map fun d => (96 : Int) + (d : Nat)) = bytesOf ds := by
  unfold strOfNums bytesOf
  rw [List.map_map]
  congr 2
theorem slice6 (w : World) (b l : Nat) (h1 : 1 ≤ l) (h6 : l ≤ 6) : (Instr.sliceAt 190 (.pointer (some ⟨b, 0, none⟩)) (some (.int .i64 (6 - (l : Int)))) none none).run Tryz.prog w = .ok (.slice (some ⟨b, 6 - l, none⟩) l l) w := by
  have al : Tryz.prog.arrayLen 190 = 6 := by kernel_rfl
  rw [run_sliceAt_array_l w 190 ⟨b, 0, none⟩ (by kernel_rfl) .i64 (6 - (l : Int)) (by omega) (by rw [al]; omega), al]
  have sz : (sizeOf (Tryz.prog.elem 190)).run Tryz.prog w = .ok 1 w := by kernel_rfl
  rw [sz]
  simp only [Result.andThen, slicedAt]
  rw [if_neg (by omega), show (6 - (l : Int)).toNat = 6 - l by omega, show 6 - (6 - l) = l by omega, Nat.mul_one]
  simp [Addr.add]
  omega
set_option maxRecDepth 100000 in
set_option maxHeartbeats 4000000 in
theorem implUnpackName_any (n : Int) (w : World) (hn : n ≤ 9223372036854775807) : Calls Tryz.prog 132 #[.int .i64 n] w fun e w' => e = .returned (.tuple #[.string (unpS n), .int .i64 (unpC n)]) ∧ Below w.heap.size w w' := by
  by_cases c0 : n < 1
  · have E := hideIt (unp_bad (unp_low (n := n) (by omega)))
    go_enter Tryz.func132, Tryz.ntmps132
    go_wp2
    go_ret2
    exact ⟨ret_si E.out.1.symm E.out.2.symm, Below.refl _ _⟩
  obtain ⟨N, rfl⟩ := Int.eq_ofNat_of_zero_le (show 0 ≤ n by omega)
  have START : Hid ((w.alloc (.cells #[.int .u8 0, .int .u8 0, .int .u8 0, .int .u8 0, .int .u8 0, .int .u8 0] 190)).rowIs w.heap.size 190 6 (arrD [])) := by
    refine World.rowIs_alloc w #[.int .u8 0, .int .u8 0, .int .u8 0, .int .u8 0, .int .u8 0, .int .u8 0] 190 (arrD []) (fun i hi => ?_)
    have hi' : i < 6 := hi
    rw [arrD_nil i hi']
    rcases (show i = 0 ∨ i = 1 ∨ i = 2 ∨ i = 3 ∨ i = 4 ∨ i = 5 by omega) with rfl | rfl | rfl | rfl | rfl | rfl <;> rfl
  have BH : Hid (Below w.heap.size w (w.alloc (.cells #[.int .u8 0, .int .u8 0, .int .u8 0, .int .u8 0, .int .u8 0, .int .u8 0] 190))) := (Below.refl _ _).alloc (Nat.le_refl _) _
  go_enter Tryz.func132, Tryz.ntmps132
  go_wp2
  go_loopw [0, 5, 6] (fun x f _ wr => ∃ (m : Nat) (ds : List Nat), x = .int .i64 (m : Int) ∧ f = .int .i64 (6 - (ds.length : Int)) ∧ m ≤ N ∧ ds.length ≤ 6 ∧ Hid (Dg N m ds) ∧ Hid (wr.rowIs w.heap.size 190 6 (arrD ds)) ∧ Hid (Below w.heap.size w wr)) (fun x _ _ _ => (intOf x).toNat)
  case atStart => exact ⟨N, [], rfl, rfl, Nat.le_refl _, by simp, Dg.start N, START.out, BH.out⟩
  case round =>
    obtain ⟨m, ds, rfl, rfl, hm, hl, D, R, B⟩ := hrel
    by_cases c1 : 0 < m
    · have m0 : (0 : Int) < (m : Int) := by omega
      by_cases c2 : m % 27 = 0
      · have E := hideIt (unp_bad (unp_zero D.out c1 c2))
        have c2' : ((m : Int) % 27 == 0) = true := by rw [beq_iff_eq]; omega
        go_wp2
        go_ret2
        exact ⟨ret_si E.out.1.symm E.out.2.symm, B.out⟩
      · have c2' : ((m : Int) % 27 == 0) = false := by rw [beq_eq_false_iff_ne]; omega
        by_cases c3 : 6 ≤ ds.length
        · have E := hideIt (unp_bad (unp_many D.out c1 c3))
          have c3' : ((6 : Int) - (ds.length : Int) == 0) = true := by rw [beq_iff_eq]; omega
          go_wp2
          go_ret2
          exact ⟨ret_si E.out.1.symm E.out.2.symm, B.out⟩
        · have c3' : ((6 : Int) - (ds.length : Int) == 0) = false := by rw [beq_eq_false_iff_ne]; omega
          have D2 := hideIt (D.out.step c1 c2)
          have g0 := R.out.frozen (6 - ds.length - 1)
          have g1 := R.out.cell (show 6 - ds.length - 1 < 6 by omega)
          generalize hv : arrD ds (6 - ds.length - 1) = v0 at g1
          have ev : (97 + (m : Int) % 27 - 1) = 96 + ((m % 27 : Nat) : Int) := by omega
          have R2 : Hid ((wr.setCell ⟨w.heap.size, 6 - ds.length - 1, none⟩ (.int .u8 (97 + (m : Int) % 27 - 1))).rowIs w.heap.size 190 6 (arrD (m % 27 :: ds))) := by
            rw [ev]
            exact (R.out.set (6 - ds.length - 1) (.int .u8 (96 + ((m % 27 : Nat) : Int)))).congr (fun j _ => arrD_cons (m % 27) ds (by omega) j)
          have B2 : Hid (Below w.heap.size w (wr.setCell ⟨w.heap.size, 6 - ds.length - 1, none⟩ (.int .u8 (97 + (m : Int) % 27 - 1)))) := B.out.setCell (by simp only; omega) _
          clear ev
          clear hv
          go_wp2
          go_roundw
          case rel => exact ⟨m / 27, m % 27 :: ds, by go_num, by go_num, by omega, by simp; omega, D2.out, R2.out, B2.out⟩
          case measure => simp [intOf]; omega
    · obtain rfl : m = 0 := by omega
      have E := hideIt (unp_done D.out (by omega) hl)
      have hconv := fun cap => run_convert_bytes_arg (P := Tryz.prog) wr 186 5 Tryz.underlying186 Tryz.underlying5 w.heap.size (6 - ds.length) ds.length cap (ds.map fun d => (96 : Int) + (d : Nat)) (by simp) (fun i hi => by
        rw [R.out.cell (show 6 - ds.length + i < 6 by omega)]
        unfold arrD
        rw [if_neg (by omega), show 6 - ds.length + i - (6 - ds.length) = i by omega]
        simp [List.getD, hi]) 9 Tryz.underlying9
      rw [strOf_digs] at hconv
      have l1 : 1 ≤ ds.length := by
        have := digs_ne (n := N) (by omega)
        rw [D.out.done] at this
        exact this
      have hsl := slice6 wr w.heap.size ds.length l1 hl
      have hcv := hconv ds.length
      clear hconv
      go_wp2
      go_ret2
      exact ⟨ret_si E.out.1.symm E.out.2.symm, B.out⟩
set_option maxRecDepth 100000 in
set_option maxHeartbeats 4000000 in
theorem l03Unpack_any (n : Int) (w : World) (hn : n ≤ 9223372036854775807) : Calls Tryz.prog 125 #[.int .i64 n] w fun e w' => (∃ s, e = .returned (.tuple #[.string s, .bool (goodN n)]) ∧ (goodN n = true → s = unpS n)) ∧ Below w.heap.size w w' := by
  obtain ⟨N, hN, hN2, hN3⟩ : ∃ N : Nat, (0 < n → n = (N : Int)) ∧ (¬ 0 < n → N = 0) ∧ N ≤ 9223372036854775807 := ⟨n.toNat, fun h => by omega, fun h => by omega, by omega⟩
  have hdl : (digs N).length ≤ 14 := digs_len 14 N (by omega)
  go_enter Tryz.func125, Tryz.ntmps125
  go_wp2
  go_loopw [0, 4, 5] (fun x o _ wr => ∃ (y : Int) (ds : List Nat), x = .int .i64 y ∧ o = .string (bytesOf ds) ∧ y ≤ 9223372036854775807 ∧ Hid ((0 < n → ∃ m : Nat, y = (m : Int) ∧ Dg N m ds) ∧ (¬ 0 < n → ¬ 0 < y ∧ ds = [])) ∧ Hid (Below w.heap.size w wr)) (fun x _ _ _ => (intOf x).toNat)
  case atStart => exact ⟨n, [], rfl, rfl, hn, ⟨fun h => ⟨N, hN h, Dg.start N⟩, fun h => ⟨h, rfl⟩⟩, Below.refl _ _⟩
  case round =>
    obtain ⟨y, ds, rfl, rfl, hy, D, B⟩ := hrel
    by_cases c1 : 0 < y
    · have hp : 0 < n := by
        rcases Decidable.em (0 < n) with h | h
        · exact h
        · exact absurd c1 (D.out.2 h).1
      obtain ⟨m, rfl, D1⟩ := D.out.1 hp
      have D0 := hideIt D1
      clear D D1
      by_cases c2 : m % 27 = 0
      · have E : Hid (goodN n = false) := by
          rw [hN hp]
          exact unp_zero D0.out (by omega) c2
        have c2' : ((m : Int) % 27 == 0) = true := by rw [beq_iff_eq]; omega
        go_wp2
        go_ret2
        exact ⟨⟨_, ret_sb rfl E.out.symm, fun h => by rw [E.out] at h; cases h⟩, B.out⟩
      · have c2' : ((m : Int) % 27 == 0) = false := by rw [beq_eq_false_iff_ne]; omega
        have D2 := hideIt (D0.out.step (by omega) c2)
        have hl14 : ds.length ≤ 14 := Nat.le_trans D0.out.len hdl
        have hcv := run_convert_bytes_arg (P := Tryz.prog) (wr.alloc (.cells #[.int .u8 (97 + (m : Int) % 27 - 1)] 5)) 186 5 Tryz.underlying186 Tryz.underlying5 wr.heap.size 0 1 1 [97 + (m : Int) % 27 - 1] rfl (fun i hi => by
          obtain rfl : i = 0 := by omega
          exact World.cell?_alloc_mark wr #[.int .u8 (97 + (m : Int) % 27 - 1)] 5 (0, 0) 0) 9 Tryz.underlying9
        have eb : strOfNums [97 + (m : Int) % 27 - 1] = ⟨#[UInt8.ofNat (96 + m % 27)]⟩ := by
          unfold strOfNums
          simp only [List.map_cons, List.map_nil]
          rw [show (97 + (m : Int) % 27 - 1).toNat = 96 + m % 27 by omega]
        rw [eb] at hcv
        have had := run_string_add_sum (P := Tryz.prog) (wr.alloc (.cells #[.int .u8 (97 + (m : Int) % 27 - 1)] 5)) ⟨#[UInt8.ofNat (96 + m % 27)]⟩ (bytesOf ds) (by rw [bytesOf_size]; show 1 + _ ≤ _; omega)
        rw [bytesOf_cons] at had
        have B2 : Hid (Below w.heap.size w (wr.alloc (.cells #[.int .u8 (97 + (m : Int) % 27 - 1)] 5))) := B.out.alloc B.out.size _
        clear eb
        generalize hbb : (⟨#[UInt8.ofNat (96 + m % 27)]⟩ : ByteArray) = bb at hcv had
        clear hbb
        go_wp2
        go_roundw
        case rel => exact ⟨(m : Int) / 27, m % 27 :: ds, rfl, rfl, by omega, ⟨fun _ => ⟨m / 27, by omega, D2.out⟩, fun h => absurd hp h⟩, B2.out⟩
        case measure => simp [intOf]; omega
    · have LEN : Hid (ds.length ≤ 14 ∧ nmB (bytesOf ds) = goodN n ∧ (goodN n = true → bytesOf ds = unpS n)) := by
        rcases Decidable.em (0 < n) with hp | hp
        · obtain ⟨m, em, D1⟩ := D.out.1 hp
          obtain rfl : m = 0 := by omega
          have en := hN hp
          have hl := D1.len
          have hd := D1.done
          refine ⟨by omega, ?_, fun h => ?_⟩
          · by_cases c6 : ds.length ≤ 6
            · have h1 : 1 ≤ ds.length := by rw [← hd]; exact digs_ne (by omega)
              rw [nmB_bytesOf D1.ok h1 c6, en]
              exact (decide_eq_true ⟨by omega, by rw [Int.toNat_natCast, hd]; exact fun d x => (D1.ok d x).1, by rw [Int.toNat_natCast, hd]; exact c6⟩).symm
            · rw [nmB_long (by rw [bytesOf_size]; omega), en]
              exact (decide_eq_false (fun x => by have := x.2.2; rw [Int.toNat_natCast, hd] at this; omega)).symm
          · unfold unpS
            rw [if_pos h, en, Int.toNat_natCast, hd]
        · obtain ⟨_, rfl⟩ := D.out.2 hp
          refine ⟨by simp, ?_, fun h => ?_⟩
          · rw [nmB_short (by rw [bytesOf_size]; simp), unp_low hp]
          · rw [unp_low hp] at h; cases h
      have hsz : (bytesOf ds).size ≤ maxLen := by
        have := LEN.out.1
        rw [bytesOf_size]
        unfold maxLen
        omega
      go_wp2_with (go_at_call 146; refine (l03Name_any _ _ hsz).mono ?_; rintro e w' ⟨rfl, rfl⟩)
      go_ret2
      exact ⟨⟨_, ret_sb rfl LEN.out.2.1, LEN.out.2.2⟩, B.out⟩
end Go.Proofs.YtgnfbiohjdepcaaGreatDoor

namespace Go.Proofs.YtgnfbiohjdepcaaGreatDoor
open Go.RowKit
def wdI (ls : List Int) (z : Int) : Int := ls.getD z.toNat 0
theorem wdI_of {ls : List Int} {n : Nat} (h : n < ls.length) : wdI ls (n : Int) = ls[n] := by
  unfold wdI
  rw [Int.toNat_natCast, List.getD_eq_getElem?_getD, List.getElem?_eq_getElem h]; rfl
def inoOf (ls : List Int) (i : Nat) : Ino := ⟨wdI ls (48 + 12 * (i : Int)), wdI ls (48 + 12 * (i : Int) + 1), wdI ls (48 + 12 * (i : Int) + 2), wdI ls (48 + 12 * (i : Int) + 3), wdI ls (48 + 12 * (i : Int) + 4), wdI ls (48 + 12 * (i : Int) + 5), wdI ls (48 + 12 * (i : Int) + 6), wdI ls (48 + 12 * (i : Int) + 7), wdI ls (48 + 12 * (i : Int) + 8), wdI ls (48 + 12 * (i : Int) + 9), wdI ls (48 + 12 * (i : Int) + 10)⟩
def denOf (ls : List Int) (k : Nat) : Den := if wdI ls (240 + 3 * (k : Int) + 2) = 0 then ⟨0, ⟨#[]⟩, -1⟩ else ⟨wdI ls (240 + 3 * (k : Int)), unpS (wdI ls (240 + 3 * (k : Int) + 1)), wdI ls (240 + 3 * (k : Int) + 2) - 1⟩
def denGood (ls : List Int) (k : Nat) : Bool := if wdI ls (240 + 3 * (k : Int) + 2) = 0 then wdI ls (240 + 3 * (k : Int)) == 0 && wdI ls (240 + 3 * (k : Int) + 1) == 0 else goodN (wdI ls (240 + 3 * (k : Int) + 1))
def inosOf (ls : List Int) (n : Nat) : List Ino := (List.range n).map (inoOf ls)
def densOf (ls : List Int) (n : Nat) : List Den := (List.range n).map (denOf ls)
def allGood (ls : List Int) (n : Nat) : Bool := (List.range n).all (denGood ls)
theorem inosOf_succ (ls : List Int) (n : Nat) : inosOf ls (n + 1) = inosOf ls n ++ [inoOf ls n] := by unfold inosOf; rw [List.range_succ, List.map_append]; rfl
theorem densOf_succ (ls : List Int) (n : Nat) : densOf ls (n + 1) = densOf ls n ++ [denOf ls n] := by unfold densOf; rw [List.range_succ, List.map_append]; rfl
theorem inosOf_len (ls : List Int) (n : Nat) : (inosOf ls n).length = n := by simp [inosOf]
theorem densOf_len (ls : List Int) (n : Nat) : (densOf ls n).length = n := by simp [densOf]
theorem allGood_no {ls : List Int} {n k : Nat} (hk : k < n) (h : denGood ls k = false) : allGood ls n = false := by
  unfold allGood
  rw [List.all_eq_false]
  exact ⟨k, List.mem_range.2 hk, by rw [h]; simp⟩
theorem allGood_yes {ls : List Int} {n : Nat} (h : ∀ k, k < n → denGood ls k = true) : allGood ls n = true := by
  unfold allGood
  rw [List.all_eq_true]
  intro k hk
  exact h k (List.mem_range.1 hk)
def riB (ls : List Int) : Bool := wdI ls 0 == 7 && (allGood ls 24 && imgB (inosOf ls 16) (densOf ls 24))
def riC (ws : List Int) (ps : List St) : Int := if pmB ws ps = true then (if riB (layW ws ps) = true then 0 else 3) else 1
def riN (ws : List Int) (ps : List St) : List Ino := if riC ws ps = 0 then inosOf (layW ws ps) 16 else []
def riD (ws : List Int) (ps : List St) : List Den := if riC ws ps = 0 then densOf (layW ws ps) 24 else []
theorem lay_word {ws : List Int} {ps : List St} (h : pmB ws ps = true) : ∀ k (h : k < (layW ws ps).length), wordB (layW ws ps)[k] = true := by
  have h1 := pmB_word h
  have h2 : ∀ p ∈ ps, wordB p.val = true := fun p hp => by
    obtain ⟨i, hi, rfl⟩ := List.getElem_of_mem hp
    exact (pmB_store h i hi).2
  clear h
  have gen : ∀ (ps : List St) (ws : List Int), (∀ x ∈ ws, wordB x = true) → (∀ p ∈ ps, wordB p.val = true) → ∀ x ∈ layW ws ps, wordB x = true := by
    intro ps
    induction ps with
    | nil => intro ws h _ x hx; exact h x hx
    | cons p ps ih =>
      intro ws h1 h2 x hx
      refine ih (ws.set p.at_.toNat p.val) (fun y hy => ?_) (fun q hq => h2 q (List.mem_cons_of_mem _ hq)) x hx
      rcases List.mem_or_eq_of_mem_set hy with hy | hy
      · exact h1 y hy
      · rw [hy]; exact h2 p (List.mem_cons_self ..)
  intro k hk
  exact gen ps ws (fun x hx => by obtain ⟨i, hi, rfl⟩ := List.getElem_of_mem hx; exact h1 i hi) h2 _ (List.getElem_mem hk)
theorem wdI_range {ws : List Int} {ps : List St} (h : pmB ws ps = true) (z : Int) : 0 ≤ wdI (layW ws ps) z ∧ wdI (layW ws ps) z < 1099511627776 := by
  unfold wdI
  rw [List.getD_eq_getElem?_getD]
  by_cases c : z.toNat < (layW ws ps).length
  · rw [List.getElem?_eq_getElem c]
    have := lay_word h _ c
    unfold wordB at this
    simp at this
    simpa using this
  · rw [List.getElem?_eq_none (by omega)]
    exact ⟨by simp, by simp⟩
theorem inoOf_R {ws : List Int} {ps : List St} (h : pmB ws ps = true) (i : Nat) : (inoOf (layW ws ps) i).R := by
  intro z hz
  have all : ∀ y, -9223372036854775808 ≤ wdI (layW ws ps) y ∧ wdI (layW ws ps) y ≤ 9223372036854775807 := fun y => by have := wdI_range h y; omega
  simp only [Ino.map, inoOf, List.mem_cons, List.not_mem_nil, or_false] at hz
  rcases hz with rfl | rfl | rfl | rfl | rfl | rfl | rfl | rfl <;> exact all _
theorem unpS_len (n : Int) : (unpS n).size ≤ 6 := by
  unfold unpS
  split
  · rename_i h
    have := (of_decide_eq_true h).2.2
    show ((digs n.toNat).map fun d => UInt8.ofNat (96 + d)).toArray.size ≤ 6
    simpa using this
  · exact Nat.zero_le _
theorem denOf_name (ls : List Int) (k : Nat) : (denOf ls k).name.size ≤ maxLen := by
  unfold denOf
  split
  · exact Nat.zero_le _
  · have := unpS_len (wdI ls (240 + 3 * (k : Int) + 1))
    show (unpS _).size ≤ maxLen
    unfold maxLen
    omega
theorem ld_any (v : Value) (ws : List Int) (ps : List St) (z : Int) (w : World) (h : RdPm w v ws ps) (hp : pmB ws ps = true) (h0 : 0 ≤ z ∧ z < 336) :
    Calls Tryz.prog 91 #[v, .int .i64 z] w fun e w' => e = .returned (.int .i64 (wdI (layW ws ps) z)) ∧ Below w.heap.size w w' := by
  obtain ⟨n, rfl⟩ : ∃ n : Nat, z = (n : Int) := ⟨z.toNat, by omega⟩
  obtain ⟨l1, l2⟩ := pmB_len hp
  have hn : n < ws.length := by omega
  rw [wdI_of (by rw [layW_len]; exact hn), layW_at ps ws n hn (fun p hq => by obtain ⟨i, hi, rfl⟩ := List.getElem_of_mem hq; exact (pmB_at hp i hi).1)]
  exact l01Load_any v ws ps n w h (by omega) (by omega) hn
end Go.Proofs.YtgnfbiohjdepcaaGreatDoor

namespace Go.Proofs.YtgnfbiohjdepcaaGreatDoor
open Go.RowKit
structure Wi (ls : List Int) (ws : List Ino) (ps : List Den) : Prop where
  len : ls.length = 336
  mark : wdI ls 0 = 7
  good : allGood ls 24 = true
  inos : inosOf ls 16 = ws
  dens : densOf ls 24 = ps
  img : Img ws ps
theorem Wi.ri {ls : List Int} {ws : List Ino} {ps : List Den} (h : Wi ls ws ps) : riB ls = true := by
  unfold riB
  rw [h.mark, h.good, h.inos, h.dens, img_iff.2 h.img]
  rfl
end Go.Proofs.YtgnfbiohjdepcaaGreatDoor

namespace Go.Proofs.YtgnfbiohjdepcaaGreatDoor
open Go.RowKit
theorem den_child {ps : List Den} {k : Nat} (h : k < ps.length) : childAt ps k = (denAt ps k).child := childAt_den h
theorem ent_at {ws : List Ino} {ps : List Den} (h : Img ws ps) {d : Int} {nm : ByteArray} {k : Nat} (e : entAt ps d nm = some k) : k < 24 ∧ ∃ i : Nat, childAt ps k = (i : Int) ∧ (denAt ps k).child = (i : Int) ∧ i < 16 ∧ EntOK ws (denAt ps k) ∧ (denAt ps k).dir = d ∧ (denAt ps k).name = nm := by
  obtain ⟨hk, q⟩ := ent_some e
  have hk24 : k < 24 := by have := h.l24; omega
  obtain ⟨c, hd, hn⟩ := hit_iff.1 q
  rw [← denAt_of hk] at c hd hn
  have ok : EntOK ws (denAt ps k) := by
    rcases h.ent k hk24 with r | r
    · rw [r] at c; exact absurd c (by decide)
    · exact r
  refine ⟨hk24, (denAt ps k).child.toNat, ?_, by omega, by have := ok.1; omega, ok, hd, hn⟩
  rw [den_child hk]
  omega
theorem wk_kind {ws : List Ino} {ps : List Den} (h : Img ws ps) : ∀ (ns : List ByteArray) (z : Int), (wk ws ps z ns).2 = 0 → ¬ kindAt ws z = 0 → ¬ kindAt ws (wk ws ps z ns).1 = 0
  | [], z, _, k => k
  | n :: ns, z, c, k => by
    by_cases q : kindAt ws z = 2
    · cases e : entAt ps z n with
      | none => rw [wk_none q e] at c; cases c
      | some j =>
        rw [wk_some q e] at c ⊢
        obtain ⟨_, i, ci, ck, _, ok, _, _⟩ := ent_at h e
        refine wk_kind h ns _ c ?_
        rw [ci, ← ck]
        exact ok.2.2.2.1
    · rw [wk_nodir q] at c; cases c
theorem wk_root {ws : List Ino} {ps : List Den} (h : Img ws ps) : ∀ (ns : List ByteArray) (z : Int), (wk ws ps z ns).2 = 0 → (wk ws ps z ns).1 = z ∨ 1 ≤ (wk ws ps z ns).1
  | [], z, _ => .inl rfl
  | n :: ns, z, c => by
    by_cases q : kindAt ws z = 2
    · cases e : entAt ps z n with
      | none => rw [wk_none q e] at c; cases c
      | some k =>
        rw [wk_some q e] at c ⊢
        obtain ⟨_, i, ci, ck, _, ok, _, _⟩ := ent_at h e
        have := ok.1
        rcases wk_root h ns _ c with r | r
        · right
          rw [r, ci]
          omega
        · exact .inr r
    · rw [wk_nodir q] at c; cases c
theorem lk_plain {ws : List Ino} {ps : List Den} {s : ByteArray} (h : Img ws ps) (c : (lkI ws ps s).2 = 0) (k : ¬ kindAt ws (lkI ws ps s).1 = 2) : ∃ i : Nat, (lkI ws ps s).1 = (i : Int) ∧ i < 16 ∧ ¬ i = 0 ∧ (inoAt ws i).kind = 1 := by
  have rg := lkI_ok (s := s) (img_iff.2 h)
  refine ⟨(lkI ws ps s).1.toNat, by omega, by omega, ?_⟩
  unfold lkI at c k rg ⊢
  by_cases q : spB s = true
  · rw [if_pos q] at c k rg ⊢
    have r1 : kindAt ws 0 = 2 := h.root
    have kk := wk_kind h (spL s) 0 c (by rw [r1]; decide)
    have hp : 1 ≤ (wk ws ps 0 (spL s)).1 := by
      rcases wk_root h _ 0 c with r | r
      · rw [r] at k; exact absurd r1 k
      · exact r
    refine ⟨by omega, ?_⟩
    obtain ⟨n, hn⟩ : ∃ n : Nat, (wk ws ps 0 (spL s)).1 = (n : Int) := ⟨(wk ws ps 0 (spL s)).1.toNat, by omega⟩
    rw [hn] at k kk rg ⊢
    rw [Int.toNat_natCast]
    rw [kindAt_ino] at k kk
    have := (ino_parts (h.ok n (by omega))).1
    omega
  · rw [if_neg q] at c; cases c
end Go.Proofs.YtgnfbiohjdepcaaGreatDoor

namespace Go.Proofs.YtgnfbiohjdepcaaGreatDoor
open Go.RowKit
def bys (zs : List Int) : List Value := zs.map (Value.int .u8)
theorem bys_at (zs : List Int) (k : Nat) (h : k < zs.length) : (bys zs)[k]? = some (.int .u8 zs[k]) := by simp [bys, h]
def RdB (w : World) (v : Value) (zs : List Int) : Prop := Rd w 1 v zs.length (bys zs) ∧ ∀ k (h : k < zs.length), 0 ≤ zs[k] ∧ zs[k] < 256
theorem RdB.shape {w : World} {v : Value} {zs : List Int} (h : RdB w v zs) : ∃ ao cap, v = .slice ao zs.length cap ∧ zs.length ≤ cap ∧ (0 < zs.length → ∃ b o, ao = some ⟨b, o, none⟩ ∧ b < w.heap.size ∧ ∀ k (h : k < zs.length), w.cell? ⟨b, o + k, none⟩ = some (.int .u8 zs[k])) := by
  obtain ⟨⟨_, ao, cap, rfl, h2, h3⟩, _⟩ := h
  refine ⟨ao, cap, rfl, h2.1, fun hn => ?_⟩
  obtain ⟨b, o, rfl, hb, hc⟩ := h3 hn
  exact ⟨b, o, rfl, hb, fun k hk => (hc k (by omega)).trans (bys_at zs k hk)⟩
theorem RdB.below {w w' : World} {v : Value} {zs : List Int} (h : RdB w v zs) (hb : Below w.heap.size w w') : RdB w' v zs := ⟨h.1.below hb, h.2⟩
end Go.Proofs.YtgnfbiohjdepcaaGreatDoor

namespace Go.Proofs.YtgnfbiohjdepcaaGreatDoor
open Go.RowKit
structure CrInv (w wr : World) (n : Nat) (X : List Int) (ps : List St) (us : List Int) (lo hi hi2 : Nat) (vW vP vU : Value) : Prop where
  words : Row wr 3 1 lo hi vW n (ints X)
  pend : Row wr 135 3 lo hi vP ps.length (sts ps)
  plc : Row wr 3 1 hi hi2 vU us.length (ints us)
  box : wr.heap[w.heap.size]? = some (.cells #[vW, vP] 36 (0, 0))
  res : wr.heap[w.heap.size + 1]? = some (.cells #[.slice none 0 0, .slice none 0 0] 36 (0, 0))
  below : Below w.heap.size w wr
  size : hi2 ≤ wr.heap.size
theorem CrInv.drew {w wr : World} {n : Nat} {X : List Int} {ps : List St} {us : List Int} {lo hi hi2 : Nat} {vW vP vU : Value} (h : CrInv w wr n X ps us lo hi hi2 vW vP vU) : CrInv w wr.drew n X ps us lo hi hi2 vW vP vU := by
  obtain ⟨h1, h2, h3, h4, h5, h6, h7⟩ := h
  exact ⟨h1.same (fun _ _ _ => rfl), h2.same (fun _ _ _ => rfl), h3.same (fun _ _ _ => rfl), h4, h5, h6.drew, h7⟩
theorem CrInv.store {w wr : World} {n : Nat} {X : List Int} {ps : List St} {us : List Int} {lo hi hi2 : Nat} {b cap : Nat} {vP vU : Value} (h : CrInv w wr n X ps us lo hi hi2 (.slice (some ⟨b, 0, none⟩) n cap) vP vU) (hlo : w.heap.size + 2 ≤ lo) (a : Nat) (x : Int) :
    CrInv w (wr.setCell ⟨b, a, none⟩ (.int .i64 x)) n (X.set a x) ps us lo hi hi2 (.slice (some ⟨b, 0, none⟩) n cap) vP vU := by
  obtain ⟨h1, h2, h3, h4, h5, h6, h7⟩ := h
  obtain ⟨_, hb1, hb2, _⟩ := h1.at
  refine ⟨?_, h2.apart h1 (by decide) (World.ownsRow.stored h1.1 _ _).2, h3.same (fun k hk _ => Below.heap_setCell _ _ _ _ (by simp only; omega)), ?_, ?_, h6.setCell (by simp only; omega) _, by simp; omega⟩
  · rw [← ints_set]; exact h1.stored _ _
  · rw [Below.heap_setCell _ _ _ _ (by simp only; omega)]; exact h4
  · rw [Below.heap_setCell _ _ _ _ (by simp only; omega)]; exact h5
end Go.Proofs.YtgnfbiohjdepcaaGreatDoor
