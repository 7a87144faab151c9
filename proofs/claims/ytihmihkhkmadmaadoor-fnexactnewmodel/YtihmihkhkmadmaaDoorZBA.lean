/- Several texts laid together: NmU, RdA, OpenA. -/
import Derived.Test.YtihmihkhkmadmaaDoorZAE
import Derived.Test.YtihmihkhkmadmaaDoorZAC
import Derived.Test.YtihmihkhkmadmaaDoorPmSeen
import Derived.Test.YtihmihkhkmadmaaDoorZAV
import Derived.Test.YtihmihkhkmadmaaDoorZAB
import Derived.ProofKit
import Derived.OpenShut
import Derived.ShutString
import Derived.ChangeOld
import Derived.Lib.SmallJoins
import Derived.Deep.Slices
import Derived.Deep.Strs
namespace Go.Proofs.YtihmihkhkmadmaaDoor
open Go.RowKit
def arrD (ds : List Nat) (j : Nat) : Value := if j < 6 - ds.length then .int .u8 0 else .int .u8 (96 + ((ds[j - (6 - ds.length)]?.getD 0 : Nat) : Int))
theorem arrD_nil (j : Nat) (h : j < 6) : arrD [] j = .int .u8 0 := by unfold arrD; rw [if_pos (by simpa using h)]
theorem arrD_cons (d : Nat) (ds : List Nat) (h : ds.length < 6) (j : Nat) : (if j = 6 - ds.length - 1 then Value.int .u8 (96 + (d : Int)) else arrD ds j) = arrD (d :: ds) j := by
  unfold arrD
  by_cases e : j = 6 - ds.length - 1
  · subst e
    rw [if_pos rfl, if_neg (by simp only [List.length_cons]; omega)]
    simp only [List.length_cons]
    rw [show 6 - ds.length - 1 - (6 - (ds.length + 1)) = 0 by omega]
    rfl
  · rw [if_neg e]
    simp only [List.length_cons]
    by_cases e2 : j < 6 - ds.length
    · rw [if_pos e2, if_pos (by omega)]
    · rw [if_neg e2, if_neg (by omega), show j - (6 - (ds.length + 1)) = (j - (6 - ds.length)) + 1 by omega]
      rfl
theorem strOf_digs (ds : List Nat) : strOfNums (ds.map fun d => (96 : Int) + (d : Nat)) = bytesOf ds := by
  unfold strOfNums bytesOf
  rw [List.map_map]
  congr 2
theorem slice6 (w : World) (b l : Nat) (h1 : 1 ≤ l) (h6 : l ≤ 6) : (Instr.sliceAt 149 (.pointer (some ⟨b, 0, none⟩)) (some (.int .i64 (6 - (l : Int)))) none none).run Tryd.prog w = .ok (.slice (some ⟨b, 6 - l, none⟩) l l) w := by
  have al : Tryd.prog.arrayLen 149 = 6 := by kernel_rfl
  rw [run_sliceAt_array_l w 149 ⟨b, 0, none⟩ (by kernel_rfl) .i64 (6 - (l : Int)) (by omega) (by rw [al]; omega), al]
  have sz : (sizeOf (Tryd.prog.elem 149)).run Tryd.prog w = .ok 1 w := by kernel_rfl
  rw [sz]
  simp only [Result.andThen, slicedAt]
  rw [if_neg (by omega), show (6 - (l : Int)).toNat = 6 - l by omega, show 6 - (6 - l) = l by omega, Nat.mul_one]
  simp [Addr.add]
  omega
set_option maxRecDepth 100000 in
set_option maxHeartbeats 4000000 in
theorem implUnpackName_any (n : Int) (w : World) (hn : n ≤ 9223372036854775807) : Calls Tryd.prog 102 #[.int .i64 n] w fun e w' => e = .returned (.tuple #[.string (unpS n), .int .i64 (unpC n)]) ∧ Below w.heap.size w w' := by
  by_cases c0 : n < 1
  · have E := hideIt (unp_bad (unp_low (n := n) (by omega)))
    go_enter Tryd.func102, Tryd.ntmps102
    go_wp2
    go_ret2
    exact ⟨ret_si E.out.1.symm E.out.2.symm, Below.refl _ _⟩
  obtain ⟨N, rfl⟩ := Int.eq_ofNat_of_zero_le (show 0 ≤ n by omega)
  have START : Hid ((w.alloc (.cells #[.int .u8 0, .int .u8 0, .int .u8 0, .int .u8 0, .int .u8 0, .int .u8 0] 149)).rowIs w.heap.size 149 6 (arrD [])) := by
    refine World.rowIs_alloc w #[.int .u8 0, .int .u8 0, .int .u8 0, .int .u8 0, .int .u8 0, .int .u8 0] 149 (arrD []) (fun i hi => ?_)
    have hi' : i < 6 := hi
    rw [arrD_nil i hi']
    rcases (show i = 0 ∨ i = 1 ∨ i = 2 ∨ i = 3 ∨ i = 4 ∨ i = 5 by omega) with rfl | rfl | rfl | rfl | rfl | rfl <;> rfl
  have BH : Hid (Below w.heap.size w (w.alloc (.cells #[.int .u8 0, .int .u8 0, .int .u8 0, .int .u8 0, .int .u8 0, .int .u8 0] 149))) := (Below.refl _ _).alloc (Nat.le_refl _) _
  go_enter Tryd.func102, Tryd.ntmps102
  go_wp2
  go_loopw [0, 5, 6] (fun x f _ wr => ∃ (m : Nat) (ds : List Nat), x = .int .i64 (m : Int) ∧ f = .int .i64 (6 - (ds.length : Int)) ∧ m ≤ N ∧ ds.length ≤ 6 ∧ Hid (Dg N m ds) ∧ Hid (wr.rowIs w.heap.size 149 6 (arrD ds)) ∧ Hid (Below w.heap.size w wr)) (fun x _ _ _ => (intOf x).toNat)
  case atStart => exact ⟨N, [], rfl, rfl, Nat.le_refl _, by simp, Dg.start N, START.out, BH.out⟩
  case round =>
    obtain ⟨m, ds, rfl, rfl, hm, hl, D, R, B⟩ := hrel
    by_cases c1 : 0 < m
    · have m0 : (0 : Int) < (m : Int) := by omega
      by_cases c2 : m % 27 = 0
      · have E := hideIt (unp_bad (unp_zero D.out c1 c2))
        have c2' : ((m : Int) % 27 == 0) = true := by rw [beq_iff_eq]; omega
        go_wp2
        go_ret2
        exact ⟨ret_si E.out.1.symm E.out.2.symm, B.out⟩
      · have c2' : ((m : Int) % 27 == 0) = false := by rw [beq_eq_false_iff_ne]; omega
        by_cases c3 : 6 ≤ ds.length
        · have E := hideIt (unp_bad (unp_many D.out c1 c3))
          have c3' : ((6 : Int) - (ds.length : Int) == 0) = true := by rw [beq_iff_eq]; omega
          go_wp2
          go_ret2
          exact ⟨ret_si E.out.1.symm E.out.2.symm, B.out⟩
        · have c3' : ((6 : Int) - (ds.length : Int) == 0) = false := by rw [beq_eq_false_iff_ne]; omega
          have D2 := hideIt (D.out.step c1 c2)
          have g0 := R.out.frozen (6 - ds.length - 1)
          have g1 := R.out.cell (show 6 - ds.length - 1 < 6 by omega)
          generalize hv : arrD ds (6 - ds.length - 1) = v0 at g1
          have ev : (97 + (m : Int) % 27 - 1) = 96 + ((m % 27 : Nat) : Int) := by omega
          have R2 : Hid ((wr.setCell ⟨w.heap.size, 6 - ds.length - 1, none⟩ (.int .u8 (97 + (m : Int) % 27 - 1))).rowIs w.heap.size 149 6 (arrD (m % 27 :: ds))) := by
            rw [ev]
            exact (R.out.set (6 - ds.length - 1) (.int .u8 (96 + ((m % 27 : Nat) : Int)))).congr (fun j _ => arrD_cons (m % 27) ds (by omega) j)
          have B2 : Hid (Below w.heap.size w (wr.setCell ⟨w.heap.size, 6 - ds.length - 1, none⟩ (.int .u8 (97 + (m : Int) % 27 - 1)))) := B.out.setCell (by simp only; omega) _
          clear ev
          clear hv
          go_wp2
          go_roundw
          case rel => exact ⟨m / 27, m % 27 :: ds, by go_num, by go_num, by omega, by simp; omega, D2.out, R2.out, B2.out⟩
          case measure => simp [intOf]; omega
    · obtain rfl : m = 0 := by omega
      have E := hideIt (unp_done D.out (by omega) hl)
      have hconv := fun cap => run_convert_bytes_arg (P := Tryd.prog) wr 109 5 Tryd.underlying109 Tryd.underlying5 w.heap.size (6 - ds.length) ds.length cap (ds.map fun d => (96 : Int) + (d : Nat)) (by simp) (fun i hi => by
        rw [R.out.cell (show 6 - ds.length + i < 6 by omega)]
        unfold arrD
        rw [if_neg (by omega), show 6 - ds.length + i - (6 - ds.length) = i by omega]
        simp [List.getD, hi]) 9 Tryd.underlying9
      rw [strOf_digs] at hconv
      have l1 : 1 ≤ ds.length := by
        have := digs_ne (n := N) (by omega)
        rw [D.out.done] at this
        exact this
      have hsl := slice6 wr w.heap.size ds.length l1 hl
      have hcv := hconv ds.length
      clear hconv
      go_wp2
      go_ret2
      exact ⟨ret_si E.out.1.symm E.out.2.symm, B.out⟩
end Go.Proofs.YtihmihkhkmadmaaDoor

namespace Go.Proofs.YtihmihkhkmadmaaDoor
open Go.RowKit
def wdI (ls : List Int) (z : Int) : Int := ls.getD z.toNat 0
theorem wdI_of {ls : List Int} {n : Nat} (h : n < ls.length) : wdI ls (n : Int) = ls[n] := by
  unfold wdI
  rw [Int.toNat_natCast, List.getD_eq_getElem?_getD, List.getElem?_eq_getElem h]; rfl
def inoOf (ls : List Int) (i : Nat) : Ino := ⟨wdI ls (48 + 12 * (i : Int)), wdI ls (48 + 12 * (i : Int) + 1), wdI ls (48 + 12 * (i : Int) + 2), wdI ls (48 + 12 * (i : Int) + 3), wdI ls (48 + 12 * (i : Int) + 4), wdI ls (48 + 12 * (i : Int) + 5), wdI ls (48 + 12 * (i : Int) + 6), wdI ls (48 + 12 * (i : Int) + 7), wdI ls (48 + 12 * (i : Int) + 8), wdI ls (48 + 12 * (i : Int) + 9), wdI ls (48 + 12 * (i : Int) + 10)⟩
def denOf (ls : List Int) (k : Nat) : Den := if wdI ls (240 + 3 * (k : Int) + 2) = 0 then ⟨0, ⟨#[]⟩, -1⟩ else ⟨wdI ls (240 + 3 * (k : Int)), unpS (wdI ls (240 + 3 * (k : Int) + 1)), wdI ls (240 + 3 * (k : Int) + 2) - 1⟩
def denGood (ls : List Int) (k : Nat) : Bool := if wdI ls (240 + 3 * (k : Int) + 2) = 0 then wdI ls (240 + 3 * (k : Int)) == 0 && wdI ls (240 + 3 * (k : Int) + 1) == 0 else goodN (wdI ls (240 + 3 * (k : Int) + 1))
def inosOf (ls : List Int) (n : Nat) : List Ino := (List.range n).map (inoOf ls)
def densOf (ls : List Int) (n : Nat) : List Den := (List.range n).map (denOf ls)
def allGood (ls : List Int) (n : Nat) : Bool := (List.range n).all (denGood ls)
theorem inosOf_succ (ls : List Int) (n : Nat) : inosOf ls (n + 1) = inosOf ls n ++ [inoOf ls n] := by unfold inosOf; rw [List.range_succ, List.map_append]; rfl
theorem densOf_succ (ls : List Int) (n : Nat) : densOf ls (n + 1) = densOf ls n ++ [denOf ls n] := by unfold densOf; rw [List.range_succ, List.map_append]; rfl
theorem inosOf_len (ls : List Int) (n : Nat) : (inosOf ls n).length = n := by simp [inosOf]
theorem densOf_len (ls : List Int) (n : Nat) : (densOf ls n).length = n := by simp [densOf]
theorem allGood_no {ls : List Int} {n k : Nat} (hk : k < n) (h : denGood ls k = false) : allGood ls n = false := by
  unfold allGood
  rw [List.all_eq_false]
  exact ⟨k, List.mem_range.2 hk, by rw [h]; simp⟩
theorem allGood_yes {ls : List Int} {n : Nat} (h : ∀ k, k < n → denGood ls k = true) : allGood ls n = true := by
  unfold allGood
  rw [List.all_eq_true]
  intro k hk
  exact h k (List.mem_range.1 hk)
def riB (ls : List Int) : Bool := wdI ls 0 == 7 && (allGood ls 24 && imgB (inosOf ls 16) (densOf ls 24))
def riC (ws : List Int) (ps : List St) : Int := if pmB ws ps = true then (if riB (layW ws ps) = true then 0 else 3) else 1
def riN (ws : List Int) (ps : List St) : List Ino := if riC ws ps = 0 then inosOf (layW ws ps) 16 else []
def riD (ws : List Int) (ps : List St) : List Den := if riC ws ps = 0 then densOf (layW ws ps) 24 else []
theorem lay_word {ws : List Int} {ps : List St} (h : pmB ws ps = true) : ∀ k (h : k < (layW ws ps).length), wordB (layW ws ps)[k] = true := by
  have h1 := pmB_word h
  have h2 : ∀ p ∈ ps, wordB p.val = true := fun p hp => by
    obtain ⟨i, hi, rfl⟩ := List.getElem_of_mem hp
    exact (pmB_store h i hi).2
  clear h
  have gen : ∀ (ps : List St) (ws : List Int), (∀ x ∈ ws, wordB x = true) → (∀ p ∈ ps, wordB p.val = true) → ∀ x ∈ layW ws ps, wordB x = true := by
    intro ps
    induction ps with
    | nil => intro ws h _ x hx; exact h x hx
    | cons p ps ih =>
      intro ws h1 h2 x hx
      refine ih (ws.set p.at_.toNat p.val) (fun y hy => ?_) (fun q hq => h2 q (List.mem_cons_of_mem _ hq)) x hx
      rcases List.mem_or_eq_of_mem_set hy with hy | hy
      · exact h1 y hy
      · rw [hy]; exact h2 p (List.mem_cons_self ..)
  intro k hk
  exact gen ps ws (fun x hx => by obtain ⟨i, hi, rfl⟩ := List.getElem_of_mem hx; exact h1 i hi) h2 _ (List.getElem_mem hk)
theorem wdI_range {ws : List Int} {ps : List St} (h : pmB ws ps = true) (z : Int) : 0 ≤ wdI (layW ws ps) z ∧ wdI (layW ws ps) z < 1099511627776 := by
  unfold wdI
  rw [List.getD_eq_getElem?_getD]
  by_cases c : z.toNat < (layW ws ps).length
  · rw [List.getElem?_eq_getElem c]
    have := lay_word h _ c
    unfold wordB at this
    simp at this
    simpa using this
  · rw [List.getElem?_eq_none (by omega)]
    exact ⟨by simp, by simp⟩
theorem inoOf_R {ws : List Int} {ps : List St} (h : pmB ws ps = true) (i : Nat) : (inoOf (layW ws ps) i).R := by
  intro z hz
  have all : ∀ y, -9223372036854775808 ≤ wdI (layW ws ps) y ∧ wdI (layW ws ps) y ≤ 9223372036854775807 := fun y => by have := wdI_range h y; omega
  simp only [Ino.map, inoOf, List.mem_cons, List.not_mem_nil, or_false] at hz
  rcases hz with rfl | rfl | rfl | rfl | rfl | rfl | rfl | rfl <;> exact all _
theorem unpS_len (n : Int) : (unpS n).size ≤ 6 := by
  unfold unpS
  split
  · rename_i h
    have := (of_decide_eq_true h).2.2
    show ((digs n.toNat).map fun d => UInt8.ofNat (96 + d)).toArray.size ≤ 6
    simpa using this
  · exact Nat.zero_le _
theorem denOf_name (ls : List Int) (k : Nat) : (denOf ls k).name.size ≤ maxLen := by
  unfold denOf
  split
  · exact Nat.zero_le _
  · have := unpS_len (wdI ls (240 + 3 * (k : Int) + 1))
    show (unpS _).size ≤ maxLen
    unfold maxLen
    omega
end Go.Proofs.YtihmihkhkmadmaaDoor

namespace Go.Proofs.YtihmihkhkmadmaaDoor
open Go.ChangeShapes Go.WideShapes Go.ChangeAt Go.RowKit Go.Joins
theorem own : ownKnob Tryd.prog.godebug = none := by kernel_rfl
theorem laidOut : laidOutB Tryd.prog = true := by kernel_rfl
theorem cells3 : Tryd.prog.cellsOf 3 = 1 := by kernel_rfl
section
variable {H : Type} {enc : TypeId × Value → H} {W : World} {sp : Nat → Bool} {held : Bool} {fuel : Nat} {v : Value} {y : DataW H × List MemPlace}
end
end Go.Proofs.YtihmihkhkmadmaaDoor
