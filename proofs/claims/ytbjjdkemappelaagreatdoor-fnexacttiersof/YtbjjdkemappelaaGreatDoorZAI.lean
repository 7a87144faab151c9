/- Several texts laid together: ImL, Word. -/
import Derived.Test.YtbjjdkemappelaaGreatDoorZAH
import Derived.Test.YtbjjdkemappelaaGreatDoorZAB
namespace Go.Proofs.YtbjjdkemappelaaGreatDoor
open Go.RowKit
def cntD (ds : List Den) (c : Int) (k : Nat) : Nat := ((ds.take k).filter fun x => x.child == c).length
theorem cntD_zero (ds : List Den) (c : Int) : cntD ds c 0 = 0 := rfl
theorem cntD_succ {ds : List Den} {c : Int} {k : Nat} (h : k < ds.length) : cntD ds c (k + 1) = cntD ds c k + (if (ds[k].child == c) = true then 1 else 0) := by
  unfold cntD
  rw [List.take_succ_eq_append_getElem h, List.filter_append, List.length_append]
  congr 1
  cases q : ds[k].child == c <;> simp [List.filter, q]
theorem cntD_le (ds : List Den) (c : Int) (k : Nat) : cntD ds c k ≤ k := by
  unfold cntD
  exact Nat.le_trans (List.length_filter_le _ _) (by simp; omega)
def linkB (ps : List Den) (i : Nat) (x : Ino) : Bool := decide ((if i = 0 then 1 else 0) + (cntD ps i ps.length : Int) = x.links) && (decide (¬ x.kind = 2) || hangs ps 16 i)
def linksB (ws : List Ino) (ps : List Den) : Bool := decide (∀ i (h : i < ws.length), linkB ps i ws[i] = true)
theorem linksB_not {ws : List Ino} {ps : List Den} {i : Nat} (h : i < ws.length) (q : linkB ps i ws[i] = false) : linksB ws ps = false := decide_eq_false (fun e => by rw [e i h] at q; cases q)
theorem l01Bit_t (w : World) : Calls Tryz.prog 36 #[.bool true] w fun e w' => e = .returned (.int .i64 1) ∧ w' = w := l01Bit_any true w
theorem l01Bit_f (w : World) : Calls Tryz.prog 36 #[.bool false] w fun e w' => e = .returned (.int .i64 0) ∧ w' = w := l01Bit_any false w
set_option maxRecDepth 100000 in
set_option maxHeartbeats 4000000 in
theorem l05Links_any (v : Value) (ws : List Ino) (ps : List Den) (w : World) (h : RdIm w v ws ps) (hm : ws.length ≤ 1048576) (hn : ps.length ≤ 1048576) :
    Calls Tryz.prog 131 #[v] w fun e w' => e = .returned (.bool (linksB ws ps)) ∧ Below w.heap.size w w' := by
  have HR := hideIt h
  obtain ⟨vW, vP, rfl, h1, h2⟩ := h
  obtain ⟨aW, cW, rfl, _, hcW⟩ := h1.shape
  obtain ⟨aP, cP, rfl, _, hcP⟩ := h2.shape
  have HW := hideIt hcW
  have HZ := hideIt hcP
  clear h1 h2 hcP hcW
  obtain ⟨W, hW⟩ : ∃ W, W = w.alloc (.cells #[.slice aW ws.length cW, .slice aP ps.length cP] 76) := ⟨_, rfl⟩
  have CA : Hid (∀ w', Below W.heap.size W w' → w'.cell? ⟨w.heap.size, 0, none⟩ = some (.slice aW ws.length cW) ∧ w'.cell? ⟨w.heap.size, 1, none⟩ = some (.slice aP ps.length cP)) := fun w' hb => by
    have : w'.heap[w.heap.size]? = some (.cells #[.slice aW ws.length cW, .slice aP ps.length cP] 76 (0, 0)) := (hb.block _ (by rw [hW]; simp)).trans (by rw [hW]; exact at_new rfl)
    exact ⟨(two_cells this).1, (two_cells this).2.1⟩
  have BW : Hid (Below w.heap.size w W) := by rw [hW]; exact (Below.refl _ _).alloc (Nat.le_refl _) _
  have hz : w.heap.size ≤ W.heap.size := BW.out.size
  have LH := hideIt (fun d w1 h => l05Hangs_any (.agg #[.slice aW ws.length cW, .slice aP ps.length cP]) ws ps d w1 h hn)
  go_enter Tryz.func131, Tryz.ntmps131
  go_wp2
  rw [← hW]
  clear hW
  go_loopw [3] (fun i wr => ∃ k : Nat, k ≤ ws.length ∧ i = .int .i64 k ∧ Hid (Below W.heap.size W wr ∧ ∀ j (h : j < ws.length), j < k → linkB ps j ws[j] = true)) (fun i _ => ws.length - (intOf i).toNat)
  case atStart => exact ⟨0, by omega, rfl, Below.refl _ _, fun j h a => absurd a (by omega)⟩
  case round =>
    obtain ⟨i, hi, rfl, J⟩ := hrel
    obtain ⟨x0, x1⟩ := CA.out wr J.out.1
    by_cases hlt : i < ws.length
    · have i0 : (0 : Int) ≤ (i : Int) := by omega
      have i1 : (i : Int) < (ws.length : Int) := by omega
      obtain ⟨b0, HB, b1, LB⟩ : ∃ b0 : Int, Hid (b0 = if i = 0 then 1 else 0) ∧ (0 ≤ b0 ∧ b0 ≤ 1) ∧ Hid (∀ w1 : World, Calls Tryz.prog 36 #[.bool ((i : Int) == 0)] w1 fun e w' => e = .returned (.int .i64 b0) ∧ w' = w1) := by
        by_cases q : i = 0
        · refine ⟨1, hideIt (by rw [if_pos q]), by omega, fun w1 => ?_⟩
          rw [show ((i : Int) == 0) = true by rw [beq_iff_eq]; omega]
          exact l01Bit_t w1
        · refine ⟨0, hideIt (by rw [if_neg q]), by omega, fun w1 => ?_⟩
          rw [show ((i : Int) == 0) = false by rw [beq_eq_false_iff_ne]; omega]
          exact l01Bit_f w1
      have START : Hid (Below W.heap.size W wr) := J.out.1
      go_wp2_with (go_at_call 36; refine (LB.out _).mono ?_; rintro e w' ⟨rfl, hw'⟩; subst w')
      go_loopw [4, 5] (fun n kk wq => ∃ k : Nat, k ≤ ps.length ∧ kk = .int .i64 k ∧ n = .int .i64 (b0 + (cntD ps i k : Int)) ∧ Hid (Below W.heap.size W wq)) (fun _ kk _ => ps.length - (intOf kk).toNat)
      case atStart => exact ⟨0, by omega, rfl, by rw [cntD_zero]; simp, START⟩
      case round =>
        obtain ⟨k, hk, rfl, rfl, K⟩ := hrel
        obtain ⟨y0, y1⟩ := CA.out wr K.out
        have B := hideIt (below_trans BW.out K.out hz)
        have cl := cntD_le ps i k
        have k0 : (0 : Int) ≤ (k : Int) := by omega
        clear x0 x1 START
        by_cases hlk : k < ps.length
        · obtain ⟨b, o, rfl, hbl, hcell⟩ := HZ.out (by omega)
          obtain ⟨_, _, c2⟩ := hcell k hlk
          have d2 := (B.out.cell (p := ⟨b, o + k * 3 + 2, none⟩) hbl).trans c2
          have k1 : (k : Int) < (ps.length : Int) := by omega
          obtain ⟨t, HT, t1, LT⟩ : ∃ t : Int, Hid ((cntD ps i (k + 1) : Int) = (cntD ps i k : Int) + t) ∧ (0 ≤ t ∧ t ≤ 1) ∧ Hid (∀ w1 : World, Calls Tryz.prog 36 #[.bool (ps[k].child == (i : Int))] w1 fun e w' => e = .returned (.int .i64 t) ∧ w' = w1) := by
            cases q : (ps[k].child == (i : Int))
            · refine ⟨0, hideIt (by rw [cntD_succ hlk, q]; simp), by omega, fun w1 => ?_⟩
              exact l01Bit_f w1
            · refine ⟨1, hideIt (by rw [cntD_succ hlk, q]; simp), by omega, fun w1 => ?_⟩
              exact l01Bit_t w1
          clear hcell c2
          generalize ps[k].child = z at *
          have cc0 : (0 : Int) ≤ (cntD ps i k : Int) ∧ (cntD ps i k : Int) ≤ 1048576 := by omega
          generalize (cntD ps i k : Int) = cc at *
          go_wp2_with (go_at_call 36; refine (LT.out _).mono ?_; rintro e w' ⟨rfl, hw'⟩; subst w')
          go_roundw
          case rel => exact ⟨k + 1, by omega, by go_num, by rw [HT.out, Int.add_assoc], K⟩
          case measure => simp [intOf]; omega
        · obtain rfl : k = ps.length := by omega
          obtain ⟨b, o, rfl, hbl, hcell⟩ := HW.out (by omega)
          obtain ⟨c0, _, c2, _⟩ := hcell i hlt
          have d0 := (B.out.cell (p := ⟨b, o + i * 11, none⟩) hbl).trans c0
          have d2 := (B.out.cell (p := ⟨b, o + i * 11 + 2, none⟩) hbl).trans c2
          have EL := hideIt (show linkB ps i ws[i] = (decide (b0 + (cntD ps i ps.length : Int) = ws[i].links) && (decide (¬ ws[i].kind = 2) || hangs ps 16 i)) by unfold linkB; rw [HB.out])
          have NO := hideIt (fun e => linksB_not (ps := ps) hlt e)
          have YES := hideIt (fun (e : linkB ps i ws[i] = true) j (h : j < ws.length) (a : j < i + 1) => show linkB ps j ws[j] = true by
            by_cases q : j = i
            · subst q; exact e
            · exact J.out.2 j h (by omega))
          clear hcell c0 c2 J HB LB
          have cc0 : (0 : Int) ≤ (cntD ps i ps.length : Int) ∧ (cntD ps i ps.length : Int) ≤ 1048576 := by omega
          generalize (cntD ps i ps.length : Int) = cc at *
          generalize linkB ps i ws[i] = lb at EL NO YES
          generalize ws[i].links = zl at *
          generalize ws[i].kind = zk at *
          by_cases q : b0 + cc = zl
          · by_cases r : zk = 2
            · subst r
              cases hh : hangs ps 16 i with
              | true =>
                have E := hideIt (YES.out (by rw [EL.out, decide_eq_true q, hh]; rfl))
                have HH := hideIt hh
                have R := hideIt (HR.out.below B.out)
                have q1 : (b0 + cc != zl) = false := by rw [q]; simp
                clear hh EL NO YES q
                go_wp2_with fail
                refine (LH.out _ _ R.out).mono ?_
                rw [HH.out]
                rintro e w1 ⟨rfl, hb1⟩
                have B1 := hideIt (below_trans K.out hb1 K.out.size)
                clear hb1
                go_wp2
                go_roundw
                case rel => exact ⟨i + 1, by omega, by go_num, B1.out, E.out⟩
                case measure => simp [intOf]; omega
              | false =>
                have E := hideIt (NO.out (by rw [EL.out, hh]; simp))
                have HH := hideIt hh
                have R := hideIt (HR.out.below B.out)
                have q1 : (b0 + cc != zl) = false := by rw [q]; simp
                clear hh EL NO YES q
                go_wp2_with fail
                refine (LH.out _ _ R.out).mono ?_
                rw [HH.out]
                rintro e w1 ⟨rfl, hb1⟩
                have B1 := hideIt (below_trans B.out hb1 B.out.size)
                clear hb1
                go_wp2
                go_ret
                exact ⟨ret_bool E.out.symm, B1.out⟩
            · have E : Hid (Below W.heap.size W wr ∧ ∀ j (h : j < ws.length), j < i + 1 → linkB ps j ws[j] = true) := ⟨K.out, YES.out (by rw [EL.out, decide_eq_true q, decide_eq_true r]; rfl)⟩
              have r1 : (zk == 2) = false := beq_eq_false_iff_ne.2 r
              have q1 : (b0 + cc != zl) = false := by rw [q]; simp
              clear EL NO YES q r
              go_wp2
              go_roundw
              case rel => exact ⟨i + 1, by omega, by go_num, E⟩
              case measure => simp [intOf]; omega
          · have q1 : (b0 + cc != zl) = true := by rw [bne_iff_ne]; exact q
            have E := hideIt (NO.out (by rw [EL.out, decide_eq_false q]; rfl))
            clear q EL NO YES
            go_wp2
            go_ret
            exact ⟨ret_bool E.out.symm, B.out⟩
    · obtain rfl : i = ws.length := by omega
      have E := hideIt (show linksB ws ps = true from decide_eq_true (fun j h => J.out.2 j h h))
      go_wp2
      go_ret
      exact ⟨ret_bool E.out.symm, below_trans BW.out J.out.1 hz⟩
end Go.Proofs.YtbjjdkemappelaaGreatDoor

namespace Go.Proofs.YtbjjdkemappelaaGreatDoor
open Go.RowKit
def wordB (n : Int) : Bool := decide (0 ≤ n ∧ n < 1099511627776)
def placeB (n : Int) : Bool := decide (0 ≤ n ∧ n < 336)
def secB (n : Int) : Bool := decide (0 ≤ n ∧ n < 32)
theorem placeB_true {n : Int} (h : placeB n = true) : 0 ≤ n ∧ n < 336 := of_decide_eq_true h
theorem isWord_any (n : Int) (w : World) : Calls Tryz.prog 133 #[.int .i64 n] w fun e w' => e = .returned (.bool (wordB n)) ∧ w' = w := by
  by_cases h0 : 0 ≤ n
  · by_cases h1 : n < 1099511627776
    · have e : wordB n = true := decide_eq_true ⟨h0, h1⟩
      rw [e]; clear e
      go_enter Tryz.func133, Tryz.ntmps133
      go_wp2
      go_ret
      exact ⟨rfl, rfl⟩
    · have e : wordB n = false := decide_eq_false (fun h => h1 h.2)
      rw [e]; clear e
      go_enter Tryz.func133, Tryz.ntmps133
      go_wp2
      go_ret
      exact ⟨rfl, rfl⟩
  · have e : wordB n = false := decide_eq_false (fun h => h0 h.1)
    rw [e]; clear e
    go_enter Tryz.func133, Tryz.ntmps133
    go_wp2
    go_ret
    exact ⟨rfl, rfl⟩
theorem isPlace_any (n : Int) (w : World) : Calls Tryz.prog 158 #[.int .i64 n] w fun e w' => e = .returned (.bool (placeB n)) ∧ w' = w := by
  by_cases h0 : 0 ≤ n
  · by_cases h1 : n < 336
    · have e : placeB n = true := decide_eq_true ⟨h0, h1⟩
      rw [e]; clear e
      go_enter Tryz.func158, Tryz.ntmps158
      go_wp2
      go_ret
      exact ⟨rfl, rfl⟩
    · have e : placeB n = false := decide_eq_false (fun h => h1 h.2)
      rw [e]; clear e
      go_enter Tryz.func158, Tryz.ntmps158
      go_wp2
      go_ret
      exact ⟨rfl, rfl⟩
  · have e : placeB n = false := decide_eq_false (fun h => h0 h.1)
    rw [e]; clear e
    go_enter Tryz.func158, Tryz.ntmps158
    go_wp2
    go_ret
    exact ⟨rfl, rfl⟩
theorem isSector_any (n : Int) (w : World) : Calls Tryz.prog 152 #[.int .i64 n] w fun e w' => e = .returned (.bool (secB n)) ∧ w' = w := by
  by_cases h0 : 0 ≤ n
  · by_cases h1 : n < 32
    · have e : secB n = true := decide_eq_true ⟨h0, h1⟩
      rw [e]; clear e
      go_enter Tryz.func152, Tryz.ntmps152
      go_wp2
      go_ret
      exact ⟨rfl, rfl⟩
    · have e : secB n = false := decide_eq_false (fun h => h1 h.2)
      rw [e]; clear e
      go_enter Tryz.func152, Tryz.ntmps152
      go_wp2
      go_ret
      exact ⟨rfl, rfl⟩
  · have e : secB n = false := decide_eq_false (fun h => h0 h.1)
    rw [e]; clear e
    go_enter Tryz.func152, Tryz.ntmps152
    go_wp2
    go_ret
    exact ⟨rfl, rfl⟩
def inB (n lo hi : Int) : Bool := decide (lo ≤ n ∧ n ≤ hi)
theorem l01In_any (n lo hi : Int) (w : World) : Calls Tryz.prog 84 #[.int .i64 n, .int .i64 lo, .int .i64 hi] w fun e w' => e = .returned (.bool (inB n lo hi)) ∧ w' = w := by
  by_cases h0 : lo ≤ n
  · by_cases h1 : n ≤ hi
    · have e : inB n lo hi = true := decide_eq_true ⟨h0, h1⟩
      rw [e]; clear e
      go_enter Tryz.func84, Tryz.ntmps84
      go_wp2
      go_ret
      exact ⟨rfl, rfl⟩
    · have e : inB n lo hi = false := decide_eq_false (fun h => h1 h.2)
      rw [e]; clear e
      go_enter Tryz.func84, Tryz.ntmps84
      go_wp2
      go_ret
      exact ⟨rfl, rfl⟩
  · have e : inB n lo hi = false := decide_eq_false (fun h => h0 h.1)
    rw [e]; clear e
    go_enter Tryz.func84, Tryz.ntmps84
    go_wp2
    go_ret
    exact ⟨rfl, rfl⟩
theorem inB_word (n : Int) : inB n 0 1099511627775 = wordB n := by
  unfold inB wordB
  rw [decide_eq_decide]
  omega
theorem inB_place (n : Int) : inB n 0 335 = placeB n := by
  unfold inB placeB
  rw [decide_eq_decide]
  omega
theorem inB_sec (n : Int) : inB n 0 31 = secB n := by
  unfold inB secB
  rw [decide_eq_decide]
  omega
theorem l01InSec_any (n : Int) (w : World) : Calls Tryz.prog 84 #[.int .i64 n, .int .i64 0, .int .i64 31] w fun e w' => e = .returned (.bool (secB n)) ∧ w' = w := by
  rw [← inB_sec]
  exact l01In_any n 0 31 w
theorem l01InPlace_any (n : Int) (w : World) : Calls Tryz.prog 84 #[.int .i64 n, .int .i64 0, .int .i64 335] w fun e w' => e = .returned (.bool (placeB n)) ∧ w' = w := by
  rw [← inB_place]
  exact l01In_any n 0 335 w
theorem l01Word_any (n : Int) (w : World) : Calls Tryz.prog 85 #[.int .i64 n] w fun e w' => e = .returned (.bool (wordB n)) ∧ w' = w := by
  have E := hideIt (inB_word n)
  go_enter Tryz.func85, Tryz.ntmps85
  go_wp2_with fail
  refine (l01In_any n 0 1099511627775 _).mono ?_
  rw [E.out]
  rintro e w' ⟨rfl, rfl⟩
  go_wp2
  go_ret
  exact ⟨rfl, rfl⟩
def wordsB (zs : List Int) : Bool := decide (∀ k (h : k < zs.length), wordB zs[k] = true)
theorem wordsB_true {zs : List Int} (h : wordsB zs = true) : ∀ k (h : k < zs.length), wordB zs[k] = true := of_decide_eq_true h
theorem wordsB_mk {zs : List Int} (h : ∀ k (h : k < zs.length), wordB zs[k] = true) : wordsB zs = true := decide_eq_true h
theorem wordsB_not {zs : List Int} {k : Nat} (hk : k < zs.length) (h : wordB zs[k] = false) : wordsB zs = false := decide_eq_false (fun x => by have := x k hk; rw [h] at this; cases this)
theorem wordsB_ex {zs : List Int} (h : wordsB zs = false) : ∃ k, ∃ h : k < zs.length, wordB zs[k] = false := by
  apply Classical.byContradiction
  intro hn
  have : wordsB zs = true := wordsB_mk (fun k hk => by
    cases e : wordB zs[k] with
    | true => rfl
    | false => exact absurd ⟨k, hk, e⟩ hn)
  rw [h] at this
  cases this
end Go.Proofs.YtbjjdkemappelaaGreatDoor
