/- Several texts laid together: ImL, PiJ. -/
import Derived.Test.YtmeiionabonhnaaGreatDoorZAQ
import Derived.Test.YtmeiionabonhnaaGreatDoorZAF
namespace Go.Proofs.YtmeiionabonhnaaGreatDoor
open Go.RowKit
def cntD (ds : List Den) (c : Int) (k : Nat) : Nat := ((ds.take k).filter fun x => x.child == c).length
theorem cntD_zero (ds : List Den) (c : Int) : cntD ds c 0 = 0 := rfl
theorem cntD_succ {ds : List Den} {c : Int} {k : Nat} (h : k < ds.length) : cntD ds c (k + 1) = cntD ds c k + (if (ds[k].child == c) = true then 1 else 0) := by
  unfold cntD
  rw [List.take_succ_eq_append_getElem h, List.filter_append, List.length_append]
  congr 1
  cases q : ds[k].child == c <;> simp [List.filter, q]
theorem cntD_le (ds : List Den) (c : Int) (k : Nat) : cntD ds c k ≤ k := by
  unfold cntD
  exact Nat.le_trans (List.length_filter_le _ _) (by simp; omega)
def linkB (ps : List Den) (i : Nat) (x : Ino) : Bool := decide ((if i = 0 then 1 else 0) + (cntD ps i ps.length : Int) = x.links) && (decide (¬ x.kind = 2) || hangs ps 16 i)
def linksB (ws : List Ino) (ps : List Den) : Bool := decide (∀ i (h : i < ws.length), linkB ps i ws[i] = true)
theorem linksB_not {ws : List Ino} {ps : List Den} {i : Nat} (h : i < ws.length) (q : linkB ps i ws[i] = false) : linksB ws ps = false := decide_eq_false (fun e => by rw [e i h] at q; cases q)
theorem l01Bit_t (w : World) : Calls Tryz.prog 185 #[.bool true] w fun e w' => e = .returned (.int .i64 1) ∧ w' = w := l01Bit_any true w
theorem l01Bit_f (w : World) : Calls Tryz.prog 185 #[.bool false] w fun e w' => e = .returned (.int .i64 0) ∧ w' = w := l01Bit_any false w
set_option maxRecDepth 100000 in
set_option maxHeartbeats 4000000 in
theorem l05Links_any (v : Value) (ws : List Ino) (ps : List Den) (w : World) (h : RdIm w v ws ps) (hm : ws.length ≤ 1048576) (hn : ps.length ≤ 1048576) :
    Calls Tryz.prog 128 #[v] w fun e w' => e = .returned (.bool (linksB ws ps)) ∧ Below w.heap.size w w' := by
  have HR := hideIt h
  obtain ⟨vW, vP, rfl, h1, h2⟩ := h
  obtain ⟨aW, cW, rfl, _, hcW⟩ := h1.shape
  obtain ⟨aP, cP, rfl, _, hcP⟩ := h2.shape
  have HW := hideIt hcW
  have HZ := hideIt hcP
  clear h1 h2 hcP hcW
  obtain ⟨W, hW⟩ : ∃ W, W = w.alloc (.cells #[.slice aW ws.length cW, .slice aP ps.length cP] 98) := ⟨_, rfl⟩
  have CA : Hid (∀ w', Below W.heap.size W w' → w'.cell? ⟨w.heap.size, 0, none⟩ = some (.slice aW ws.length cW) ∧ w'.cell? ⟨w.heap.size, 1, none⟩ = some (.slice aP ps.length cP)) := fun w' hb => by
    have : w'.heap[w.heap.size]? = some (.cells #[.slice aW ws.length cW, .slice aP ps.length cP] 98 (0, 0)) := (hb.block _ (by rw [hW]; simp)).trans (by rw [hW]; exact at_new rfl)
    exact ⟨(two_cells this).1, (two_cells this).2.1⟩
  have BW : Hid (Below w.heap.size w W) := by rw [hW]; exact (Below.refl _ _).alloc (Nat.le_refl _) _
  have hz : w.heap.size ≤ W.heap.size := BW.out.size
  have LH := hideIt (fun d w1 h => l05Hangs_any (.agg #[.slice aW ws.length cW, .slice aP ps.length cP]) ws ps d w1 h hn)
  go_enter Tryz.func128, Tryz.ntmps128
  go_wp2
  rw [← hW]
  clear hW
  go_loopw [3] (fun i wr => ∃ k : Nat, k ≤ ws.length ∧ i = .int .i64 k ∧ Hid (Below W.heap.size W wr ∧ ∀ j (h : j < ws.length), j < k → linkB ps j ws[j] = true)) (fun i _ => ws.length - (intOf i).toNat)
  case atStart => exact ⟨0, by omega, rfl, Below.refl _ _, fun j h a => absurd a (by omega)⟩
  case round =>
    obtain ⟨i, hi, rfl, J⟩ := hrel
    obtain ⟨x0, x1⟩ := CA.out wr J.out.1
    by_cases hlt : i < ws.length
    · have i0 : (0 : Int) ≤ (i : Int) := by omega
      have i1 : (i : Int) < (ws.length : Int) := by omega
      obtain ⟨b0, HB, b1, LB⟩ : ∃ b0 : Int, Hid (b0 = if i = 0 then 1 else 0) ∧ (0 ≤ b0 ∧ b0 ≤ 1) ∧ Hid (∀ w1 : World, Calls Tryz.prog 185 #[.bool ((i : Int) == 0)] w1 fun e w' => e = .returned (.int .i64 b0) ∧ w' = w1) := by
        by_cases q : i = 0
        · refine ⟨1, hideIt (by rw [if_pos q]), by omega, fun w1 => ?_⟩
          rw [show ((i : Int) == 0) = true by rw [beq_iff_eq]; omega]
          exact l01Bit_t w1
        · refine ⟨0, hideIt (by rw [if_neg q]), by omega, fun w1 => ?_⟩
          rw [show ((i : Int) == 0) = false by rw [beq_eq_false_iff_ne]; omega]
          exact l01Bit_f w1
      have START : Hid (Below W.heap.size W wr) := J.out.1
      go_wp2_with (go_at_call 185; refine (LB.out _).mono ?_; rintro e w' ⟨rfl, hw'⟩; subst w')
      go_loopw [4, 5] (fun n kk wq => ∃ k : Nat, k ≤ ps.length ∧ kk = .int .i64 k ∧ n = .int .i64 (b0 + (cntD ps i k : Int)) ∧ Hid (Below W.heap.size W wq)) (fun _ kk _ => ps.length - (intOf kk).toNat)
      case atStart => exact ⟨0, by omega, rfl, by rw [cntD_zero]; simp, START⟩
      case round =>
        obtain ⟨k, hk, rfl, rfl, K⟩ := hrel
        obtain ⟨y0, y1⟩ := CA.out wr K.out
        have B := hideIt (below_trans BW.out K.out hz)
        have cl := cntD_le ps i k
        have k0 : (0 : Int) ≤ (k : Int) := by omega
        clear x0 x1 START
        by_cases hlk : k < ps.length
        · obtain ⟨b, o, rfl, hbl, hcell⟩ := HZ.out (by omega)
          obtain ⟨_, _, c2⟩ := hcell k hlk
          have d2 := (B.out.cell (p := ⟨b, o + k * 3 + 2, none⟩) hbl).trans c2
          have k1 : (k : Int) < (ps.length : Int) := by omega
          obtain ⟨t, HT, t1, LT⟩ : ∃ t : Int, Hid ((cntD ps i (k + 1) : Int) = (cntD ps i k : Int) + t) ∧ (0 ≤ t ∧ t ≤ 1) ∧ Hid (∀ w1 : World, Calls Tryz.prog 185 #[.bool (ps[k].child == (i : Int))] w1 fun e w' => e = .returned (.int .i64 t) ∧ w' = w1) := by
            cases q : (ps[k].child == (i : Int))
            · refine ⟨0, hideIt (by rw [cntD_succ hlk, q]; simp), by omega, fun w1 => ?_⟩
              exact l01Bit_f w1
            · refine ⟨1, hideIt (by rw [cntD_succ hlk, q]; simp), by omega, fun w1 => ?_⟩
              exact l01Bit_t w1
          clear hcell c2
          generalize ps[k].child = z at *
          have cc0 : (0 : Int) ≤ (cntD ps i k : Int) ∧ (cntD ps i k : Int) ≤ 1048576 := by omega
          generalize (cntD ps i k : Int) = cc at *
          go_wp2_with (go_at_call 185; refine (LT.out _).mono ?_; rintro e w' ⟨rfl, hw'⟩; subst w')
          go_roundw
          case rel => exact ⟨k + 1, by omega, by go_num, by rw [HT.out, Int.add_assoc], K⟩
          case measure => simp [intOf]; omega
        · obtain rfl : k = ps.length := by omega
          obtain ⟨b, o, rfl, hbl, hcell⟩ := HW.out (by omega)
          obtain ⟨c0, _, c2, _⟩ := hcell i hlt
          have d0 := (B.out.cell (p := ⟨b, o + i * 11, none⟩) hbl).trans c0
          have d2 := (B.out.cell (p := ⟨b, o + i * 11 + 2, none⟩) hbl).trans c2
          have EL := hideIt (show linkB ps i ws[i] = (decide (b0 + (cntD ps i ps.length : Int) = ws[i].links) && (decide (¬ ws[i].kind = 2) || hangs ps 16 i)) by unfold linkB; rw [HB.out])
          have NO := hideIt (fun e => linksB_not (ps := ps) hlt e)
          have YES := hideIt (fun (e : linkB ps i ws[i] = true) j (h : j < ws.length) (a : j < i + 1) => show linkB ps j ws[j] = true by
            by_cases q : j = i
            · subst q; exact e
            · exact J.out.2 j h (by omega))
          clear hcell c0 c2 J HB LB
          have cc0 : (0 : Int) ≤ (cntD ps i ps.length : Int) ∧ (cntD ps i ps.length : Int) ≤ 1048576 := by omega
          generalize (cntD ps i ps.length : Int) = cc at *
          generalize linkB ps i ws[i] = lb at EL NO YES
          generalize ws[i].links = zl at *
          generalize ws[i].kind = zk at *
          by_cases q : b0 + cc = zl
          · by_cases r : zk = 2
            · subst r
              cases hh : hangs ps 16 i with
              | true =>
                have E := hideIt (YES.out (by rw [EL.out, decide_eq_true q, hh]; rfl))
                have HH := hideIt hh
                have R := hideIt (HR.out.below B.out)
                have q1 : (b0 + cc != zl) = false := by rw [q]; simp
                clear hh EL NO YES q
                go_wp2_with fail
                refine (LH.out _ _ R.out).mono ?_
                rw [HH.out]
                rintro e w1 ⟨rfl, hb1⟩
                have B1 := hideIt (below_trans K.out hb1 K.out.size)
                clear hb1
                go_wp2
                go_roundw
                case rel => exact ⟨i + 1, by omega, by go_num, B1.out, E.out⟩
                case measure => simp [intOf]; omega
              | false =>
                have E := hideIt (NO.out (by rw [EL.out, hh]; simp))
                have HH := hideIt hh
                have R := hideIt (HR.out.below B.out)
                have q1 : (b0 + cc != zl) = false := by rw [q]; simp
                clear hh EL NO YES q
                go_wp2_with fail
                refine (LH.out _ _ R.out).mono ?_
                rw [HH.out]
                rintro e w1 ⟨rfl, hb1⟩
                have B1 := hideIt (below_trans B.out hb1 B.out.size)
                clear hb1
                go_wp2
                go_ret
                exact ⟨ret_bool E.out.symm, B1.out⟩
            · have E : Hid (Below W.heap.size W wr ∧ ∀ j (h : j < ws.length), j < i + 1 → linkB ps j ws[j] = true) := ⟨K.out, YES.out (by rw [EL.out, decide_eq_true q, decide_eq_true r]; rfl)⟩
              have r1 : (zk == 2) = false := beq_eq_false_iff_ne.2 r
              have q1 : (b0 + cc != zl) = false := by rw [q]; simp
              clear EL NO YES q r
              go_wp2
              go_roundw
              case rel => exact ⟨i + 1, by omega, by go_num, E⟩
              case measure => simp [intOf]; omega
          · have q1 : (b0 + cc != zl) = true := by rw [bne_iff_ne]; exact q
            have E := hideIt (NO.out (by rw [EL.out, decide_eq_false q]; rfl))
            clear q EL NO YES
            go_wp2
            go_ret
            exact ⟨ret_bool E.out.symm, B.out⟩
    · obtain rfl : i = ws.length := by omega
      have E := hideIt (show linksB ws ps = true from decide_eq_true (fun j h => J.out.2 j h h))
      go_wp2
      go_ret
      exact ⟨ret_bool E.out.symm, below_trans BW.out J.out.1 hz⟩
end Go.Proofs.YtmeiionabonhnaaGreatDoor

namespace Go.Proofs.YtmeiionabonhnaaGreatDoor
open Go.RowKit
def anonD (x : Den) : Den := ⟨x.dir, x.name, -1⟩
def hasD (ps : List Den) (x : Den) : Bool := ps.any fun y => denEq x.dir x.name x.child y.dir y.name y.child
def onceD (ps : List Den) : Bool := decide (∀ k (h : k < ps.length), hasD (ps.take k) ps[k] = false)
theorem hasD_at {ps : List Den} {x : Den} {k : Nat} (hk : k < ps.length) (h : denEq x.dir x.name x.child ps[k].dir ps[k].name ps[k].child = true) : hasD ps x = true := by
  unfold hasD
  rw [List.any_eq_true]
  exact ⟨ps[k], List.getElem_mem _, h⟩
theorem hasD_not {ps : List Den} {x : Den} (h : ∀ j (h : j < ps.length), denEq x.dir x.name x.child ps[j].dir ps[j].name ps[j].child = false) : hasD ps x = false := by
  unfold hasD
  rw [List.any_eq_false]
  intro y hy
  obtain ⟨j, hj, rfl⟩ := List.getElem_of_mem hy
  rw [h j hj]
  decide
theorem onceD_mk {ps : List Den} (h : ∀ k (h : k < ps.length), hasD (ps.take k) ps[k] = false) : onceD ps = true := decide_eq_true h
theorem onceD_not {ps : List Den} {k : Nat} (hk : k < ps.length) (h : hasD (ps.take k) ps[k] = true) : onceD ps = false := decide_eq_false (fun x => by have := x k hk; rw [h] at this; cases this)
theorem RdD.take {w : World} {ao : Option Addr} {c : Nat} {ps : List Den} {m : Nat} (h : RdD w (.slice ao ps.length c) ps) (hm : m ≤ ps.length) : RdD w (.slice ao m c) (ps.take m) := by
  have := Rd.take h hm
  unfold RdD
  have e : (ps.take m).length = m := by rw [List.length_take]; omega
  have e2 : dens (ps.take m) = (dens ps).take (m * 3) := by
    have hl := dens_len (ps.take m)
    have e3 : dens ps = dens (ps.take m) ++ dens (ps.drop m) := by
      unfold dens
      rw [← List.flatMap_append, List.take_append_drop]
    rw [e3]
    exact (List.take_left' (by rw [hl, e])).symm
  rw [e, e2]
  exact this
theorem below_drewN {B : Nat} {a w : World} (h : Below B a w) (n : Nat) : Below B a (w.drewN n) := by
  induction n with
  | zero => exact h
  | succ n ih => exact ⟨ih.os, ih.tape, ih.output, ih.size, ih.block⟩
set_option maxRecDepth 100000 in
set_option maxHeartbeats 4000000 in
theorem indexDen_any (v : Value) (ps : List Den) (x : Den) (w : World) (h : RdD w v ps) (hn : ps.length ≤ 1048576) :
    Calls Tryz.prog 277 #[v, x.v] w fun e w' => ∃ r : Int, e = .returned (.int .i64 r) ∧ (decide (0 ≤ r) = hasD ps x) ∧ Below w.heap.size w w' := by
  obtain ⟨aZ, cZ, rfl, _, hcZ⟩ := h.shape
  have HZ := hideIt hcZ
  have BW := hideIt ((Below.refl w.heap.size w).alloc (Nat.le_refl _) (.cells #[.int .i64 x.dir, .string x.name, .int .i64 x.child] 140))
  have CB : Hid (∀ w', Below (w.alloc (.cells #[.int .i64 x.dir, .string x.name, .int .i64 x.child] 140)).heap.size (w.alloc (.cells #[.int .i64 x.dir, .string x.name, .int .i64 x.child] 140)) w' → w'.cell? ⟨w.heap.size, 0, none⟩ = some (.int .i64 x.dir) ∧ w'.cell? ⟨w.heap.size, 1, none⟩ = some (.string x.name) ∧ w'.cell? ⟨w.heap.size, 2, none⟩ = some (.int .i64 x.child)) := fun w' hb => three_cells ((hb.block _ (by simp)).trans (at_new rfl))
  have hz : w.heap.size ≤ (w.alloc (.cells #[.int .i64 x.dir, .string x.name, .int .i64 x.child] 140)).heap.size := BW.out.size
  obtain ⟨W, hW⟩ : ∃ W, W = w.alloc (.cells #[.int .i64 x.dir, .string x.name, .int .i64 x.child] 140) := ⟨_, rfl⟩
  rw [← hW] at BW CB hz
  rw [show x.v = .agg #[.int .i64 x.dir, .string x.name, .int .i64 x.child] from rfl]
  clear h hcZ
  go_enter Tryz.func277, Tryz.ntmps277
  go_wp2
  rw [← hW]
  clear hW
  go_loopw [5, 8] (fun _ i wr => ∃ k : Nat, k ≤ ps.length ∧ i = .int .i64 k ∧ Hid (Below W.heap.size W wr ∧ ∀ j (h : j < ps.length), j < k → denEq x.dir x.name x.child ps[j].dir ps[j].name ps[j].child = false)) (fun _ i _ => ps.length - (intOf i).toNat)
  case atStart => exact ⟨0, by omega, rfl, Below.refl _ _, fun j h a => absurd a (by omega)⟩
  case round =>
    obtain ⟨k, hk, rfl, H⟩ := hrel
    by_cases hlt : k < ps.length
    · obtain ⟨b, o, rfl, hbl, hcell⟩ := HZ.out (by omega)
      obtain ⟨x0, x1, x2⟩ := CB.out wr H.out.1
      have B0 := hideIt (below_trans BW.out H.out.1 hz)
      obtain ⟨a0, a1, a2⟩ := hcell k hlt
      have d0 := (B0.out.cell (p := ⟨b, o + k * 3, none⟩) hbl).trans a0
      have d1 := (B0.out.cell (p := ⟨b, o + k * 3 + 1, none⟩) hbl).trans a1
      have d2 := (B0.out.cell (p := ⟨b, o + k * 3 + 2, none⟩) hbl).trans a2
      have k0 : (0 : Int) ≤ (k : Int) := by omega
      have k1 : (k : Int) < (ps.length : Int) := by omega
      clear hcell a0 a1 a2
      cases q : denEq x.dir x.name x.child ps[k].dir ps[k].name ps[k].child with
      | true =>
        have E := hideIt (hasD_at hlt q)
        clear H
        generalize ps[k] = y at *
        go_wp2
        go_quiet (fail)
        go_wp2
        go_ret
        exact ⟨_, rfl, by rw [E.out]; exact decide_eq_true (by omega), below_drewN B0.out _⟩
      | false =>
        have H' : Hid (∀ j (h : j < ps.length), j < k + 1 → denEq x.dir x.name x.child ps[j].dir ps[j].name ps[j].child = false) := fun j h a => by
          by_cases e : j = k
          · subst e; exact q
          · exact H.out.2 j h (by omega)
        have H1 := hideIt H.out.1
        clear H
        generalize ps[k] = y at d0 d1 d2 q
        go_wp2
        go_quiet (fail)
        go_wp2
        go_roundw
        case rel => exact ⟨k + 1, by omega, by go_num, below_drewN H1.out _, H'.out⟩
        case measure => simp [intOf]; omega
    · have E := hideIt (hasD_not (fun j h => H.out.2 j h (by omega)))
      have B0 := hideIt (below_trans BW.out H.out.1 hz)
      clear H
      go_wp2
      go_ret
      exact ⟨_, rfl, by rw [E.out]; rfl, B0.out⟩
set_option maxRecDepth 100000 in
set_option maxHeartbeats 4000000 in
theorem containsDen_any (v : Value) (ps : List Den) (x : Den) (w : World) (h : RdD w v ps) (hn : ps.length ≤ 1048576) :
    Calls Tryz.prog 238 #[v, x.v] w fun e w' => e = .returned (.bool (hasD ps x)) ∧ Below w.heap.size w w' := by
  have HZ := hideIt h
  obtain ⟨aZ, cZ, rfl, _, _⟩ := h.shape
  have BW := hideIt ((Below.refl w.heap.size w).alloc (Nat.le_refl _) (.cells #[.int .i64 x.dir, .string x.name, .int .i64 x.child] 140))
  have LI := hideIt (fun w1 h => indexDen_any (.slice aZ ps.length cZ) ps x w1 h hn)
  obtain ⟨x0, x1, x2⟩ := three_cells (at_new (w := w) (o := .cells #[.int .i64 x.dir, .string x.name, .int .i64 x.child] 140) rfl)
  rw [show x.v = .agg #[.int .i64 x.dir, .string x.name, .int .i64 x.child] from rfl]
  clear h
  go_enter Tryz.func238, Tryz.ntmps238
  go_wp2_with fail
  refine (LI.out _ (Rd.below HZ.out BW.out)).mono ?_
  rintro e w1 ⟨r, rfl, hr, hb⟩
  have R := hideIt hr
  have B1 := hideIt (below_trans BW.out hb BW.out.size)
  clear hr hb x0 x1 x2
  go_wp2
  go_ret
  exact ⟨ret_bool R.out, B1.out⟩
set_option maxRecDepth 100000 in
set_option maxHeartbeats 4000000 in
theorem noneTwiceDen_any (v : Value) (ps : List Den) (w : World) (h : RdD w v ps) (hn : ps.length ≤ 1048576) :
    Calls Tryz.prog 181 #[v] w fun e w' => e = .returned (.bool (onceD ps)) ∧ Below w.heap.size w w' := by
  have HR := hideIt h
  obtain ⟨aZ, cZ, rfl, hcap, hcZ⟩ := h.shape
  have HZ := hideIt hcZ
  clear h hcZ
  go_enter Tryz.func181, Tryz.ntmps181
  go_wp2
  go_loopw [3, 4, 7] (fun _ _ i wr => ∃ k : Nat, k ≤ ps.length ∧ i = .int .i64 k ∧ Hid (Below w.heap.size w wr ∧ ∀ j (h : j < ps.length), j < k → hasD (ps.take j) ps[j] = false)) (fun _ _ i _ => ps.length - (intOf i).toNat)
  case atStart => exact ⟨0, by omega, rfl, Below.refl _ _, fun j h a => absurd a (by omega)⟩
  case round =>
    obtain ⟨k, hk, rfl, H⟩ := hrel
    by_cases hlt : k < ps.length
    · obtain ⟨b, o, rfl, hbl, hcell⟩ := HZ.out (by omega)
      obtain ⟨a0, a1, a2⟩ := hcell k hlt
      have d0 := (H.out.1.cell (p := ⟨b, o + k * 3, none⟩) hbl).trans a0
      have d1 := (H.out.1.cell (p := ⟨b, o + k * 3 + 1, none⟩) hbl).trans a1
      have d2 := (H.out.1.cell (p := ⟨b, o + k * 3 + 2, none⟩) hbl).trans a2
      have k0 : (0 : Int) ≤ (k : Int) := by omega
      have k1 : (k : Int) < (ps.length : Int) := by omega
      have k2 : (k : Int) ≤ (cZ : Int) := by omega
      have RT := hideIt (RdD.take HR.out hk)
      have LT := hideIt (show (ps.take k).length ≤ 1048576 by rw [List.length_take]; omega)
      have hz : w.heap.size ≤ wr.heap.size := H.out.1.size
      have H1 := hideIt H.out.1
      clear hcell a0 a1 a2
      obtain ⟨wb, hwb⟩ : ∃ wb : World, wb = wr.alloc (.cells #[.int .i64 ps[k].dir, .string ps[k].name, .int .i64 ps[k].child] 140) := ⟨_, rfl⟩
      have B2 : Hid (Below w.heap.size w wb) := by rw [hwb]; exact H1.out.alloc hz _
      have SK : Hid (∀ w', Below wb.heap.size wb w' → w'.cell? ⟨wr.heap.size, 0, none⟩ = some (.int .i64 ps[k].dir) ∧ w'.cell? ⟨wr.heap.size, 1, none⟩ = some (.string ps[k].name) ∧ w'.cell? ⟨wr.heap.size, 2, none⟩ = some (.int .i64 ps[k].child)) := fun w' hb => three_cells ((hb.block _ (by rw [hwb]; simp)).trans (by rw [hwb]; exact at_new rfl))
      cases q : hasD (ps.take k) ps[k] with
      | false =>
        have H' : Hid (∀ j (h : j < ps.length), j < k + 1 → hasD (ps.take j) ps[j] = false) := fun j h a => by
          by_cases e : j = k
          · subst e; exact q
          · exact H.out.2 j h (by omega)
        have Q := hideIt q
        clear q H
        generalize ps[k] = x at d0 d1 d2 Q hwb SK
        go_wp2_with fail
        rw [← hwb]
        clear hwb
        go_region_held3 (fun w' => w'.cell? ⟨wr.heap.size, 0, none⟩ = some (.int .i64 x.dir) ∧ w'.cell? ⟨wr.heap.size, 1, none⟩ = some (.string x.name) ∧ w'.cell? ⟨wr.heap.size, 2, none⟩ = some (.int .i64 x.child))
          (exact SK.out _ (by repeat (first | exact BF.out | exact Below.refl _ _ | refine Below.drew ?_)))
          (first
            | (go_at_call 238; refine (containsDen_any _ (ps.take k) x _ (Rd.below RT.out (below_trans B2.out (by repeat (first | exact Below.refl _ _ | refine Below.drew ?_)) B2.out.size)) LT.out).mono ?_; rw [Q.out]; rintro e w1 ⟨rfl, hb1⟩; have BF : Hid (Below wb.heap.size wb w1) := (by first | exact hb1 | exact below_trans (by repeat (first | exact Below.refl _ _ | refine Below.drew ?_)) hb1 (Nat.le_refl _))))
        all_goals
          have B3 := hideIt (below_trans B2.out BF.out B2.out.size)
          clear hb1 BF SK d0 d1 d2
          go_wp2
          go_roundw
          case rel => exact ⟨k + 1, by omega, by go_num, (by repeat (first | exact B3.out | refine Below.drew ?_)), H'.out⟩
          case measure => simp [intOf]; omega
      | true =>
        have E := hideIt (onceD_not hlt q)
        have Q := hideIt q
        clear q H
        generalize ps[k] = x at d0 d1 d2 Q hwb SK
        go_wp2_with fail
        rw [← hwb]
        clear hwb
        go_region_held3 (fun w' => w'.cell? ⟨wr.heap.size, 0, none⟩ = some (.int .i64 x.dir) ∧ w'.cell? ⟨wr.heap.size, 1, none⟩ = some (.string x.name) ∧ w'.cell? ⟨wr.heap.size, 2, none⟩ = some (.int .i64 x.child))
          (exact SK.out _ (by repeat (first | exact BF.out | exact Below.refl _ _ | refine Below.drew ?_)))
          (first
            | (go_at_call 238; refine (containsDen_any _ (ps.take k) x _ (Rd.below RT.out (below_trans B2.out (by repeat (first | exact Below.refl _ _ | refine Below.drew ?_)) B2.out.size)) LT.out).mono ?_; rw [Q.out]; rintro e w1 ⟨rfl, hb1⟩; have BF : Hid (Below wb.heap.size wb w1) := (by first | exact hb1 | exact below_trans (by repeat (first | exact Below.refl _ _ | refine Below.drew ?_)) hb1 (Nat.le_refl _))))
        all_goals
          have B3 := hideIt (below_trans B2.out BF.out B2.out.size)
          clear hb1 BF SK d0 d1 d2
          go_wp2
          go_ret
          exact ⟨ret_bool E.out.symm, (by repeat (first | exact B3.out | refine Below.drew ?_))⟩
    · have E := hideIt (onceD_mk (fun j h => H.out.2 j h (by omega)))
      have H1 := hideIt H.out.1
      clear H
      go_wp2
      go_ret
      exact ⟨ret_bool E.out.symm, H1.out⟩
end Go.Proofs.YtmeiionabonhnaaGreatDoor
