/- Several texts laid together: ImK, ImL, Word, PiA, PiB. -/
import Derived.Test.YtcilodgoognmnaaGreatDoorZAC
import Derived.Test.YtcilodgoognmnaaGreatDoorZAA
import Derived.Test.YtcilodgoognmnaaGreatDoorZAB
namespace Go.Proofs.YtcilodgoognmnaaGreatDoor
open Go.RowKit
def zem (zs : List Int) (n : Int) : Bool := zs.contains n
theorem has_not {zs : List Int} {n : Int} (h : ∀ j (h : j < zs.length), ¬ zs[j] = n) : zem zs n = false := by
 unfold zem
 rw [List.contains_eq_any_beq, List.any_eq_false]
 intro z hz
 obtain ⟨j, hj, rfl⟩ := List.getElem_of_mem hz
 simp only [beq_iff_eq]
 exact fun e => h j hj e.symm
set_option maxRecDepth 100000 in
set_option maxHeartbeats 2000000 in
theorem zlp (v : Value) (zs : List Int) (n : Int) (w : World) (h : RdI w v zs) (hn : zs.length ≤ 1048576) :
  Calls Tryz.prog 170 #[v, .int .i64 n] w fun e w' => e = .returned (.bool (zem zs n)) ∧ w' = w := by
 obtain ⟨aZ, cZ, rfl, _, hcZ⟩ := h.shape
 have HZ := zaa hcZ
 clear h hcZ
 go_enter Tryz.func170, Tryz.ntmps170
 go_wp2
 go_loop [5] (fun i => ∃ k : Nat, k ≤ zs.length ∧ i = .int .i64 k ∧ Hid (∀ j (h : j < zs.length), j < k → ¬ zs[j] = n)) (fun i => zs.length - (intOf i).toNat)
 case atStart => exact ⟨0, by omega, rfl, fun j h a => absurd a (by omega)⟩
 case round =>
  obtain ⟨k, hk, rfl, H⟩ := hrel
  by_cases hlt : k < zs.length
  ·obtain ⟨b, o, rfl, hbl, hcell⟩ := HZ.out (by omega)
   have d0 := hcell k hlt
   have k0 : (0 : Int) ≤ (k : Int) := by omega
   have k1 : (k : Int) < (zs.length : Int) := by omega
   have HY := zaa (fun e : zs[k] = n => show zem zs n = true by unfold zem; rw [← e]; exact List.contains_iff_mem.2 (List.getElem_mem hlt))
   have HX := zaa (fun (e : ¬ zs[k] = n) j (h : j < zs.length) (a : j < k + 1) => show ¬ zs[j] = n by
    by_cases q : j = k
    ·subst q; exact e
    ·exact H.out j h (by omega))
   clear hcell
   generalize zs[k] = z at *
   by_cases q : z = n
   ·have q1 : (z == n) = true := beq_iff_eq.2 q
    have E := zaa (HY.out q)
    clear q HX HY
    go_wp2
    go_ret
    exact ⟨zaf E.out.symm, rfl⟩
   ·have q1 : (z == n) = false := beq_eq_false_iff_ne.2 q
    have E := zaa (HX.out q)
    clear q HX HY
    go_wp2
    go_round
    case rel => exact ⟨k + 1, by omega, by go_num, E⟩
    case measure => simp [intOf]; omega
  ·obtain rfl : k = zs.length := by omega
   have E := zaa (has_not (fun j h => H.out j h h))
   go_wp2
   go_ret
   exact ⟨zaf E.out.symm, rfl⟩
theorem zru (b : Bool) (w : World) : Calls Tryz.prog 182 #[.bool b] w fun e w' => e = .returned (.int .i64 (if b = true then 1 else 0)) ∧ w' = w := by
 cases b
 all_goals
  go_enter Tryz.func182, Tryz.ntmps182
  go_wp2
  go_ret
  exact ⟨rfl, rfl⟩
def upD (ds : List Den) (c : Int) : Int := ((ds.find? fun x => x.child == c).map Den.dir).getD (-1)
theorem upD_no {ds : List Den} {c : Int} (h : ∀ j (h : j < ds.length), ¬ ds[j].child = c) : upD ds c = -1 := by
 unfold upD
 rw [List.find?_eq_none.2]
 ·rfl
 ·intro x hx
  obtain ⟨j, hj, rfl⟩ := List.getElem_of_mem hx
  simp only [beq_iff_eq]
  exact h j hj
theorem upD_yes {ds : List Den} {c : Int} {k : Nat} (hk : k < ds.length) (h : ∀ j (h : j < ds.length), j < k → ¬ ds[j].child = c) (e : ds[k].child = c) : upD ds c = ds[k].dir := by
 unfold upD
 have : ds.find? (fun x => x.child == c) = some ds[k] := List.find?_eq_some_iff_getElem.2 ⟨beq_iff_eq.2 e, k, hk, rfl, fun j hj => by
  have := h j (by omega) hj
  simp [this]⟩
 rw [this]
 rfl
set_option maxRecDepth 100000 in
set_option maxHeartbeats 2000000 in
theorem zvo (v : Value) (ws : List Ino) (ps : List Den) (c : Int) (w : World) (h : RdIm w v ws ps) (hn : ps.length ≤ 1048576) :
  Calls Tryz.prog 214 #[v, .int .i64 c] w fun e w' => e = .returned (.int .i64 (upD ps c)) ∧ Below w.heap.size w w' := by
 obtain ⟨vW, vP, rfl, h1, h2⟩ := h
 obtain ⟨aW, cW, rfl, _⟩ := h1.shape
 obtain ⟨aP, cP, rfl, _, hcP⟩ := h2.shape
 have HZ := zaa hcP
 clear h1 h2 hcP
 obtain ⟨W, hW⟩ : ∃ W, W = w.alloc (.cells #[.slice aW ws.length cW, .slice aP ps.length cP] 63) := ⟨_, rfl⟩
 have CA : Hid (∀ w', Below W.heap.size W w' → w'.cell? ⟨w.heap.size, 1, none⟩ = some (.slice aP ps.length cP)) := fun w' hb => by
  have : w'.heap[w.heap.size]? = some (.cells #[.slice aW ws.length cW, .slice aP ps.length cP] 63 (0, 0)) := (hb.block _ (by rw [hW]; simp)).trans (by rw [hW]; exact zah rfl)
  exact (zac this).2.1
 have BW : Hid (Below w.heap.size w W) := by rw [hW]; exact (Below.refl _ _).alloc (Nat.le_refl _) _
 have hz : w.heap.size ≤ W.heap.size := BW.out.size
 go_enter Tryz.func214, Tryz.ntmps214
 go_wp2
 rw [← hW]
 clear hW
 go_loopw [5] (fun i wr => ∃ k : Nat, k ≤ ps.length ∧ i = .int .i64 k ∧ Hid (Below W.heap.size W wr ∧ ∀ j (h : j < ps.length), j < k → ¬ ps[j].child = c)) (fun i _ => ps.length - (intOf i).toNat)
 case atStart => exact ⟨0, by omega, rfl, Below.refl _ _, fun j h a => absurd a (by omega)⟩
 case round =>
  obtain ⟨k, hk, rfl, J⟩ := hrel
  have x1 := CA.out wr J.out.1
  by_cases hlt : k < ps.length
  ·obtain ⟨b, o, rfl, hbl, hcell⟩ := HZ.out (by omega)
   have BR := zab BW.out J.out.1 hz
   obtain ⟨c0, c1, c2⟩ := hcell k hlt
   have d0 := (BR.cell (p := ⟨b, o + k * 3, none⟩) hbl).trans c0
   have d2 := (BR.cell (p := ⟨b, o + k * 3 + 2, none⟩) hbl).trans c2
   have B := zaa BR
   have k0 : (0 : Int) ≤ (k : Int) := by omega
   have k1 : (k : Int) < (ps.length : Int) := by omega
   have HY := zaa (fun e : ps[k].child = c => upD_yes hlt J.out.2 e)
   have HX := zaa (fun (e : ¬ ps[k].child = c) j (h : j < ps.length) (a : j < k + 1) => show ¬ ps[j].child = c by
    by_cases q : j = k
    ·subst q; exact e
    ·exact J.out.2 j h (by omega))
   clear hcell c0 c1 c2 BR
   generalize ps[k].child = z at *
   generalize ps[k].dir = y at *
   by_cases q : z = c
   ·have q1 : (z == c) = true := beq_iff_eq.2 q
    have E := zaa (HY.out q)
    clear q HX HY
    go_wp2
    go_ret
    exact ⟨zcd E.out.symm, B.out⟩
   ·have q1 : (z == c) = false := beq_eq_false_iff_ne.2 q
    have E : Hid (Below W.heap.size W wr ∧ ∀ j (h : j < ps.length), j < k + 1 → ¬ ps[j].child = c) := ⟨J.out.1, HX.out q⟩
    clear q HX HY
    go_wp2
    go_roundw
    case rel => exact ⟨k + 1, by omega, by go_num, E⟩
    case measure => simp [intOf]; omega
  ·obtain rfl : k = ps.length := by omega
   have E := zaa (upD_no (fun j h => J.out.2 j h h))
   go_wp2
   go_ret
   exact ⟨zcd E.out.symm, zab BW.out J.out.1 hz⟩
def zct (ds : List Den) : Nat → Int → Bool
 | 0, _ => false
 | n + 1, d => if d = 0 then true else if upD ds d < 0 then false else zct ds n (upD ds d)
set_option maxRecDepth 100000 in
set_option maxHeartbeats 2000000 in
theorem zvm (v : Value) (ws : List Ino) (ps : List Den) (c : Int) (w : World) (h : RdIm w v ws ps) (hn : ps.length ≤ 1048576) :
  Calls Tryz.prog 183 #[v, .int .i64 c] w fun e w' => e = .returned (.bool (zct ps 16 c)) ∧ Below w.heap.size w w' := by
 have HR := zaa h
 obtain ⟨vW, vP, rfl, h1, h2⟩ := h
 obtain ⟨aW, cW, rfl, _⟩ := h1.shape
 obtain ⟨aP, cP, rfl, _, hcP⟩ := h2.shape
 clear h1 h2 hcP
 obtain ⟨W, hW⟩ : ∃ W, W = w.alloc (.cells #[.slice aW ws.length cW, .slice aP ps.length cP] 63) := ⟨_, rfl⟩
 have CA : Hid (∀ w', Below W.heap.size W w' → w'.cell? ⟨w.heap.size, 0, none⟩ = some (.slice aW ws.length cW) ∧ w'.cell? ⟨w.heap.size, 1, none⟩ = some (.slice aP ps.length cP)) := fun w' hb => by
  have : w'.heap[w.heap.size]? = some (.cells #[.slice aW ws.length cW, .slice aP ps.length cP] 63 (0, 0)) := (hb.block _ (by rw [hW]; simp)).trans (by rw [hW]; exact zah rfl)
  exact ⟨(zac this).1, (zac this).2.1⟩
 have BW : Hid (Below w.heap.size w W) := by rw [hW]; exact (Below.refl _ _).alloc (Nat.le_refl _) _
 have hz : w.heap.size ≤ W.heap.size := BW.out.size
 have LU := zaa (fun d w1 h => zvo (.agg #[.slice aW ws.length cW, .slice aP ps.length cP]) ws ps d w1 h hn)
 go_enter Tryz.func183, Tryz.ntmps183
 go_wp2
 rw [← hW]
 clear hW
 go_loopw [1, 5] (fun d i wr => ∃ (k : Nat) (z : Int), k ≤ 16 ∧ i = .int .i64 k ∧ d = .int .i64 z ∧ Hid (Below W.heap.size W wr ∧ zct ps 16 c = zct ps (16 - k) z)) (fun _ i _ => 16 - (intOf i).toNat)
 case atStart => exact ⟨0, c, by omega, rfl, rfl, Below.refl _ _, rfl⟩
 case round =>
  obtain ⟨k, z, hk, rfl, rfl, J⟩ := hrel
  obtain ⟨x0, x1⟩ := CA.out wr J.out.1
  by_cases hlt : k < 16
  ·have ES := zaa (show zct ps (16 - k) z = if z = 0 then true else if upD ps z < 0 then false else zct ps (16 - (k + 1)) (upD ps z) by
    rw [show 16 - k = (16 - (k + 1)) + 1 by omega]; rfl)
   have B := zaa (zab BW.out J.out.1 hz)
   by_cases q : z = 0
   ·subst q
    have E := zaa (show zct ps 16 c = true by rw [J.out.2, ES.out, if_pos rfl])
    go_wp2
    go_ret
    exact ⟨zaf E.out.symm, B.out⟩
   ·have q1 : (z == 0) = false := beq_eq_false_iff_ne.2 q
    have R := zaa (HR.out.below B.out)
    by_cases r : upD ps z < 0
    ·have E := zaa (show zct ps 16 c = false by rw [J.out.2, ES.out, if_neg q, if_pos r])
     go_wp2_with fail
     refine (LU.out _ _ R.out).mono ?_
     rintro e w1 ⟨rfl, hb1⟩
     have B1 := zaa (zab B.out hb1 B.out.size)
     clear hb1
     go_wp2
     go_ret
     exact ⟨zaf E.out.symm, B1.out⟩
    ·have E := zaa (show zct ps 16 c = zct ps (16 - (k + 1)) (upD ps z) by rw [J.out.2, ES.out, if_neg q, if_neg r])
     go_wp2_with fail
     refine (LU.out _ _ R.out).mono ?_
     rintro e w1 ⟨rfl, hb1⟩
     have B1 := zaa (zab J.out.1 hb1 J.out.1.size)
     clear hb1
     go_wp2
     go_roundw
     case rel => exact ⟨k + 1, _, by omega, by go_num, rfl, B1.out, E.out⟩
     case measure => simp [intOf]; omega
  ·obtain rfl : k = 16 := by omega
   have E := zaa (show zct ps 16 c = false by rw [J.out.2]; rfl)
   go_wp2
   go_ret
   exact ⟨zaf E.out.symm, zab BW.out J.out.1 hz⟩
end Go.Proofs.YtcilodgoognmnaaGreatDoor

namespace Go.Proofs.YtcilodgoognmnaaGreatDoor
open Go.RowKit
def zmh (ds : List Den) (c : Int) (k : Nat) : Nat := ((ds.take k).filter fun x => x.child == c).length
theorem cntD_zero (ds : List Den) (c : Int) : zmh ds c 0 = 0 := rfl
theorem zkn {ds : List Den} {c : Int} {k : Nat} (h : k < ds.length) : zmh ds c (k + 1) = zmh ds c k + (if (ds[k].child == c) = true then 1 else 0) := by
 unfold zmh
 rw [List.take_succ_eq_append_getElem h, List.filter_append, List.length_append]
 congr 1
 cases q : ds[k].child == c <;> simp [List.filter, q]
theorem cntD_le (ds : List Den) (c : Int) (k : Nat) : zmh ds c k ≤ k := by
 unfold zmh
 exact Nat.le_trans (List.length_filter_le _ _) (by simp; omega)
def zgh (ps : List Den) (i : Nat) (x : Ino) : Bool := decide ((if i = 0 then 1 else 0) + (zmh ps i ps.length : Int) = x.links) && (decide (¬ x.kind = 2) || zct ps 16 i)
def zfq (ws : List Ino) (ps : List Den) : Bool := decide (∀ i (h : i < ws.length), zgh ps i ws[i] = true)
theorem linksB_not {ws : List Ino} {ps : List Den} {i : Nat} (h : i < ws.length) (q : zgh ps i ws[i] = false) : zfq ws ps = false := decide_eq_false (fun e => by rw [e i h] at q; cases q)
theorem l01Bit_t (w : World) : Calls Tryz.prog 182 #[.bool true] w fun e w' => e = .returned (.int .i64 1) ∧ w' = w := zru true w
theorem l01Bit_f (w : World) : Calls Tryz.prog 182 #[.bool false] w fun e w' => e = .returned (.int .i64 0) ∧ w' = w := zru false w
set_option maxRecDepth 100000 in
set_option maxHeartbeats 4000000 in
theorem zvl (v : Value) (ws : List Ino) (ps : List Den) (w : World) (h : RdIm w v ws ps) (hm : ws.length ≤ 1048576) (hn : ps.length ≤ 1048576) :
  Calls Tryz.prog 127 #[v] w fun e w' => e = .returned (.bool (zfq ws ps)) ∧ Below w.heap.size w w' := by
 have HR := zaa h
 obtain ⟨vW, vP, rfl, h1, h2⟩ := h
 obtain ⟨aW, cW, rfl, _, hcW⟩ := h1.shape
 obtain ⟨aP, cP, rfl, _, hcP⟩ := h2.shape
 have HW := zaa hcW
 have HZ := zaa hcP
 clear h1 h2 hcP hcW
 obtain ⟨W, hW⟩ : ∃ W, W = w.alloc (.cells #[.slice aW ws.length cW, .slice aP ps.length cP] 63) := ⟨_, rfl⟩
 have CA : Hid (∀ w', Below W.heap.size W w' → w'.cell? ⟨w.heap.size, 0, none⟩ = some (.slice aW ws.length cW) ∧ w'.cell? ⟨w.heap.size, 1, none⟩ = some (.slice aP ps.length cP)) := fun w' hb => by
  have : w'.heap[w.heap.size]? = some (.cells #[.slice aW ws.length cW, .slice aP ps.length cP] 63 (0, 0)) := (hb.block _ (by rw [hW]; simp)).trans (by rw [hW]; exact zah rfl)
  exact ⟨(zac this).1, (zac this).2.1⟩
 have BW : Hid (Below w.heap.size w W) := by rw [hW]; exact (Below.refl _ _).alloc (Nat.le_refl _) _
 have hz : w.heap.size ≤ W.heap.size := BW.out.size
 have LH := zaa (fun d w1 h => zvm (.agg #[.slice aW ws.length cW, .slice aP ps.length cP]) ws ps d w1 h hn)
 go_enter Tryz.func127, Tryz.ntmps127
 go_wp2
 rw [← hW]
 clear hW
 go_loopw [3] (fun i wr => ∃ k : Nat, k ≤ ws.length ∧ i = .int .i64 k ∧ Hid (Below W.heap.size W wr ∧ ∀ j (h : j < ws.length), j < k → zgh ps j ws[j] = true)) (fun i _ => ws.length - (intOf i).toNat)
 case atStart => exact ⟨0, by omega, rfl, Below.refl _ _, fun j h a => absurd a (by omega)⟩
 case round =>
  obtain ⟨i, hi, rfl, J⟩ := hrel
  obtain ⟨x0, x1⟩ := CA.out wr J.out.1
  by_cases hlt : i < ws.length
  ·have i0 : (0 : Int) ≤ (i : Int) := by omega
   have i1 : (i : Int) < (ws.length : Int) := by omega
   obtain ⟨b0, HB, b1, LB⟩ : ∃ b0 : Int, Hid (b0 = if i = 0 then 1 else 0) ∧ (0 ≤ b0 ∧ b0 ≤ 1) ∧ Hid (∀ w1 : World, Calls Tryz.prog 182 #[.bool ((i : Int) == 0)] w1 fun e w' => e = .returned (.int .i64 b0) ∧ w' = w1) := by
    by_cases q : i = 0
    ·refine ⟨1, zaa (by rw [if_pos q]), by omega, fun w1 => ?_⟩
     rw [show ((i : Int) == 0) = true by rw [beq_iff_eq]; omega]
     exact l01Bit_t w1
    ·refine ⟨0, zaa (by rw [if_neg q]), by omega, fun w1 => ?_⟩
     rw [show ((i : Int) == 0) = false by rw [beq_eq_false_iff_ne]; omega]
     exact l01Bit_f w1
   have START : Hid (Below W.heap.size W wr) := J.out.1
   go_wp2_with (go_at_call 182; refine (LB.out _).mono ?_; rintro e w' ⟨rfl, hw'⟩; subst w')
   go_loopw [4, 5] (fun n kk wq => ∃ k : Nat, k ≤ ps.length ∧ kk = .int .i64 k ∧ n = .int .i64 (b0 + (zmh ps i k : Int)) ∧ Hid (Below W.heap.size W wq)) (fun _ kk _ => ps.length - (intOf kk).toNat)
   case atStart => exact ⟨0, by omega, rfl, by rw [cntD_zero]; simp, START⟩
   case round =>
    obtain ⟨k, hk, rfl, rfl, K⟩ := hrel
    obtain ⟨y0, y1⟩ := CA.out wr K.out
    have B := zaa (zab BW.out K.out hz)
    have cl := cntD_le ps i k
    have k0 : (0 : Int) ≤ (k : Int) := by omega
    clear x0 x1 START
    by_cases hlk : k < ps.length
    ·obtain ⟨b, o, rfl, hbl, hcell⟩ := HZ.out (by omega)
     obtain ⟨_, _, c2⟩ := hcell k hlk
     have d2 := (B.out.cell (p := ⟨b, o + k * 3 + 2, none⟩) hbl).trans c2
     have k1 : (k : Int) < (ps.length : Int) := by omega
     obtain ⟨t, HT, t1, LT⟩ : ∃ t : Int, Hid ((zmh ps i (k + 1) : Int) = (zmh ps i k : Int) + t) ∧ (0 ≤ t ∧ t ≤ 1) ∧ Hid (∀ w1 : World, Calls Tryz.prog 182 #[.bool (ps[k].child == (i : Int))] w1 fun e w' => e = .returned (.int .i64 t) ∧ w' = w1) := by
      cases q : (ps[k].child == (i : Int))
      ·refine ⟨0, zaa (by rw [zkn hlk, q]; simp), by omega, fun w1 => ?_⟩
       exact l01Bit_f w1
      ·refine ⟨1, zaa (by rw [zkn hlk, q]; simp), by omega, fun w1 => ?_⟩
       exact l01Bit_t w1
     clear hcell c2
     generalize ps[k].child = z at *
     have cc0 : (0 : Int) ≤ (zmh ps i k : Int) ∧ (zmh ps i k : Int) ≤ 1048576 := by omega
     generalize (zmh ps i k : Int) = cc at *
     go_wp2_with (go_at_call 182; refine (LT.out _).mono ?_; rintro e w' ⟨rfl, hw'⟩; subst w')
     go_roundw
     case rel => exact ⟨k + 1, by omega, by go_num, by rw [HT.out, Int.add_assoc], K⟩
     case measure => simp [intOf]; omega
    ·obtain rfl : k = ps.length := by omega
     obtain ⟨b, o, rfl, hbl, hcell⟩ := HW.out (by omega)
     obtain ⟨c0, _, c2, _⟩ := hcell i hlt
     have d0 := (B.out.cell (p := ⟨b, o + i * 11, none⟩) hbl).trans c0
     have d2 := (B.out.cell (p := ⟨b, o + i * 11 + 2, none⟩) hbl).trans c2
     have EL := zaa (show zgh ps i ws[i] = (decide (b0 + (zmh ps i ps.length : Int) = ws[i].links) && (decide (¬ ws[i].kind = 2) || zct ps 16 i)) by unfold zgh; rw [HB.out])
     have NO := zaa (fun e => linksB_not (ps := ps) hlt e)
     have YES := zaa (fun (e : zgh ps i ws[i] = true) j (h : j < ws.length) (a : j < i + 1) => show zgh ps j ws[j] = true by
      by_cases q : j = i
      ·subst q; exact e
      ·exact J.out.2 j h (by omega))
     clear hcell c0 c2 J HB LB
     have cc0 : (0 : Int) ≤ (zmh ps i ps.length : Int) ∧ (zmh ps i ps.length : Int) ≤ 1048576 := by omega
     generalize (zmh ps i ps.length : Int) = cc at *
     generalize zgh ps i ws[i] = lb at EL NO YES
     generalize ws[i].links = zl at *
     generalize ws[i].kind = zk at *
     by_cases q : b0 + cc = zl
     ·by_cases r : zk = 2
      ·subst r
       cases hh : zct ps 16 i with
       | true =>
        have E := zaa (YES.out (by rw [EL.out, decide_eq_true q, hh]; rfl))
        have HH := zaa hh
        have R := zaa (HR.out.below B.out)
        have q1 : (b0 + cc != zl) = false := by rw [q]; simp
        clear hh EL NO YES q
        go_wp2_with fail
        refine (LH.out _ _ R.out).mono ?_
        rw [HH.out]
        rintro e w1 ⟨rfl, hb1⟩
        have B1 := zaa (zab K.out hb1 K.out.size)
        clear hb1
        go_wp2
        go_roundw
        case rel => exact ⟨i + 1, by omega, by go_num, B1.out, E.out⟩
        case measure => simp [intOf]; omega
       | false =>
        have E := zaa (NO.out (by rw [EL.out, hh]; simp))
        have HH := zaa hh
        have R := zaa (HR.out.below B.out)
        have q1 : (b0 + cc != zl) = false := by rw [q]; simp
        clear hh EL NO YES q
        go_wp2_with fail
        refine (LH.out _ _ R.out).mono ?_
        rw [HH.out]
        rintro e w1 ⟨rfl, hb1⟩
        have B1 := zaa (zab B.out hb1 B.out.size)
        clear hb1
        go_wp2
        go_ret
        exact ⟨zaf E.out.symm, B1.out⟩
      ·have E : Hid (Below W.heap.size W wr ∧ ∀ j (h : j < ws.length), j < i + 1 → zgh ps j ws[j] = true) := ⟨K.out, YES.out (by rw [EL.out, decide_eq_true q, decide_eq_true r]; rfl)⟩
       have r1 : (zk == 2) = false := beq_eq_false_iff_ne.2 r
       have q1 : (b0 + cc != zl) = false := by rw [q]; simp
       clear EL NO YES q r
       go_wp2
       go_roundw
       case rel => exact ⟨i + 1, by omega, by go_num, E⟩
       case measure => simp [intOf]; omega
     ·have q1 : (b0 + cc != zl) = true := by rw [bne_iff_ne]; exact q
      have E := zaa (NO.out (by rw [EL.out, decide_eq_false q]; rfl))
      clear q EL NO YES
      go_wp2
      go_ret
      exact ⟨zaf E.out.symm, B.out⟩
  ·obtain rfl : i = ws.length := by omega
   have E := zaa (show zfq ws ps = true from decide_eq_true (fun j h => J.out.2 j h h))
   go_wp2
   go_ret
   exact ⟨zaf E.out.symm, zab BW.out J.out.1 hz⟩
end Go.Proofs.YtcilodgoognmnaaGreatDoor

namespace Go.Proofs.YtcilodgoognmnaaGreatDoor
open Go.RowKit
def zbc (n : Int) : Bool := decide (0 ≤ n ∧ n < 1099511627776)
def zbp (n : Int) : Bool := decide (0 ≤ n ∧ n < 336)
def zmo (n : Int) : Bool := decide (0 ≤ n ∧ n < 32)
theorem secB_true {n : Int} (h : zmo n = true) : 0 ≤ n ∧ n < 32 := of_decide_eq_true h
theorem zgo {n : Int} (h : zbp n = true) : 0 ≤ n ∧ n < 336 := of_decide_eq_true h
theorem zdp (n : Int) (w : World) : Calls Tryz.prog 53 #[.int .i64 n] w fun e w' => e = .returned (.bool (zbc n)) ∧ w' = w := by
 by_cases h0 : 0 ≤ n
 ·by_cases h1 : n < 1099511627776
  ·have e : zbc n = true := decide_eq_true ⟨h0, h1⟩
   rw [e]; clear e
   go_enter Tryz.func53, Tryz.ntmps53
   go_wp2
   go_ret
   exact ⟨rfl, rfl⟩
  ·have e : zbc n = false := decide_eq_false (fun h => h1 h.2)
   rw [e]; clear e
   go_enter Tryz.func53, Tryz.ntmps53
   go_wp2
   go_ret
   exact ⟨rfl, rfl⟩
 ·have e : zbc n = false := decide_eq_false (fun h => h0 h.1)
  rw [e]; clear e
  go_enter Tryz.func53, Tryz.ntmps53
  go_wp2
  go_ret
  exact ⟨rfl, rfl⟩
theorem zcg (n : Int) (w : World) : Calls Tryz.prog 173 #[.int .i64 n] w fun e w' => e = .returned (.bool (zbp n)) ∧ w' = w := by
 by_cases h0 : 0 ≤ n
 ·by_cases h1 : n < 336
  ·have e : zbp n = true := decide_eq_true ⟨h0, h1⟩
   rw [e]; clear e
   go_enter Tryz.func173, Tryz.ntmps173
   go_wp2
   go_ret
   exact ⟨rfl, rfl⟩
  ·have e : zbp n = false := decide_eq_false (fun h => h1 h.2)
   rw [e]; clear e
   go_enter Tryz.func173, Tryz.ntmps173
   go_wp2
   go_ret
   exact ⟨rfl, rfl⟩
 ·have e : zbp n = false := decide_eq_false (fun h => h0 h.1)
  rw [e]; clear e
  go_enter Tryz.func173, Tryz.ntmps173
  go_wp2
  go_ret
  exact ⟨rfl, rfl⟩
theorem zdw (n : Int) (w : World) : Calls Tryz.prog 208 #[.int .i64 n] w fun e w' => e = .returned (.bool (zmo n)) ∧ w' = w := by
 by_cases h0 : 0 ≤ n
 ·by_cases h1 : n < 32
  ·have e : zmo n = true := decide_eq_true ⟨h0, h1⟩
   rw [e]; clear e
   go_enter Tryz.func208, Tryz.ntmps208
   go_wp2
   go_ret
   exact ⟨rfl, rfl⟩
  ·have e : zmo n = false := decide_eq_false (fun h => h1 h.2)
   rw [e]; clear e
   go_enter Tryz.func208, Tryz.ntmps208
   go_wp2
   go_ret
   exact ⟨rfl, rfl⟩
 ·have e : zmo n = false := decide_eq_false (fun h => h0 h.1)
  rw [e]; clear e
  go_enter Tryz.func208, Tryz.ntmps208
  go_wp2
  go_ret
  exact ⟨rfl, rfl⟩
def inB (n lo hi : Int) : Bool := decide (lo ≤ n ∧ n ≤ hi)
theorem zon (n lo hi : Int) (w : World) : Calls Tryz.prog 91 #[.int .i64 n, .int .i64 lo, .int .i64 hi] w fun e w' => e = .returned (.bool (inB n lo hi)) ∧ w' = w := by
 by_cases h0 : lo ≤ n
 ·by_cases h1 : n ≤ hi
  ·have e : inB n lo hi = true := decide_eq_true ⟨h0, h1⟩
   rw [e]; clear e
   go_enter Tryz.func91, Tryz.ntmps91
   go_wp2
   go_ret
   exact ⟨rfl, rfl⟩
  ·have e : inB n lo hi = false := decide_eq_false (fun h => h1 h.2)
   rw [e]; clear e
   go_enter Tryz.func91, Tryz.ntmps91
   go_wp2
   go_ret
   exact ⟨rfl, rfl⟩
 ·have e : inB n lo hi = false := decide_eq_false (fun h => h0 h.1)
  rw [e]; clear e
  go_enter Tryz.func91, Tryz.ntmps91
  go_wp2
  go_ret
  exact ⟨rfl, rfl⟩
theorem inB_word (n : Int) : inB n 0 1099511627775 = zbc n := by
 unfold inB zbc
 rw [decide_eq_decide]
 omega
theorem inB_place (n : Int) : inB n 0 335 = zbp n := by
 unfold inB zbp
 rw [decide_eq_decide]
 omega
theorem inB_sec (n : Int) : inB n 0 31 = zmo n := by
 unfold inB zmo
 rw [decide_eq_decide]
 omega
theorem zhj (n : Int) (w : World) : Calls Tryz.prog 91 #[.int .i64 n, .int .i64 0, .int .i64 31] w fun e w' => e = .returned (.bool (zmo n)) ∧ w' = w := by
 rw [← inB_sec]
 exact zon n 0 31 w
theorem zfg (n : Int) (w : World) : Calls Tryz.prog 91 #[.int .i64 n, .int .i64 0, .int .i64 335] w fun e w' => e = .returned (.bool (zbp n)) ∧ w' = w := by
 rw [← inB_place]
 exact zon n 0 335 w
theorem zbu (n : Int) (w : World) : Calls Tryz.prog 105 #[.int .i64 n] w fun e w' => e = .returned (.bool (zbc n)) ∧ w' = w := by
 have E := zaa (inB_word n)
 go_enter Tryz.func105, Tryz.ntmps105
 go_wp2_with fail
 refine (zon n 0 1099511627775 _).mono ?_
 rw [E.out]
 rintro e w' ⟨rfl, rfl⟩
 go_wp2
 go_ret
 exact ⟨rfl, rfl⟩
def ziu (zs : List Int) : Bool := decide (∀ k (h : k < zs.length), zbc zs[k] = true)
theorem zoa {zs : List Int} (h : ziu zs = true) : ∀ k (h : k < zs.length), zbc zs[k] = true := of_decide_eq_true h
theorem zud {zs : List Int} (h : ∀ k (h : k < zs.length), zbc zs[k] = true) : ziu zs = true := decide_eq_true h
theorem wordsB_not {zs : List Int} {k : Nat} (hk : k < zs.length) (h : zbc zs[k] = false) : ziu zs = false := decide_eq_false (fun x => by have := x k hk; rw [h] at this; cases this)
theorem zuw {zs : List Int} (h : ziu zs = false) : ∃ k, ∃ h : k < zs.length, zbc zs[k] = false := by
 apply Classical.byContradiction
 intro hn
 have : ziu zs = true := zud (fun k hk => by
  cases e : zbc zs[k] with
  | true => rfl
  | false => exact absurd ⟨k, hk, e⟩ hn)
 rw [h] at this
 cases this
end Go.Proofs.YtcilodgoognmnaaGreatDoor

namespace Go.Proofs.YtcilodgoognmnaaGreatDoor
open Go.RowKit
def Ino.ns (x : Ino) : List Int := [x.kind, x.size, x.links, x.m0, x.m1, x.m2, x.m3, x.m4, x.m5, x.m6, x.m7]
def tiesB (zs : List Int) : Bool := decide (∀ k (h : k < zs.length), zgf zs[k] = true)
def nowsB (zs : List Int) : Bool := decide (∀ k (h : k < zs.length), (zs[k] == 0) = true)
def zjo (x : Ino) : Bool := decide (x.kind = 1) && (decide (1 ≤ x.links ∧ x.links ≤ 24) && (decide (0 ≤ x.size ∧ x.size < 9) && (tiesB (x.map.take x.size.toNat) && nowsB (x.map.drop x.size.toNat))))
theorem tieB_zero : zgf 0 = true := by decide
theorem ino_empty {x : Ino} (h : x.ns = [0, 0, 0, 0, 0, 0, 0, 0, 0, 0, 0]) : zep x = true := by
 obtain ⟨k, s, l, m0, m1, m2, m3, m4, m5, m6, m7⟩ := x
 simp only [Ino.ns, List.cons.injEq, and_true] at h
 obtain ⟨rfl, rfl, rfl, rfl, rfl, rfl, rfl, rfl, rfl, rfl, rfl⟩ := h
 decide
theorem ino_dir {x : Ino} (h : x.ns = [2, 0, 1, 0, 0, 0, 0, 0, 0, 0, 0]) : zep x = true := by
 obtain ⟨k, s, l, m0, m1, m2, m3, m4, m5, m6, m7⟩ := x
 simp only [Ino.ns, List.cons.injEq, and_true] at h
 obtain ⟨rfl, rfl, rfl, rfl, rfl, rfl, rfl, rfl, rfl, rfl, rfl⟩ := h
 decide
theorem map_parts {x : Ino} (h0 : 0 ≤ x.size) (h8 : x.size ≤ 8) : mapB x.map x.size = (tiesB (x.map.take x.size.toNat) && nowsB (x.map.drop x.size.toNat)) := by
 rw [Bool.eq_iff_iff, Bool.and_eq_true]
 have hl : x.map.length = 8 := rfl
 have hg : ∀ i (h : i < 8), x.map.getD i 0 = x.map[i]'(by rw [hl]; exact h) := fun i h => by
  rw [List.getD_eq_getElem?_getD, List.getElem?_eq_getElem (by rw [hl]; exact h)]; rfl
 constructor
 ·intro h
  have h := zrv h
  refine ⟨decide_eq_true fun k hk => ?_, decide_eq_true fun k hk => ?_⟩
  ·rw [List.length_take, hl] at hk
   have := h k (by omega)
   rw [hg k (by omega)] at this
   rw [List.getElem_take]
   unfold entB at this
   exact (Bool.and_eq_true _ _ ▸ this : _ ∧ _).1
  ·rw [List.length_drop, hl] at hk
   have := h (x.size.toNat + k) (by omega)
   rw [hg _ (by omega)] at this
   rw [List.getElem_drop]
   unfold entB at this
   have := (Bool.and_eq_true _ _ ▸ this : _ ∧ _).2
   rw [Bool.or_eq_true] at this
   rcases this with h1 | h1
   ·exact h1
   ·have := of_decide_eq_true h1
    omega
 ·rintro ⟨h1, h2⟩
  have h1 := of_decide_eq_true h1
  have h2 := of_decide_eq_true h2
  refine mapB_of fun i hi => ?_
  rw [hg i hi]
  unfold entB
  rw [Bool.and_eq_true, Bool.or_eq_true]
  by_cases hs : i < x.size.toNat
  ·have := h1 i (by rw [List.length_take, hl]; omega)
   rw [List.getElem_take] at this
   exact ⟨this, .inr (decide_eq_true (by omega))⟩
  ·have := h2 (i - x.size.toNat) (by rw [List.length_drop, hl]; omega)
   rw [List.getElem_drop] at this
   have e : x.size.toNat + (i - x.size.toNat) = i := by omega
   simp only [e] at this
   exact ⟨by rw [eq_of_beq this]; exact tieB_zero, .inl this⟩
theorem map_nought {x : Ino} (h0 : x.size = 0) (h : mapB x.map x.size = true) : x.map = [0, 0, 0, 0, 0, 0, 0, 0] := by
 have h := zrv h
 have g : ∀ i, i < 8 → x.map.getD i 0 = 0 := fun i hi => by
  have := h i hi
  unfold entB at this
  have := (Bool.and_eq_true _ _ ▸ this : _ ∧ _).2
  rw [Bool.or_eq_true] at this
  rcases this with h1 | h1
  ·exact eq_of_beq h1
  ·have := of_decide_eq_true h1; omega
 have a0 := g 0 (by omega); have a1 := g 1 (by omega); have a2 := g 2 (by omega); have a3 := g 3 (by omega); have a4 := g 4 (by omega); have a5 := g 5 (by omega); have a6 := g 6 (by omega); have a7 := g 7 (by omega)
 simp [Ino.map] at *
 exact ⟨a0, a1, a2, a3, a4, a5, a6, a7⟩
theorem ino_file {x : Ino} (h0 : ¬ x.ns = [0, 0, 0, 0, 0, 0, 0, 0, 0, 0, 0]) (h1 : ¬ x.ns = [2, 0, 1, 0, 0, 0, 0, 0, 0, 0, 0]) : zjo x = zep x := by
 by_cases hk : x.kind = 1
 ·unfold zjo zep
  rw [decide_eq_true hk, decide_eq_true (show 0 ≤ x.kind ∧ x.kind ≤ 2 by omega)]
  simp only [Bool.true_and]
  by_cases hs : 0 ≤ x.size ∧ x.size ≤ 8
  ·rw [decide_eq_true hs, decide_eq_true (show 0 ≤ x.size ∧ x.size < 9 by omega), ← map_parts hs.1 hs.2]
   have e : zjq x = decide (0 < x.links) := by unfold zjq; rw [if_neg (by omega), if_neg (by omega)]
   rw [e]
   by_cases hl : 1 ≤ x.links ∧ x.links ≤ 24
   ·rw [decide_eq_true hl, decide_eq_true (show 0 ≤ x.links ∧ x.links ≤ 24 by omega), decide_eq_true (show 0 < x.links by omega)]; simp
   ·rw [decide_eq_false hl]
    by_cases h3 : 0 < x.links
    ·rw [decide_eq_false (show ¬ (0 ≤ x.links ∧ x.links ≤ 24) by omega)]; simp
    ·rw [decide_eq_false h3]; simp
  ·rw [decide_eq_false hs, decide_eq_false (show ¬ (0 ≤ x.size ∧ x.size < 9) by omega)]; simp
 ·have e1 : zjo x = false := by unfold zjo; rw [decide_eq_false hk]; rfl
  rw [e1, eq_comm, Bool.eq_false_iff]
  intro e
  unfold zep at e
  simp only [Bool.and_eq_true, decide_eq_true_eq] at e
  obtain ⟨a, b, c, d, f⟩ := e
  unfold zjq at f
  by_cases k0 : x.kind = 0
  ·rw [if_pos k0] at f
   obtain ⟨f1, f2, f3⟩ := of_decide_eq_true f
   apply h0
   simp only [Ino.map, List.cons.injEq, and_true] at f3
   simp [Ino.ns, k0, f1, f2, f3]
  ·rw [if_neg k0, if_pos (by omega)] at f
   simp only [Bool.and_eq_true, beq_iff_eq] at f
   have f3 := map_nought f.1 d
   apply h1
   simp only [Ino.map, List.cons.injEq, and_true] at f3
   have k2 : x.kind = 2 := by omega
   simp [Ino.ns, k2, f.1, f.2, f3]
def ED (w : World) : Prop := ∃ t fr, w.heap[3]? = some (.cells #[.int .i64 2, .int .i64 0, .int .i64 1, .int .i64 0, .int .i64 0, .int .i64 0, .int .i64 0, .int .i64 0, .int .i64 0, .int .i64 0, .int .i64 0] t fr)
theorem ED.lt {w : World} (h : ED w) : 3 < w.heap.size := by
 obtain ⟨t, fr, h⟩ := h
 exact (Array.getElem?_eq_some_iff.1 h).1
theorem ED.below {w w' : World} (h : ED w) (hb : Below w.heap.size w w') : ED w' := by
 have hl := h.lt
 obtain ⟨t, fr, h⟩ := h
 exact ⟨t, fr, (hb.block _ hl).trans h⟩
theorem ED.cells {w : World} (h : ED w) : w.cell? ⟨3, 0, none⟩ = some (.int .i64 2) ∧ w.cell? ⟨3, 1, none⟩ = some (.int .i64 0) ∧ w.cell? ⟨3, 2, none⟩ = some (.int .i64 1) ∧ w.cell? ⟨3, 3, none⟩ = some (.int .i64 0) ∧ w.cell? ⟨3, 4, none⟩ = some (.int .i64 0) ∧ w.cell? ⟨3, 5, none⟩ = some (.int .i64 0) ∧ w.cell? ⟨3, 6, none⟩ = some (.int .i64 0) ∧ w.cell? ⟨3, 7, none⟩ = some (.int .i64 0) ∧ w.cell? ⟨3, 8, none⟩ = some (.int .i64 0) ∧ w.cell? ⟨3, 9, none⟩ = some (.int .i64 0) ∧ w.cell? ⟨3, 10, none⟩ = some (.int .i64 0) := by
 obtain ⟨t, fr, h⟩ := h
 simp [World.cell?, h]
theorem zpp (n : Int) (w : World) (hT : TS w) (h0 : -9223372036854775808 ≤ n) (h1 : n ≤ 9223372036854775807) : Calls Tryz.prog 244 #[.int .i64 n] w fun e w' => e = .returned (.bool (zgf n)) ∧ w' = w := by
 have T := zaa hT
 clear hT
 cases c : zgf n with
 | true =>
  have E := zaa (zrl c).2.2
  clear c
  go_enter Tryz.func244, Tryz.ntmps244
  go_wp2_with (go_at_call 100; refine (zdt _ _ T.out h0 h1).mono ?_; rw [E.out]; rintro e w' ⟨rfl, rfl⟩)
  go_ret
  exact ⟨rfl, rfl⟩
 | false =>
  have E := zaa (tie_out c).2.2
  clear c
  go_enter Tryz.func244, Tryz.ntmps244
  go_wp2_with (go_at_call 100; refine (zdt _ _ T.out h0 h1).mono ?_; rw [E.out]; rintro e w' ⟨rfl, rfl⟩)
  go_ret
  exact ⟨rfl, rfl⟩
theorem zeh (n : Int) (w : World) : Calls Tryz.prog 131 #[.int .i64 n] w fun e w' => e = .returned (.bool (n == 0)) ∧ w' = w := by
 go_enter Tryz.func131, Tryz.ntmps131
 go_wp2
 go_ret
 exact ⟨rfl, rfl⟩
theorem tiesB_mk {zs : List Int} (h : ∀ k (h : k < zs.length), zgf zs[k] = true) : tiesB zs = true := decide_eq_true h
theorem tiesB_not {zs : List Int} {k : Nat} (hk : k < zs.length) (h : zgf zs[k] = false) : tiesB zs = false := decide_eq_false (fun x => by have := x k hk; rw [h] at this; cases this)
theorem nowsB_mk {zs : List Int} (h : ∀ k (h : k < zs.length), (zs[k] == 0) = true) : nowsB zs = true := decide_eq_true h
theorem nowsB_not {zs : List Int} {k : Nat} (hk : k < zs.length) (h : (zs[k] == 0) = false) : nowsB zs = false := decide_eq_false (fun x => by have := x k hk; rw [h] at this; cases this)
set_option maxHeartbeats 2000000 in
theorem ziv (v : Value) (zs : List Int) (w : World) (h : RdI w v zs) (hn : zs.length ≤ 2147483648) (hT : TS w) (hr : ∀ k (h : k < zs.length), -9223372036854775808 ≤ zs[k] ∧ zs[k] ≤ 9223372036854775807) :
  Calls Tryz.prog 158 #[v, .func (.func 244) #[] #[]] w fun e w' => e = .returned (.bool (tiesB zs)) ∧ w' = w := by
 have T := zaa hT
 have HR := zaa hr
 clear hT hr
 obtain ⟨ao, cap, rfl, _, hc⟩ := h.shape
 clear h
 go_enter Tryz.func158, Tryz.ntmps158
 go_wp2
 go_loop [6, 9] (fun _ i => ∃ k : Nat, k ≤ zs.length ∧ i = .int .i64 k ∧ Hid (∀ j (h : j < zs.length), j < k → zgf zs[j] = true)) (fun _ i => zs.length - (intOf i).toNat)
 case atStart => exact ⟨0, by omega, rfl, fun j h a => absurd a (by omega)⟩
 case round =>
  obtain ⟨k, hk, rfl, H⟩ := hrel
  by_cases hlt : k < zs.length
  ·obtain ⟨b, o, rfl, hbl, hcell⟩ := hc (by omega)
   have hck := hcell k hlt
   obtain ⟨r0, r1⟩ := HR.out k hlt
   clear hcell hc
   by_cases q : zgf zs[k] = true
   ·go_wp2_with (go_at_call 244; refine (zpp _ _ T.out r0 r1).mono ?_; rintro e w' ⟨rfl, rfl⟩)
    go_round
    case rel =>
     refine ⟨k + 1, by omega, by go_num, fun j h a => ?_⟩
     by_cases e : j = k
     ·subst e; exact q
     ·exact H.out j h (by omega)
    case measure => simp [intOf]; omega
   ·have q' : zgf zs[k] = false := by simpa using q
    have E := zaa (tiesB_not hlt q')
    go_wp2_with (go_at_call 244; refine (zpp _ _ T.out r0 r1).mono ?_; rintro e w' ⟨rfl, rfl⟩)
    go_ret
    exact ⟨zaf E.out.symm, rfl⟩
  ·have E := zaa (tiesB_mk (fun j h => H.out j h (by omega)))
   clear H
   go_wp2
   go_ret
   exact ⟨zaf E.out.symm, rfl⟩
set_option maxHeartbeats 2000000 in
theorem zna (v : Value) (zs : List Int) (w : World) (h : RdI w v zs) (hn : zs.length ≤ 2147483648) :
  Calls Tryz.prog 158 #[v, .func (.func 131) #[] #[]] w fun e w' => e = .returned (.bool (nowsB zs)) ∧ w' = w := by
 obtain ⟨ao, cap, rfl, _, hc⟩ := h.shape
 clear h
 go_enter Tryz.func158, Tryz.ntmps158
 go_wp2
 go_loop [6, 9] (fun _ i => ∃ k : Nat, k ≤ zs.length ∧ i = .int .i64 k ∧ Hid (∀ j (h : j < zs.length), j < k → (zs[j] == 0) = true)) (fun _ i => zs.length - (intOf i).toNat)
 case atStart => exact ⟨0, by omega, rfl, fun j h a => absurd a (by omega)⟩
 case round =>
  obtain ⟨k, hk, rfl, H⟩ := hrel
  by_cases hlt : k < zs.length
  ·obtain ⟨b, o, rfl, hbl, hcell⟩ := hc (by omega)
   have hck := hcell k hlt
   clear hcell hc
   by_cases q : (zs[k] == 0) = true
   ·go_wp2_with (go_at_call 131; refine (zeh _ _).mono ?_; rintro e w' ⟨rfl, rfl⟩)
    go_round
    case rel =>
     refine ⟨k + 1, by omega, by go_num, fun j h a => ?_⟩
     by_cases e : j = k
     ·subst e; exact q
     ·exact H.out j h (by omega)
    case measure => simp [intOf]; omega
   ·have q' : (zs[k] == 0) = false := by simpa using q
    have E := zaa (nowsB_not hlt q')
    go_wp2_with (go_at_call 131; refine (zeh _ _).mono ?_; rintro e w' ⟨rfl, rfl⟩)
    go_ret
    exact ⟨zaf E.out.symm, rfl⟩
  ·have E := zaa (nowsB_mk (fun j h => H.out j h (by omega)))
   clear H
   go_wp2
   go_ret
   exact ⟨zaf E.out.symm, rfl⟩
end Go.Proofs.YtcilodgoognmnaaGreatDoor

namespace Go.Proofs.YtcilodgoognmnaaGreatDoor
open Go.RowKit
theorem mapHead (w : World) (b n : Nat) (hn : n ≤ 8) : (Instr.sliceAt 95 (.pointer (some ⟨b, 3, none⟩)) none (some (.int .i64 (n : Int))) none).run Tryz.prog w = .ok (.slice (some ⟨b, 3, none⟩) n 8) w := by
 have al : Tryz.prog.arrayLen 95 = 8 := by kernel_rfl
 rw [run_sliceAt_array_h w 95 ⟨b, 3, none⟩ (by kernel_rfl) .i64 (n : Int) (by omega) (by rw [al]; omega), al]
 have sz : (sizeOf (Tryz.prog.elem 95)).run Tryz.prog w = .ok 1 w := by kernel_rfl
 rw [sz]
 simp [Result.andThen, slicedAt, Addr.add]
theorem mapTail (w : World) (b n : Nat) (hn : n ≤ 8) : (Instr.sliceAt 95 (.pointer (some ⟨b, 3, none⟩)) (some (.int .i64 (n : Int))) none none).run Tryz.prog w = .ok (.slice (some (if n = 8 then ⟨b, 3, none⟩ else ⟨b, 3 + n, none⟩)) (8 - n) (8 - n)) w := by
 have al : Tryz.prog.arrayLen 95 = 8 := by kernel_rfl
 rw [run_sliceAt_array_l w 95 ⟨b, 3, none⟩ (by kernel_rfl) .i64 (n : Int) (by omega) (by rw [al]; omega), al]
 have sz : (sizeOf (Tryz.prog.elem 95)).run Tryz.prog w = .ok 1 w := by kernel_rfl
 rw [sz]
 by_cases h : n = 8
 ·subst h
  simp [Result.andThen, slicedAt]
 ·have h' : ¬ 8 = n := by omega
  simp only [Result.andThen, slicedAt]
  rw [if_neg (by omega), if_neg h]
  simp [Addr.add]
theorem Ino.cs_map (x : Ino) (k : Nat) (hk : k < 8) : x.cs[3 + k]? = some (.int .i64 (x.map[k]'(by rw [x.len]; exact hk))) := by
 rcases (show k = 0 ∨ k = 1 ∨ k = 2 ∨ k = 3 ∨ k = 4 ∨ k = 5 ∨ k = 6 ∨ k = 7 by omega) with rfl | rfl | rfl | rfl | rfl | rfl | rfl | rfl <;> rfl
theorem map_head {x : Ino} {w : World} {b n : Nat} (hn : n ≤ 8) (hb : b < w.heap.size) (h : ∀ j, w.cell? ⟨b, j, none⟩ = x.cs[j]?) : RdI w (.slice (some ⟨b, 3, none⟩) n 8) (x.map.take n) := by
 have hl : (x.map.take n).length = n := by rw [List.length_take, x.len]; omega
 refine ⟨by rw [zjx, Nat.mul_one], some ⟨b, 3, none⟩, 8, by rw [hl], ⟨by omega, fun e => by cases e⟩, fun _ => ⟨b, 3, rfl, hb, fun j hj => ?_⟩⟩
 rw [hl, Nat.mul_one] at hj
 rw [h, x.cs_map j (by omega), zfl _ _ (by omega), List.getElem_take]
theorem map_tail {x : Ino} {w : World} {b n : Nat} (hn : n ≤ 8) (hb : b < w.heap.size) (h : ∀ j, w.cell? ⟨b, j, none⟩ = x.cs[j]?) : RdI w (.slice (some (if n = 8 then ⟨b, 3, none⟩ else ⟨b, 3 + n, none⟩)) (8 - n) (8 - n)) (x.map.drop n) := by
 have hl : (x.map.drop n).length = 8 - n := by rw [List.length_drop, x.len]
 refine ⟨by rw [zjx, Nat.mul_one], some (if n = 8 then ⟨b, 3, none⟩ else ⟨b, 3 + n, none⟩), 8 - n, by rw [hl], ⟨by omega, fun e => by cases e⟩, fun hp => ?_⟩
 rw [hl] at hp
 refine ⟨b, 3 + n, by rw [if_neg (by omega)], hb, fun j hj => ?_⟩
 rw [hl, Nat.mul_one] at hj
 rw [h, Nat.add_assoc, x.cs_map (n + j) (by omega), zfl _ _ (by omega), List.getElem_drop]
theorem Ino.R.at' {x : Ino} (h : x.R) (k : Nat) (hk : k < x.map.length) : -9223372036854775808 ≤ x.map[k] ∧ x.map[k] ≤ 9223372036854775807 := h _ (List.getElem_mem _)
set_option maxRecDepth 100000 in
set_option maxHeartbeats 2000000 in
theorem isFile_any (x : Ino) (w : World) (hT : TS w) (hr : x.R) : Calls Tryz.prog 223 #[x.v] w fun e w' => e = .returned (.bool (zjo x)) ∧ Below w.heap.size w w' := by
 have hv : x.v = .agg x.cs.toArray := rfl
 obtain ⟨W, hW⟩ : ∃ W, W = w.alloc (.cells x.cs.toArray 97) := ⟨_, rfl⟩
 have CA : Hid (∀ j, W.cell? ⟨w.heap.size, j, none⟩ = x.cs[j]?) := fun j => by rw [hW]; exact (zae (xs := x.cs) (zah rfl) j).1
 have BW : Hid (Below w.heap.size w W) := by rw [hW]; exact (Below.refl _ _).alloc (Nat.le_refl _) _
 have T : Hid (TS W) := hT.below BW.out
 have hWz : w.heap.size < W.heap.size := by rw [hW]; simp
 have c0 : W.cell? ⟨w.heap.size, 0, none⟩ = some (.int .i64 x.kind) := CA.out 0
 have c1 : W.cell? ⟨w.heap.size, 1, none⟩ = some (.int .i64 x.size) := CA.out 1
 have c2 : W.cell? ⟨w.heap.size, 2, none⟩ = some (.int .i64 x.links) := CA.out 2
 have HR := zaa hr
 subst hW
 rw [hv]
 clear hT hr
 by_cases h0 : x.kind = 1
 case neg =>
  have E := zaa (show zjo x = false by unfold zjo; rw [decide_eq_false h0]; rfl)
  have q : (x.kind != 1) = true := by rw [bne_iff_ne]; exact h0
  go_enter Tryz.func223, Tryz.ntmps223
  go_wp2
  go_ret
  exact ⟨zaf E.out.symm, BW.out⟩
 have q : (x.kind != 1) = false := by rw [h0]; rfl
 by_cases h1 : 1 ≤ x.links
 case neg =>
  have E := zaa (show zjo x = false by unfold zjo; rw [decide_eq_true h0, decide_eq_false (show ¬ (1 ≤ x.links ∧ x.links ≤ 24) by omega)]; rfl)
  have q2 : x.links < 1 := by omega
  go_enter Tryz.func223, Tryz.ntmps223
  go_wp2
  go_ret
  exact ⟨zaf E.out.symm, BW.out⟩
 have q2 : ¬ x.links < 1 := by omega
 by_cases h2 : x.links ≤ 24
 case neg =>
  have E := zaa (show zjo x = false by unfold zjo; rw [decide_eq_true h0, decide_eq_false (show ¬ (1 ≤ x.links ∧ x.links ≤ 24) by omega)]; rfl)
  have q3 : 24 < x.links := by omega
  go_enter Tryz.func223, Tryz.ntmps223
  go_wp2
  go_ret
  exact ⟨zaf E.out.symm, BW.out⟩
 have q3 : ¬ 24 < x.links := by omega
 by_cases h3 : 0 ≤ x.size ∧ x.size < 9
 case neg =>
  have E := zaa (show zjo x = false by unfold zjo; rw [decide_eq_true h0, decide_eq_true (show 1 ≤ x.links ∧ x.links ≤ 24 by omega), decide_eq_false h3]; rfl)
  have H3 := zaa h3
  clear h3
  go_enter Tryz.func223, Tryz.ntmps223
  go_wp2_with (go_at_call 48; refine (zbj _ _ _ H3.out).mono ?_; rintro e w' ⟨rfl, rfl⟩)
  go_ret
  exact ⟨zaf E.out.symm, BW.out⟩
 have E := zaa (show zjo x = (tiesB (x.map.take x.size.toNat) && nowsB (x.map.drop x.size.toNat)) by unfold zjo; rw [decide_eq_true h0, decide_eq_true (show 1 ≤ x.links ∧ x.links ≤ 24 by omega), decide_eq_true h3]; rfl)
 obtain ⟨n, hn⟩ : ∃ n : Nat, x.size = (n : Int) := ⟨x.size.toNat, by omega⟩
 have hn8 : n ≤ 8 := by omega
 rw [show x.size.toNat = n by omega] at E
 rw [hn] at c1 h3
 have R1 := zaa (map_head (x := x) hn8 hWz CA.out)
 have R2 := zaa (map_tail (x := x) hn8 hWz CA.out)
 have s1 := mapHead (w.alloc (.cells x.cs.toArray 97)) w.heap.size n hn8
 have s2 := mapTail (w.alloc (.cells x.cs.toArray 97)) w.heap.size n hn8
 have L1 := zaa (show (x.map.take n).length ≤ 2147483648 by rw [List.length_take]; omega)
 have L2 := zaa (show (x.map.drop n).length ≤ 2147483648 by rw [List.length_drop, x.len]; omega)
 have RR := zaa (show ∀ k (h : k < (x.map.take n).length), -9223372036854775808 ≤ (x.map.take n)[k] ∧ (x.map.take n)[k] ≤ 9223372036854775807 from fun k h => by rw [List.getElem_take]; exact HR.out.at' k _)
 have H3 := zaa h3
 generalize (if n = 8 then (⟨w.heap.size, 3, none⟩ : Addr) else ⟨w.heap.size, 3 + n, none⟩) = aT at s2 R2
 cases hq : tiesB (x.map.take n) with
 | false =>
  have TQ := zaa hq
  rw [hq] at E
  clear h3 hn hq
  go_enter Tryz.func223, Tryz.ntmps223
  go_wp2_with fail
  refine (zaq _ _ _ H3.out).mono ?_
  rintro e w' ⟨rfl, rfl⟩
  go_wp2_with fail
  refine (ziv _ _ _ R1.out L1.out T.out RR.out).mono ?_
  rw [TQ.out]
  rintro e w' ⟨rfl, rfl⟩
  go_wp2
  go_ret
  exact ⟨zaf (by rw [E.out]; rfl), BW.out⟩
 | true =>
  have TQ := zaa hq
  rw [hq] at E
  clear h3 hn hq
  go_enter Tryz.func223, Tryz.ntmps223
  go_wp2_with fail
  refine (zaq _ _ _ H3.out).mono ?_
  rintro e w' ⟨rfl, rfl⟩
  go_wp2_with fail
  refine (ziv _ _ _ R1.out L1.out T.out RR.out).mono ?_
  rw [TQ.out]
  rintro e w' ⟨rfl, rfl⟩
  go_wp2_with fail
  refine (zna _ _ _ R2.out L2.out).mono ?_
  rintro e w' ⟨rfl, rfl⟩
  go_wp2
  go_ret
  exact ⟨zaf (by rw [E.out]; rfl), BW.out⟩
end Go.Proofs.YtcilodgoognmnaaGreatDoor
