/- Several texts laid together: ImK, ImL, PiG. -/
import Derived.Test.YtbbmljakfbhnpaaGreatDoorZAI
namespace Go.Proofs.YtbbmljakfbhnpaaGreatDoor
open Go.RowKit

/-- A number stands in a list. -/
def zdb (zs : List Int) (n : Int) : Bool := zs.contains n
theorem has_not {zs : List Int} {n : Int} (h : ∀ j (h : j < zs.length), ¬ zs[j] = n) : zdb zs n = false := by
 unfold zdb
 rw [List.contains_eq_any_beq, List.any_eq_false]
 intro z hz
 obtain ⟨j, hj, rfl⟩ := List.getElem_of_mem hz
 simp only [beq_iff_eq]
 exact fun e => h j hj e.symm

set_option maxRecDepth 100000 in
set_option maxHeartbeats 2000000 in
theorem zjw (v : Value) (zs : List Int) (n : Int) (w : World) (h : RdI w v zs) (hn : zs.length ≤ 1048576) :
  Calls Tryz.prog 127 #[v, .int .i64 n] w fun e w' => e = .returned (.bool (zdb zs n)) ∧ w' = w := by
 obtain ⟨aZ, cZ, rfl, _, hcZ⟩ := h.shape
 have HZ := zaa hcZ
 clear h hcZ
 go_enter Tryz.func127, Tryz.ntmps127
 go_wp2
 go_loop [5] (fun i => ∃ k : Nat, k ≤ zs.length ∧ i = .int .i64 k ∧ Hid (∀ j (h : j < zs.length), j < k → ¬ zs[j] = n)) (fun i => zs.length - (intOf i).toNat)
 case atStart => exact ⟨0, by omega, rfl, fun j h a => absurd a (by omega)⟩
 case round =>
  obtain ⟨k, hk, rfl, H⟩ := hrel
  by_cases hlt : k < zs.length
  ·obtain ⟨b, o, rfl, hbl, hcell⟩ := HZ.out (by omega)
   have d0 := hcell k hlt
   have k0 : (0 : Int) ≤ (k : Int) := by omega
   have k1 : (k : Int) < (zs.length : Int) := by omega
   have HY := zaa (fun e : zs[k] = n => show zdb zs n = true by unfold zdb; rw [← e]; exact List.contains_iff_mem.2 (List.getElem_mem hlt))
   have HX := zaa (fun (e : ¬ zs[k] = n) j (h : j < zs.length) (a : j < k + 1) => show ¬ zs[j] = n by
    by_cases q : j = k
    ·subst q; exact e
    ·exact H.out j h (by omega))
   clear hcell
   generalize zs[k] = z at *
   by_cases q : z = n
   ·have q1 : (z == n) = true := beq_iff_eq.2 q
    have E := zaa (HY.out q)
    clear q HX HY
    go_wp2
    go_ret
    exact ⟨zag E.out.symm, rfl⟩
   ·have q1 : (z == n) = false := beq_eq_false_iff_ne.2 q
    have E := zaa (HX.out q)
    clear q HX HY
    go_wp2
    go_round
    case rel => exact ⟨k + 1, by omega, by go_num, E⟩
    case measure => simp [intOf]; omega
  ·obtain rfl : k = zs.length := by omega
   have E := zaa (has_not (fun j h => H.out j h h))
   go_wp2
   go_ret
   exact ⟨zag E.out.symm, rfl⟩

theorem zpl (b : Bool) (w : World) : Calls Tryz.prog 125 #[.bool b] w fun e w' => e = .returned (.int .i64 (if b = true then 1 else 0)) ∧ w' = w := by
 cases b
 all_goals
  go_enter Tryz.func125, Tryz.ntmps125
  go_wp2
  go_ret
  exact ⟨rfl, rfl⟩

/-- The directory that one stands in, -1 of one that stands in none. -/
def upD (ds : List Den) (c : Int) : Int := ((ds.find? fun x => x.child == c).map Den.dir).getD (-1)
theorem upD_no {ds : List Den} {c : Int} (h : ∀ j (h : j < ds.length), ¬ ds[j].child = c) : upD ds c = -1 := by
 unfold upD
 rw [List.find?_eq_none.2]
 ·rfl
 ·intro x hx
  obtain ⟨j, hj, rfl⟩ := List.getElem_of_mem hx
  simp only [beq_iff_eq]
  exact h j hj
theorem upD_yes {ds : List Den} {c : Int} {k : Nat} (hk : k < ds.length) (h : ∀ j (h : j < ds.length), j < k → ¬ ds[j].child = c) (e : ds[k].child = c) : upD ds c = ds[k].dir := by
 unfold upD
 have : ds.find? (fun x => x.child == c) = some ds[k] := List.find?_eq_some_iff_getElem.2 ⟨beq_iff_eq.2 e, k, hk, rfl, fun j hj => by
  have := h j (by omega) hj
  simp [this]⟩
 rw [this]
 rfl

set_option maxRecDepth 100000 in
set_option maxHeartbeats 2000000 in
theorem zsq (v : Value) (ws : List Ino) (ps : List Den) (c : Int) (w : World) (h : RdIm w v ws ps) (hn : ps.length ≤ 1048576) :
  Calls Tryz.prog 168 #[v, .int .i64 c] w fun e w' => e = .returned (.int .i64 (upD ps c)) ∧ Below w.heap.size w w' := by
 obtain ⟨vW, vP, rfl, h1, h2⟩ := h
 obtain ⟨aW, cW, rfl, _⟩ := h1.shape
 obtain ⟨aP, cP, rfl, _, hcP⟩ := h2.shape
 have HZ := zaa hcP
 clear h1 h2 hcP
 obtain ⟨W, hW⟩ : ∃ W, W = w.alloc (.cells #[.slice aW ws.length cW, .slice aP ps.length cP] 26) := ⟨_, rfl⟩
 have CA : Hid (∀ w', Below W.heap.size W w' → w'.cell? ⟨w.heap.size, 1, none⟩ = some (.slice aP ps.length cP)) := fun w' hb => by
  have : w'.heap[w.heap.size]? = some (.cells #[.slice aW ws.length cW, .slice aP ps.length cP] 26 (0, 0)) := (hb.block _ (by rw [hW]; simp)).trans (by rw [hW]; exact zah rfl)
  exact (zac this).2.1
 have BW : Hid (Below w.heap.size w W) := by rw [hW]; exact (Below.refl _ _).alloc (Nat.le_refl _) _
 have hz : w.heap.size ≤ W.heap.size := BW.out.size
 go_enter Tryz.func168, Tryz.ntmps168
 go_wp2
 rw [← hW]
 clear hW
 go_loopw [5] (fun i wr => ∃ k : Nat, k ≤ ps.length ∧ i = .int .i64 k ∧ Hid (Below W.heap.size W wr ∧ ∀ j (h : j < ps.length), j < k → ¬ ps[j].child = c)) (fun i _ => ps.length - (intOf i).toNat)
 case atStart => exact ⟨0, by omega, rfl, Below.refl _ _, fun j h a => absurd a (by omega)⟩
 case round =>
  obtain ⟨k, hk, rfl, J⟩ := hrel
  have x1 := CA.out wr J.out.1
  by_cases hlt : k < ps.length
  ·obtain ⟨b, o, rfl, hbl, hcell⟩ := HZ.out (by omega)
   have BR := zab BW.out J.out.1 hz
   obtain ⟨c0, c1, c2⟩ := hcell k hlt
   have d0 := (BR.cell (p := ⟨b, o + k * 3, none⟩) hbl).trans c0
   have d2 := (BR.cell (p := ⟨b, o + k * 3 + 2, none⟩) hbl).trans c2
   have B := zaa BR
   have k0 : (0 : Int) ≤ (k : Int) := by omega
   have k1 : (k : Int) < (ps.length : Int) := by omega
   have HY := zaa (fun e : ps[k].child = c => upD_yes hlt J.out.2 e)
   have HX := zaa (fun (e : ¬ ps[k].child = c) j (h : j < ps.length) (a : j < k + 1) => show ¬ ps[j].child = c by
    by_cases q : j = k
    ·subst q; exact e
    ·exact J.out.2 j h (by omega))
   clear hcell c0 c1 c2 BR
   generalize ps[k].child = z at *
   generalize ps[k].dir = y at *
   by_cases q : z = c
   ·have q1 : (z == c) = true := beq_iff_eq.2 q
    have E := zaa (HY.out q)
    clear q HX HY
    go_wp2
    go_ret
    exact ⟨zcp E.out.symm, B.out⟩
   ·have q1 : (z == c) = false := beq_eq_false_iff_ne.2 q
    have E : Hid (Below W.heap.size W wr ∧ ∀ j (h : j < ps.length), j < k + 1 → ¬ ps[j].child = c) := ⟨J.out.1, HX.out q⟩
    clear q HX HY
    go_wp2
    go_roundw
    case rel => exact ⟨k + 1, by omega, by go_num, E⟩
    case measure => simp [intOf]; omega
  ·obtain rfl : k = ps.length := by omega
   have E := zaa (upD_no (fun j h => J.out.2 j h h))
   go_wp2
   go_ret
   exact ⟨zcp E.out.symm, zab BW.out J.out.1 hz⟩

/-- One hangs on the root within n steps up. -/
def hangs (ds : List Den) : Nat → Int → Bool
 | 0, _ => false
 | n + 1, d => if d = 0 then true else if upD ds d < 0 then false else hangs ds n (upD ds d)

set_option maxRecDepth 100000 in
set_option maxHeartbeats 2000000 in
theorem ztv (v : Value) (ws : List Ino) (ps : List Den) (c : Int) (w : World) (h : RdIm w v ws ps) (hn : ps.length ≤ 1048576) :
  Calls Tryz.prog 126 #[v, .int .i64 c] w fun e w' => e = .returned (.bool (hangs ps 16 c)) ∧ Below w.heap.size w w' := by
 have HR := zaa h
 obtain ⟨vW, vP, rfl, h1, h2⟩ := h
 obtain ⟨aW, cW, rfl, _⟩ := h1.shape
 obtain ⟨aP, cP, rfl, _, hcP⟩ := h2.shape
 clear h1 h2 hcP
 obtain ⟨W, hW⟩ : ∃ W, W = w.alloc (.cells #[.slice aW ws.length cW, .slice aP ps.length cP] 26) := ⟨_, rfl⟩
 have CA : Hid (∀ w', Below W.heap.size W w' → w'.cell? ⟨w.heap.size, 0, none⟩ = some (.slice aW ws.length cW) ∧ w'.cell? ⟨w.heap.size, 1, none⟩ = some (.slice aP ps.length cP)) := fun w' hb => by
  have : w'.heap[w.heap.size]? = some (.cells #[.slice aW ws.length cW, .slice aP ps.length cP] 26 (0, 0)) := (hb.block _ (by rw [hW]; simp)).trans (by rw [hW]; exact zah rfl)
  exact ⟨(zac this).1, (zac this).2.1⟩
 have BW : Hid (Below w.heap.size w W) := by rw [hW]; exact (Below.refl _ _).alloc (Nat.le_refl _) _
 have hz : w.heap.size ≤ W.heap.size := BW.out.size
 have LU := zaa (fun d w1 h => zsq (.agg #[.slice aW ws.length cW, .slice aP ps.length cP]) ws ps d w1 h hn)
 go_enter Tryz.func126, Tryz.ntmps126
 go_wp2
 rw [← hW]
 clear hW
 go_loopw [1, 5] (fun d i wr => ∃ (k : Nat) (z : Int), k ≤ 16 ∧ i = .int .i64 k ∧ d = .int .i64 z ∧ Hid (Below W.heap.size W wr ∧ hangs ps 16 c = hangs ps (16 - k) z)) (fun _ i _ => 16 - (intOf i).toNat)
 case atStart => exact ⟨0, c, by omega, rfl, rfl, Below.refl _ _, rfl⟩
 case round =>
  obtain ⟨k, z, hk, rfl, rfl, J⟩ := hrel
  obtain ⟨x0, x1⟩ := CA.out wr J.out.1
  by_cases hlt : k < 16
  ·have ES := zaa (show hangs ps (16 - k) z = if z = 0 then true else if upD ps z < 0 then false else hangs ps (16 - (k + 1)) (upD ps z) by
    rw [show 16 - k = (16 - (k + 1)) + 1 by omega]; rfl)
   have B := zaa (zab BW.out J.out.1 hz)
   by_cases q : z = 0
   ·subst q
    have E := zaa (show hangs ps 16 c = true by rw [J.out.2, ES.out, if_pos rfl])
    go_wp2
    go_ret
    exact ⟨zag E.out.symm, B.out⟩
   ·have q1 : (z == 0) = false := beq_eq_false_iff_ne.2 q
    have R := zaa (HR.out.below B.out)
    by_cases r : upD ps z < 0
    ·have E := zaa (show hangs ps 16 c = false by rw [J.out.2, ES.out, if_neg q, if_pos r])
     go_wp2_with fail
     refine (LU.out _ _ R.out).mono ?_
     rintro e w1 ⟨rfl, hb1⟩
     have B1 := zaa (zab B.out hb1 B.out.size)
     clear hb1
     go_wp2
     go_ret
     exact ⟨zag E.out.symm, B1.out⟩
    ·have E := zaa (show hangs ps 16 c = hangs ps (16 - (k + 1)) (upD ps z) by rw [J.out.2, ES.out, if_neg q, if_neg r])
     go_wp2_with fail
     refine (LU.out _ _ R.out).mono ?_
     rintro e w1 ⟨rfl, hb1⟩
     have B1 := zaa (zab J.out.1 hb1 J.out.1.size)
     clear hb1
     go_wp2
     go_roundw
     case rel => exact ⟨k + 1, _, by omega, by go_num, rfl, B1.out, E.out⟩
     case measure => simp [intOf]; omega
  ·obtain rfl : k = 16 := by omega
   have E := zaa (show hangs ps 16 c = false by rw [J.out.2]; rfl)
   go_wp2
   go_ret
   exact ⟨zag E.out.symm, zab BW.out J.out.1 hz⟩
end Go.Proofs.YtbbmljakfbhnpaaGreatDoor

namespace Go.Proofs.YtbbmljakfbhnpaaGreatDoor
open Go.RowKit

/-- How many of the first entries lead to an inode. -/
def zkm (ds : List Den) (c : Int) (k : Nat) : Nat := ((ds.take k).filter fun x => x.child == c).length
theorem cntD_zero (ds : List Den) (c : Int) : zkm ds c 0 = 0 := rfl
theorem zis {ds : List Den} {c : Int} {k : Nat} (h : k < ds.length) : zkm ds c (k + 1) = zkm ds c k + (if (ds[k].child == c) = true then 1 else 0) := by
 unfold zkm
 rw [List.take_succ_eq_append_getElem h, List.filter_append, List.length_append]
 congr 1
 cases q : ds[k].child == c <;> simp [List.filter, q]
theorem cntD_le (ds : List Den) (c : Int) (k : Nat) : zkm ds c k ≤ k := by
 unfold zkm
 exact Nat.le_trans (List.length_filter_le _ _) (by simp; omega)
/-- The links of one inode are right. -/
def zgw (ps : List Den) (i : Nat) (x : Ino) : Bool := decide ((if i = 0 then 1 else 0) + (zkm ps i ps.length : Int) = x.links) && (decide (¬ x.kind = 2) || hangs ps 16 i)
/-- The links are right. -/
def zga (ws : List Ino) (ps : List Den) : Bool := decide (∀ i (h : i < ws.length), zgw ps i ws[i] = true)
theorem linksB_not {ws : List Ino} {ps : List Den} {i : Nat} (h : i < ws.length) (q : zgw ps i ws[i] = false) : zga ws ps = false := decide_eq_false (fun e => by rw [e i h] at q; cases q)

theorem l01Bit_t (w : World) : Calls Tryz.prog 125 #[.bool true] w fun e w' => e = .returned (.int .i64 1) ∧ w' = w := zpl true w
theorem l01Bit_f (w : World) : Calls Tryz.prog 125 #[.bool false] w fun e w' => e = .returned (.int .i64 0) ∧ w' = w := zpl false w

set_option maxRecDepth 100000 in
set_option maxHeartbeats 4000000 in
theorem zva (v : Value) (ws : List Ino) (ps : List Den) (w : World) (h : RdIm w v ws ps) (hm : ws.length ≤ 1048576) (hn : ps.length ≤ 1048576) :
  Calls Tryz.prog 93 #[v] w fun e w' => e = .returned (.bool (zga ws ps)) ∧ Below w.heap.size w w' := by
 have HR := zaa h
 obtain ⟨vW, vP, rfl, h1, h2⟩ := h
 obtain ⟨aW, cW, rfl, _, hcW⟩ := h1.shape
 obtain ⟨aP, cP, rfl, _, hcP⟩ := h2.shape
 have HW := zaa hcW
 have HZ := zaa hcP
 clear h1 h2 hcP hcW
 obtain ⟨W, hW⟩ : ∃ W, W = w.alloc (.cells #[.slice aW ws.length cW, .slice aP ps.length cP] 26) := ⟨_, rfl⟩
 have CA : Hid (∀ w', Below W.heap.size W w' → w'.cell? ⟨w.heap.size, 0, none⟩ = some (.slice aW ws.length cW) ∧ w'.cell? ⟨w.heap.size, 1, none⟩ = some (.slice aP ps.length cP)) := fun w' hb => by
  have : w'.heap[w.heap.size]? = some (.cells #[.slice aW ws.length cW, .slice aP ps.length cP] 26 (0, 0)) := (hb.block _ (by rw [hW]; simp)).trans (by rw [hW]; exact zah rfl)
  exact ⟨(zac this).1, (zac this).2.1⟩
 have BW : Hid (Below w.heap.size w W) := by rw [hW]; exact (Below.refl _ _).alloc (Nat.le_refl _) _
 have hz : w.heap.size ≤ W.heap.size := BW.out.size
 have LH := zaa (fun d w1 h => ztv (.agg #[.slice aW ws.length cW, .slice aP ps.length cP]) ws ps d w1 h hn)
 go_enter Tryz.func93, Tryz.ntmps93
 go_wp2
 rw [← hW]
 clear hW
 go_loopw [3] (fun i wr => ∃ k : Nat, k ≤ ws.length ∧ i = .int .i64 k ∧ Hid (Below W.heap.size W wr ∧ ∀ j (h : j < ws.length), j < k → zgw ps j ws[j] = true)) (fun i _ => ws.length - (intOf i).toNat)
 case atStart => exact ⟨0, by omega, rfl, Below.refl _ _, fun j h a => absurd a (by omega)⟩
 case round =>
  obtain ⟨i, hi, rfl, J⟩ := hrel
  obtain ⟨x0, x1⟩ := CA.out wr J.out.1
  by_cases hlt : i < ws.length
  ·have i0 : (0 : Int) ≤ (i : Int) := by omega
   have i1 : (i : Int) < (ws.length : Int) := by omega
   obtain ⟨b0, HB, b1, LB⟩ : ∃ b0 : Int, Hid (b0 = if i = 0 then 1 else 0) ∧ (0 ≤ b0 ∧ b0 ≤ 1) ∧ Hid (∀ w1 : World, Calls Tryz.prog 125 #[.bool ((i : Int) == 0)] w1 fun e w' => e = .returned (.int .i64 b0) ∧ w' = w1) := by
    by_cases q : i = 0
    ·refine ⟨1, zaa (by rw [if_pos q]), by omega, fun w1 => ?_⟩
     rw [show ((i : Int) == 0) = true by rw [beq_iff_eq]; omega]
     exact l01Bit_t w1
    ·refine ⟨0, zaa (by rw [if_neg q]), by omega, fun w1 => ?_⟩
     rw [show ((i : Int) == 0) = false by rw [beq_eq_false_iff_ne]; omega]
     exact l01Bit_f w1
   have START : Hid (Below W.heap.size W wr) := J.out.1
   go_wp2_with (go_at_call 125; refine (LB.out _).mono ?_; rintro e w' ⟨rfl, hw'⟩; subst w')
   go_loopw [4, 5] (fun n kk wq => ∃ k : Nat, k ≤ ps.length ∧ kk = .int .i64 k ∧ n = .int .i64 (b0 + (zkm ps i k : Int)) ∧ Hid (Below W.heap.size W wq)) (fun _ kk _ => ps.length - (intOf kk).toNat)
   case atStart => exact ⟨0, by omega, rfl, by rw [cntD_zero]; simp, START⟩
   case round =>
    obtain ⟨k, hk, rfl, rfl, K⟩ := hrel
    obtain ⟨y0, y1⟩ := CA.out wr K.out
    have B := zaa (zab BW.out K.out hz)
    have cl := cntD_le ps i k
    have k0 : (0 : Int) ≤ (k : Int) := by omega
    clear x0 x1 START
    by_cases hlk : k < ps.length
    ·obtain ⟨b, o, rfl, hbl, hcell⟩ := HZ.out (by omega)
     obtain ⟨_, _, c2⟩ := hcell k hlk
     have d2 := (B.out.cell (p := ⟨b, o + k * 3 + 2, none⟩) hbl).trans c2
     have k1 : (k : Int) < (ps.length : Int) := by omega
     obtain ⟨t, HT, t1, LT⟩ : ∃ t : Int, Hid ((zkm ps i (k + 1) : Int) = (zkm ps i k : Int) + t) ∧ (0 ≤ t ∧ t ≤ 1) ∧ Hid (∀ w1 : World, Calls Tryz.prog 125 #[.bool (ps[k].child == (i : Int))] w1 fun e w' => e = .returned (.int .i64 t) ∧ w' = w1) := by
      cases q : (ps[k].child == (i : Int))
      ·refine ⟨0, zaa (by rw [zis hlk, q]; simp), by omega, fun w1 => ?_⟩
       exact l01Bit_f w1
      ·refine ⟨1, zaa (by rw [zis hlk, q]; simp), by omega, fun w1 => ?_⟩
       exact l01Bit_t w1
     clear hcell c2
     generalize ps[k].child = z at *
     have cc0 : (0 : Int) ≤ (zkm ps i k : Int) ∧ (zkm ps i k : Int) ≤ 1048576 := by omega
     generalize (zkm ps i k : Int) = cc at *
     go_wp2_with (go_at_call 125; refine (LT.out _).mono ?_; rintro e w' ⟨rfl, hw'⟩; subst w')
     go_roundw
     case rel => exact ⟨k + 1, by omega, by go_num, by rw [HT.out, Int.add_assoc], K⟩
     case measure => simp [intOf]; omega
    ·obtain rfl : k = ps.length := by omega
     obtain ⟨b, o, rfl, hbl, hcell⟩ := HW.out (by omega)
     obtain ⟨c0, _, c2, _⟩ := hcell i hlt
     have d0 := (B.out.cell (p := ⟨b, o + i * 11, none⟩) hbl).trans c0
     have d2 := (B.out.cell (p := ⟨b, o + i * 11 + 2, none⟩) hbl).trans c2
     have EL := zaa (show zgw ps i ws[i] = (decide (b0 + (zkm ps i ps.length : Int) = ws[i].links) && (decide (¬ ws[i].kind = 2) || hangs ps 16 i)) by unfold zgw; rw [HB.out])
     have NO := zaa (fun e => linksB_not (ps := ps) hlt e)
     have YES := zaa (fun (e : zgw ps i ws[i] = true) j (h : j < ws.length) (a : j < i + 1) => show zgw ps j ws[j] = true by
      by_cases q : j = i
      ·subst q; exact e
      ·exact J.out.2 j h (by omega))
     clear hcell c0 c2 J HB LB
     have cc0 : (0 : Int) ≤ (zkm ps i ps.length : Int) ∧ (zkm ps i ps.length : Int) ≤ 1048576 := by omega
     generalize (zkm ps i ps.length : Int) = cc at *
     generalize zgw ps i ws[i] = lb at EL NO YES
     generalize ws[i].links = zl at *
     generalize ws[i].kind = zk at *
     by_cases q : b0 + cc = zl
     ·by_cases r : zk = 2
      ·subst r
       cases hh : hangs ps 16 i with
       | true =>
        have E := zaa (YES.out (by rw [EL.out, decide_eq_true q, hh]; rfl))
        have HH := zaa hh
        have R := zaa (HR.out.below B.out)
        have q1 : (b0 + cc != zl) = false := by rw [q]; simp
        clear hh EL NO YES q
        go_wp2_with fail
        refine (LH.out _ _ R.out).mono ?_
        rw [HH.out]
        rintro e w1 ⟨rfl, hb1⟩
        have B1 := zaa (zab K.out hb1 K.out.size)
        clear hb1
        go_wp2
        go_roundw
        case rel => exact ⟨i + 1, by omega, by go_num, B1.out, E.out⟩
        case measure => simp [intOf]; omega
       | false =>
        have E := zaa (NO.out (by rw [EL.out, hh]; simp))
        have HH := zaa hh
        have R := zaa (HR.out.below B.out)
        have q1 : (b0 + cc != zl) = false := by rw [q]; simp
        clear hh EL NO YES q
        go_wp2_with fail
        refine (LH.out _ _ R.out).mono ?_
        rw [HH.out]
        rintro e w1 ⟨rfl, hb1⟩
        have B1 := zaa (zab B.out hb1 B.out.size)
        clear hb1
        go_wp2
        go_ret
        exact ⟨zag E.out.symm, B1.out⟩
      ·have E : Hid (Below W.heap.size W wr ∧ ∀ j (h : j < ws.length), j < i + 1 → zgw ps j ws[j] = true) := ⟨K.out, YES.out (by rw [EL.out, decide_eq_true q, decide_eq_true r]; rfl)⟩
       have r1 : (zk == 2) = false := beq_eq_false_iff_ne.2 r
       have q1 : (b0 + cc != zl) = false := by rw [q]; simp
       clear EL NO YES q r
       go_wp2
       go_roundw
       case rel => exact ⟨i + 1, by omega, by go_num, E⟩
       case measure => simp [intOf]; omega
     ·have q1 : (b0 + cc != zl) = true := by rw [bne_iff_ne]; exact q
      have E := zaa (NO.out (by rw [EL.out, decide_eq_false q]; rfl))
      clear q EL NO YES
      go_wp2
      go_ret
      exact ⟨zag E.out.symm, B.out⟩
  ·obtain rfl : i = ws.length := by omega
   have E := zaa (show zga ws ps = true from decide_eq_true (fun j h => J.out.2 j h h))
   go_wp2
   go_ret
   exact ⟨zag E.out.symm, zab BW.out J.out.1 hz⟩
end Go.Proofs.YtbbmljakfbhnpaaGreatDoor

namespace Go.Proofs.YtbbmljakfbhnpaaGreatDoor
open Go.RowKit

theorem has_at {zs : List Int} {n : Int} {k : Nat} (hk : k < zs.length) (h : n = zs[k]) : zdb zs n = true := by
 unfold zdb
 rw [List.contains_eq_any_beq, List.any_eq_true]
 exact ⟨zs[k], List.getElem_mem _, by rw [h]; simp⟩

set_option maxHeartbeats 2000000 in
theorem zso (v : Value) (zs : List Int) (n : Int) (w : World) (h : RdI w v zs) (hn : zs.length ≤ 1048576) :
  Calls Tryz.prog 121 #[v, .int .i64 n] w fun e w' => ∃ r : Int, e = .returned (.int .i64 r) ∧ (decide (0 ≤ r) = zdb zs n) ∧ w' = w := by
 obtain ⟨aZ, cZ, rfl, _, hcZ⟩ := h.shape
 have HZ := zaa hcZ
 clear h hcZ
 go_enter Tryz.func121, Tryz.ntmps121
 go_wp2
 go_loop [5, 8] (fun _ i => ∃ k : Nat, k ≤ zs.length ∧ i = .int .i64 k ∧ Hid (∀ j (h : j < zs.length), j < k → ¬ zs[j] = n)) (fun _ i => zs.length - (intOf i).toNat)
 case atStart => exact ⟨0, by omega, rfl, fun j h a => absurd a (by omega)⟩
 case round =>
  obtain ⟨k, hk, rfl, H⟩ := hrel
  by_cases hlt : k < zs.length
  ·obtain ⟨b, o, rfl, hbl, hcell⟩ := HZ.out (by omega)
   have hck := hcell k hlt
   clear hcell
   by_cases q : n = zs[k]
   ·have q' : (n == zs[k]) = true := by rw [beq_iff_eq]; exact q
    have E := zaa (has_at hlt q)
    clear q H
    generalize zs[k] = z at *
    go_wp2
    go_ret
    exact ⟨_, rfl, by rw [E.out]; exact decide_eq_true (by omega), rfl⟩
   ·have q' : (n == zs[k]) = false := by rw [beq_eq_false_iff_ne]; exact q
    have H' : Hid (∀ j (h : j < zs.length), j < k + 1 → ¬ zs[j] = n) := fun j h a => by
     by_cases e : j = k
     ·subst e; exact fun e => q e.symm
     ·exact H.out j h (by omega)
    clear q H
    generalize zs[k] = z at hck q'
    go_wp2
    go_round
    case rel => exact ⟨k + 1, by omega, by go_num, H'⟩
    case measure => simp [intOf]; omega
  ·have E := zaa (has_not (fun j h => H.out j h (by omega)))
   clear H
   go_wp2
   go_ret
   exact ⟨_, rfl, by rw [E.out]; rfl, rfl⟩

theorem zfa (v : Value) (zs : List Int) (n : Int) (w : World) (h : RdI w v zs) (hn : zs.length ≤ 1048576) :
  Calls Tryz.prog 84 #[v, .int .i64 n] w fun e w' => e = .returned (.bool (zdb zs n)) ∧ w' = w := by
 have HZ := zaa h
 obtain ⟨aZ, cZ, rfl, _, _⟩ := h.shape
 clear h
 go_enter Tryz.func84, Tryz.ntmps84
 go_wp2_with fail
 refine (zso _ zs n _ HZ.out hn).mono ?_
 rintro e w' ⟨r, rfl, hr, hw'⟩
 subst w'
 have R := zaa hr
 clear hr
 go_wp2
 go_ret
 exact ⟨zag R.out, rfl⟩

theorem Rd.take {w : World} {size : Nat} {ao : Option Addr} {n c : Nat} {xs : List Value} {m : Nat} (h : Rd w size (.slice ao n c) n xs) (hm : m ≤ n) : Rd w size (.slice ao m c) m (xs.take (m * size)) := by
 obtain ⟨h1, ao', cap, e, h2, h3⟩ := h
 cases e
 have hms : m * size ≤ n * size := Nat.mul_le_mul_right _ hm
 refine ⟨by rw [List.length_take, h1]; omega, ao, c, rfl, ⟨by omega, h2.2⟩, fun hp => ?_⟩
 obtain ⟨b, o, e1, e2, e3⟩ := h3 (by omega)
 exact ⟨b, o, e1, e2, fun j hj => by rw [e3 j (by omega), List.getElem?_take, if_pos hj]⟩
theorem RdI.take {w : World} {ao : Option Addr} {c : Nat} {zs : List Int} {m : Nat} (h : RdI w (.slice ao zs.length c) zs) (hm : m ≤ zs.length) : RdI w (.slice ao m c) (zs.take m) := by
 have := Rd.take h hm
 unfold RdI
 have e : (zs.take m).length = m := by rw [List.length_take]; omega
 have e2 : zcv (zs.take m) = (zcv zs).take (m * 1) := by rw [Nat.mul_one]; simp [zcv, List.map_take]
 rw [e, e2]
 exact this
/-- No number stands twice. -/
def zdv (zs : List Int) : Bool := decide (∀ k (h : k < zs.length), zdb (zs.take k) zs[k] = false)
theorem onceB_mk {zs : List Int} (h : ∀ k (h : k < zs.length), zdb (zs.take k) zs[k] = false) : zdv zs = true := decide_eq_true h
theorem zuy {zs : List Int} {k : Nat} (hk : k < zs.length) (h : zdb (zs.take k) zs[k] = true) : zdv zs = false := decide_eq_false (fun x => by have := x k hk; rw [h] at this; cases this)

set_option maxHeartbeats 2000000 in
theorem zlc (v : Value) (zs : List Int) (w : World) (h : RdI w v zs) (hn : zs.length ≤ 1048576) :
  Calls Tryz.prog 40 #[v] w fun e w' => e = .returned (.bool (zdv zs)) ∧ w' = w := by
 have HR := zaa h
 obtain ⟨aZ, cZ, rfl, hcap, hcZ⟩ := h.shape
 have HZ := zaa hcZ
 clear h hcZ
 go_enter Tryz.func40, Tryz.ntmps40
 go_wp2
 go_loop [3, 4, 7] (fun _ _ i => ∃ k : Nat, k ≤ zs.length ∧ i = .int .i64 k ∧ Hid (∀ j (h : j < zs.length), j < k → zdb (zs.take j) zs[j] = false)) (fun _ _ i => zs.length - (intOf i).toNat)
 case atStart => exact ⟨0, by omega, rfl, fun j h a => absurd a (by omega)⟩
 case round =>
  obtain ⟨k, hk, rfl, H⟩ := hrel
  by_cases hlt : k < zs.length
  ·obtain ⟨b, o, rfl, hbl, hcell⟩ := HZ.out (by omega)
   have hck := hcell k hlt
   have RT := zaa (RdI.take HR.out hk)
   have LT := zaa (show (zs.take k).length ≤ 1048576 by rw [List.length_take]; omega)
   clear hcell
   cases q : zdb (zs.take k) zs[k] with
   | false =>
    have H' : Hid (∀ j (h : j < zs.length), j < k + 1 → zdb (zs.take j) zs[j] = false) := fun j h a => by
     by_cases e : j = k
     ·subst e; exact q
     ·exact H.out j h (by omega)
    have Q := zaa q
    clear q H
    generalize zs[k] = z at hck Q
    go_wp2_with (go_at_call 84; refine (zfa _ (zs.take k) z _ RT.out LT.out).mono ?_; rw [Q.out]; rintro e w' ⟨rfl, rfl⟩)
    go_round
    case rel => exact ⟨k + 1, by omega, by go_num, H'⟩
    case measure => simp [intOf]; omega
   | true =>
    have E := zaa (zuy hlt q)
    have Q := zaa q
    clear q H
    generalize zs[k] = z at hck Q
    go_wp2_with (go_at_call 84; refine (zfa _ (zs.take k) z _ RT.out LT.out).mono ?_; rw [Q.out]; rintro e w' ⟨rfl, rfl⟩)
    go_ret
    exact ⟨zag E.out.symm, rfl⟩
  ·have E := zaa (onceB_mk (fun j h => H.out j h (by omega)))
   clear H
   go_wp2
   go_ret
   exact ⟨zag E.out.symm, rfl⟩
end Go.Proofs.YtbbmljakfbhnpaaGreatDoor
