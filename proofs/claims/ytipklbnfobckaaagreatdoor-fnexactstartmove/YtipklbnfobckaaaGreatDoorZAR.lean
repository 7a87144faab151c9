/- Several texts laid together: ImK, PiG, PiH, TrA. -/
import Derived.Test.YtipklbnfobckaaaGreatDoorZAK
import Derived.Test.YtipklbnfobckaaaGreatDoorZAL
import Derived.Test.YtipklbnfobckaaaGreatDoorZAD
namespace Go.Proofs.YtipklbnfobckaaaGreatDoor
open Go.RowKit

/-- A number stands in a list. -/
def zep (zs : List Int) (n : Int) : Bool := zs.contains n
theorem has_not {zs : List Int} {n : Int} (h : ∀ j (h : j < zs.length), ¬ zs[j] = n) : zep zs n = false := by
 unfold zep
 rw [List.contains_eq_any_beq, List.any_eq_false]
 intro z hz
 obtain ⟨j, hj, rfl⟩ := List.getElem_of_mem hz
 simp only [beq_iff_eq]
 exact fun e => h j hj e.symm

set_option maxRecDepth 100000 in
set_option maxHeartbeats 2000000 in
theorem zir (v : Value) (zs : List Int) (n : Int) (w : World) (h : RdI w v zs) (hn : zs.length ≤ 1048576) :
  Calls Tryz.prog 219 #[v, .int .i64 n] w fun e w' => e = .returned (.bool (zep zs n)) ∧ w' = w := by
 obtain ⟨aZ, cZ, rfl, _, hcZ⟩ := h.shape
 have HZ := zaa hcZ
 clear h hcZ
 go_enter Tryz.func219, Tryz.ntmps219
 go_wp2
 go_loop [5] (fun i => ∃ k : Nat, k ≤ zs.length ∧ i = .int .i64 k ∧ Hid (∀ j (h : j < zs.length), j < k → ¬ zs[j] = n)) (fun i => zs.length - (intOf i).toNat)
 case atStart => exact ⟨0, by omega, rfl, fun j h a => absurd a (by omega)⟩
 case round =>
  obtain ⟨k, hk, rfl, H⟩ := hrel
  by_cases hlt : k < zs.length
  ·obtain ⟨b, o, rfl, hbl, hcell⟩ := HZ.out (by omega)
   have d0 := hcell k hlt
   have k0 : (0 : Int) ≤ (k : Int) := by omega
   have k1 : (k : Int) < (zs.length : Int) := by omega
   have HY := zaa (fun e : zs[k] = n => show zep zs n = true by unfold zep; rw [← e]; exact List.contains_iff_mem.2 (List.getElem_mem hlt))
   have HX := zaa (fun (e : ¬ zs[k] = n) j (h : j < zs.length) (a : j < k + 1) => show ¬ zs[j] = n by
    by_cases q : j = k
    ·subst q; exact e
    ·exact H.out j h (by omega))
   clear hcell
   generalize zs[k] = z at *
   by_cases q : z = n
   ·have q1 : (z == n) = true := beq_iff_eq.2 q
    have E := zaa (HY.out q)
    clear q HX HY
    go_wp2
    go_ret
    exact ⟨zac E.out.symm, rfl⟩
   ·have q1 : (z == n) = false := beq_eq_false_iff_ne.2 q
    have E := zaa (HX.out q)
    clear q HX HY
    go_wp2
    go_round
    case rel => exact ⟨k + 1, by omega, by go_num, E⟩
    case measure => simp [intOf]; omega
  ·obtain rfl : k = zs.length := by omega
   have E := zaa (has_not (fun j h => H.out j h h))
   go_wp2
   go_ret
   exact ⟨zac E.out.symm, rfl⟩

theorem zod (b : Bool) (w : World) : Calls Tryz.prog 216 #[.bool b] w fun e w' => e = .returned (.int .i64 (if b = true then 1 else 0)) ∧ w' = w := by
 cases b
 all_goals
  go_enter Tryz.func216, Tryz.ntmps216
  go_wp2
  go_ret
  exact ⟨rfl, rfl⟩

/-- The directory that one stands in, -1 of one that stands in none. -/
def upD (ds : List Den) (c : Int) : Int := ((ds.find? fun x => x.child == c).map Den.dir).getD (-1)
theorem upD_no {ds : List Den} {c : Int} (h : ∀ j (h : j < ds.length), ¬ ds[j].child = c) : upD ds c = -1 := by
 unfold upD
 rw [List.find?_eq_none.2]
 ·rfl
 ·intro x hx
  obtain ⟨j, hj, rfl⟩ := List.getElem_of_mem hx
  simp only [beq_iff_eq]
  exact h j hj
theorem upD_yes {ds : List Den} {c : Int} {k : Nat} (hk : k < ds.length) (h : ∀ j (h : j < ds.length), j < k → ¬ ds[j].child = c) (e : ds[k].child = c) : upD ds c = ds[k].dir := by
 unfold upD
 have : ds.find? (fun x => x.child == c) = some ds[k] := List.find?_eq_some_iff_getElem.2 ⟨beq_iff_eq.2 e, k, hk, rfl, fun j hj => by
  have := h j (by omega) hj
  simp [this]⟩
 rw [this]
 rfl

set_option maxRecDepth 100000 in
set_option maxHeartbeats 2000000 in
theorem l05Up_any (v : Value) (ws : List Ino) (ps : List Den) (c : Int) (w : World) (h : RdIm w v ws ps) (hn : ps.length ≤ 1048576) :
  Calls Tryz.prog 280 #[v, .int .i64 c] w fun e w' => e = .returned (.int .i64 (upD ps c)) ∧ Below w.heap.size w w' := by
 obtain ⟨vW, vP, rfl, h1, h2⟩ := h
 obtain ⟨aW, cW, rfl, _⟩ := h1.shape
 obtain ⟨aP, cP, rfl, _, hcP⟩ := h2.shape
 have HZ := zaa hcP
 clear h1 h2 hcP
 obtain ⟨W, hW⟩ : ∃ W, W = w.alloc (.cells #[.slice aW ws.length cW, .slice aP ps.length cP] 83) := ⟨_, rfl⟩
 have CA : Hid (∀ w', Below W.heap.size W w' → w'.cell? ⟨w.heap.size, 1, none⟩ = some (.slice aP ps.length cP)) := fun w' hb => by
  have : w'.heap[w.heap.size]? = some (.cells #[.slice aW ws.length cW, .slice aP ps.length cP] 83 (0, 0)) := (hb.block _ (by rw [hW]; simp)).trans (by rw [hW]; exact zah rfl)
  exact (zad this).2.1
 have BW : Hid (Below w.heap.size w W) := by rw [hW]; exact (Below.refl _ _).alloc (Nat.le_refl _) _
 have hz : w.heap.size ≤ W.heap.size := BW.out.size
 go_enter Tryz.func280, Tryz.ntmps280
 go_wp2
 rw [← hW]
 clear hW
 go_loopw [5] (fun i wr => ∃ k : Nat, k ≤ ps.length ∧ i = .int .i64 k ∧ Hid (Below W.heap.size W wr ∧ ∀ j (h : j < ps.length), j < k → ¬ ps[j].child = c)) (fun i _ => ps.length - (intOf i).toNat)
 case atStart => exact ⟨0, by omega, rfl, Below.refl _ _, fun j h a => absurd a (by omega)⟩
 case round =>
  obtain ⟨k, hk, rfl, J⟩ := hrel
  have x1 := CA.out wr J.out.1
  by_cases hlt : k < ps.length
  ·obtain ⟨b, o, rfl, hbl, hcell⟩ := HZ.out (by omega)
   have BR := zab BW.out J.out.1 hz
   obtain ⟨c0, c1, c2⟩ := hcell k hlt
   have d0 := (BR.cell (p := ⟨b, o + k * 3, none⟩) hbl).trans c0
   have d2 := (BR.cell (p := ⟨b, o + k * 3 + 2, none⟩) hbl).trans c2
   have B := zaa BR
   have k0 : (0 : Int) ≤ (k : Int) := by omega
   have k1 : (k : Int) < (ps.length : Int) := by omega
   have HY := zaa (fun e : ps[k].child = c => upD_yes hlt J.out.2 e)
   have HX := zaa (fun (e : ¬ ps[k].child = c) j (h : j < ps.length) (a : j < k + 1) => show ¬ ps[j].child = c by
    by_cases q : j = k
    ·subst q; exact e
    ·exact J.out.2 j h (by omega))
   clear hcell c0 c1 c2 BR
   generalize ps[k].child = z at *
   generalize ps[k].dir = y at *
   by_cases q : z = c
   ·have q1 : (z == c) = true := beq_iff_eq.2 q
    have E := zaa (HY.out q)
    clear q HX HY
    go_wp2
    go_ret
    exact ⟨zeo E.out.symm, B.out⟩
   ·have q1 : (z == c) = false := beq_eq_false_iff_ne.2 q
    have E : Hid (Below W.heap.size W wr ∧ ∀ j (h : j < ps.length), j < k + 1 → ¬ ps[j].child = c) := ⟨J.out.1, HX.out q⟩
    clear q HX HY
    go_wp2
    go_roundw
    case rel => exact ⟨k + 1, by omega, by go_num, E⟩
    case measure => simp [intOf]; omega
  ·obtain rfl : k = ps.length := by omega
   have E := zaa (upD_no (fun j h => J.out.2 j h h))
   go_wp2
   go_ret
   exact ⟨zeo E.out.symm, zab BW.out J.out.1 hz⟩

/-- One hangs on the root within n steps up. -/
def hangs (ds : List Den) : Nat → Int → Bool
 | 0, _ => false
 | n + 1, d => if d = 0 then true else if upD ds d < 0 then false else hangs ds n (upD ds d)

set_option maxRecDepth 100000 in
set_option maxHeartbeats 2000000 in
theorem zsx (v : Value) (ws : List Ino) (ps : List Den) (c : Int) (w : World) (h : RdIm w v ws ps) (hn : ps.length ≤ 1048576) :
  Calls Tryz.prog 217 #[v, .int .i64 c] w fun e w' => e = .returned (.bool (hangs ps 16 c)) ∧ Below w.heap.size w w' := by
 have HR := zaa h
 obtain ⟨vW, vP, rfl, h1, h2⟩ := h
 obtain ⟨aW, cW, rfl, _⟩ := h1.shape
 obtain ⟨aP, cP, rfl, _, hcP⟩ := h2.shape
 clear h1 h2 hcP
 obtain ⟨W, hW⟩ : ∃ W, W = w.alloc (.cells #[.slice aW ws.length cW, .slice aP ps.length cP] 83) := ⟨_, rfl⟩
 have CA : Hid (∀ w', Below W.heap.size W w' → w'.cell? ⟨w.heap.size, 0, none⟩ = some (.slice aW ws.length cW) ∧ w'.cell? ⟨w.heap.size, 1, none⟩ = some (.slice aP ps.length cP)) := fun w' hb => by
  have : w'.heap[w.heap.size]? = some (.cells #[.slice aW ws.length cW, .slice aP ps.length cP] 83 (0, 0)) := (hb.block _ (by rw [hW]; simp)).trans (by rw [hW]; exact zah rfl)
  exact ⟨(zad this).1, (zad this).2.1⟩
 have BW : Hid (Below w.heap.size w W) := by rw [hW]; exact (Below.refl _ _).alloc (Nat.le_refl _) _
 have hz : w.heap.size ≤ W.heap.size := BW.out.size
 have LU := zaa (fun d w1 h => l05Up_any (.agg #[.slice aW ws.length cW, .slice aP ps.length cP]) ws ps d w1 h hn)
 go_enter Tryz.func217, Tryz.ntmps217
 go_wp2
 rw [← hW]
 clear hW
 go_loopw [1, 5] (fun d i wr => ∃ (k : Nat) (z : Int), k ≤ 16 ∧ i = .int .i64 k ∧ d = .int .i64 z ∧ Hid (Below W.heap.size W wr ∧ hangs ps 16 c = hangs ps (16 - k) z)) (fun _ i _ => 16 - (intOf i).toNat)
 case atStart => exact ⟨0, c, by omega, rfl, rfl, Below.refl _ _, rfl⟩
 case round =>
  obtain ⟨k, z, hk, rfl, rfl, J⟩ := hrel
  obtain ⟨x0, x1⟩ := CA.out wr J.out.1
  by_cases hlt : k < 16
  ·have ES := zaa (show hangs ps (16 - k) z = if z = 0 then true else if upD ps z < 0 then false else hangs ps (16 - (k + 1)) (upD ps z) by
    rw [show 16 - k = (16 - (k + 1)) + 1 by omega]; rfl)
   have B := zaa (zab BW.out J.out.1 hz)
   by_cases q : z = 0
   ·subst q
    have E := zaa (show hangs ps 16 c = true by rw [J.out.2, ES.out, if_pos rfl])
    go_wp2
    go_ret
    exact ⟨zac E.out.symm, B.out⟩
   ·have q1 : (z == 0) = false := beq_eq_false_iff_ne.2 q
    have R := zaa (HR.out.below B.out)
    by_cases r : upD ps z < 0
    ·have E := zaa (show hangs ps 16 c = false by rw [J.out.2, ES.out, if_neg q, if_pos r])
     go_wp2_with fail
     refine (LU.out _ _ R.out).mono ?_
     rintro e w1 ⟨rfl, hb1⟩
     have B1 := zaa (zab B.out hb1 B.out.size)
     clear hb1
     go_wp2
     go_ret
     exact ⟨zac E.out.symm, B1.out⟩
    ·have E := zaa (show hangs ps 16 c = hangs ps (16 - (k + 1)) (upD ps z) by rw [J.out.2, ES.out, if_neg q, if_neg r])
     go_wp2_with fail
     refine (LU.out _ _ R.out).mono ?_
     rintro e w1 ⟨rfl, hb1⟩
     have B1 := zaa (zab J.out.1 hb1 J.out.1.size)
     clear hb1
     go_wp2
     go_roundw
     case rel => exact ⟨k + 1, _, by omega, by go_num, rfl, B1.out, E.out⟩
     case measure => simp [intOf]; omega
  ·obtain rfl : k = 16 := by omega
   have E := zaa (show hangs ps 16 c = false by rw [J.out.2]; rfl)
   go_wp2
   go_ret
   exact ⟨zac E.out.symm, zab BW.out J.out.1 hz⟩
end Go.Proofs.YtipklbnfobckaaaGreatDoor

namespace Go.Proofs.YtipklbnfobckaaaGreatDoor
open Go.RowKit

theorem has_at {zs : List Int} {n : Int} {k : Nat} (hk : k < zs.length) (h : n = zs[k]) : zep zs n = true := by
 unfold zep
 rw [List.contains_eq_any_beq, List.any_eq_true]
 exact ⟨zs[k], List.getElem_mem _, by rw [h]; simp⟩

set_option maxHeartbeats 2000000 in
theorem zrs (v : Value) (zs : List Int) (n : Int) (w : World) (h : RdI w v zs) (hn : zs.length ≤ 1048576) :
  Calls Tryz.prog 284 #[v, .int .i64 n] w fun e w' => ∃ r : Int, e = .returned (.int .i64 r) ∧ (decide (0 ≤ r) = zep zs n) ∧ w' = w := by
 obtain ⟨aZ, cZ, rfl, _, hcZ⟩ := h.shape
 have HZ := zaa hcZ
 clear h hcZ
 go_enter Tryz.func284, Tryz.ntmps284
 go_wp2
 go_loop [5, 8] (fun _ i => ∃ k : Nat, k ≤ zs.length ∧ i = .int .i64 k ∧ Hid (∀ j (h : j < zs.length), j < k → ¬ zs[j] = n)) (fun _ i => zs.length - (intOf i).toNat)
 case atStart => exact ⟨0, by omega, rfl, fun j h a => absurd a (by omega)⟩
 case round =>
  obtain ⟨k, hk, rfl, H⟩ := hrel
  by_cases hlt : k < zs.length
  ·obtain ⟨b, o, rfl, hbl, hcell⟩ := HZ.out (by omega)
   have hck := hcell k hlt
   clear hcell
   by_cases q : n = zs[k]
   ·have q' : (n == zs[k]) = true := by rw [beq_iff_eq]; exact q
    have E := zaa (has_at hlt q)
    clear q H
    generalize zs[k] = z at *
    go_wp2
    go_ret
    exact ⟨_, rfl, by rw [E.out]; exact decide_eq_true (by omega), rfl⟩
   ·have q' : (n == zs[k]) = false := by rw [beq_eq_false_iff_ne]; exact q
    have H' : Hid (∀ j (h : j < zs.length), j < k + 1 → ¬ zs[j] = n) := fun j h a => by
     by_cases e : j = k
     ·subst e; exact fun e => q e.symm
     ·exact H.out j h (by omega)
    clear q H
    generalize zs[k] = z at hck q'
    go_wp2
    go_round
    case rel => exact ⟨k + 1, by omega, by go_num, H'⟩
    case measure => simp [intOf]; omega
  ·have E := zaa (has_not (fun j h => H.out j h (by omega)))
   clear H
   go_wp2
   go_ret
   exact ⟨_, rfl, by rw [E.out]; rfl, rfl⟩

theorem zef (v : Value) (zs : List Int) (n : Int) (w : World) (h : RdI w v zs) (hn : zs.length ≤ 1048576) :
  Calls Tryz.prog 231 #[v, .int .i64 n] w fun e w' => e = .returned (.bool (zep zs n)) ∧ w' = w := by
 have HZ := zaa h
 obtain ⟨aZ, cZ, rfl, _, _⟩ := h.shape
 clear h
 go_enter Tryz.func231, Tryz.ntmps231
 go_wp2_with fail
 refine (zrs _ zs n _ HZ.out hn).mono ?_
 rintro e w' ⟨r, rfl, hr, hw'⟩
 subst w'
 have R := zaa hr
 clear hr
 go_wp2
 go_ret
 exact ⟨zac R.out, rfl⟩

theorem Rd.take {w : World} {size : Nat} {ao : Option Addr} {n c : Nat} {xs : List Value} {m : Nat} (h : Rd w size (.slice ao n c) n xs) (hm : m ≤ n) : Rd w size (.slice ao m c) m (xs.take (m * size)) := by
 obtain ⟨h1, ao', cap, e, h2, h3⟩ := h
 cases e
 have hms : m * size ≤ n * size := Nat.mul_le_mul_right _ hm
 refine ⟨by rw [List.length_take, h1]; omega, ao, c, rfl, ⟨by omega, h2.2⟩, fun hp => ?_⟩
 obtain ⟨b, o, e1, e2, e3⟩ := h3 (by omega)
 exact ⟨b, o, e1, e2, fun j hj => by rw [e3 j (by omega), List.getElem?_take, if_pos hj]⟩
theorem RdI.take {w : World} {ao : Option Addr} {c : Nat} {zs : List Int} {m : Nat} (h : RdI w (.slice ao zs.length c) zs) (hm : m ≤ zs.length) : RdI w (.slice ao m c) (zs.take m) := by
 have := Rd.take h hm
 unfold RdI
 have e : (zs.take m).length = m := by rw [List.length_take]; omega
 have e2 : zca (zs.take m) = (zca zs).take (m * 1) := by rw [Nat.mul_one]; simp [zca, List.map_take]
 rw [e, e2]
 exact this
/-- No number stands twice. -/
def zek (zs : List Int) : Bool := decide (∀ k (h : k < zs.length), zep (zs.take k) zs[k] = false)
theorem onceB_mk {zs : List Int} (h : ∀ k (h : k < zs.length), zep (zs.take k) zs[k] = false) : zek zs = true := decide_eq_true h
theorem zto {zs : List Int} {k : Nat} (hk : k < zs.length) (h : zep (zs.take k) zs[k] = true) : zek zs = false := decide_eq_false (fun x => by have := x k hk; rw [h] at this; cases this)

set_option maxHeartbeats 2000000 in
theorem zkg (v : Value) (zs : List Int) (w : World) (h : RdI w v zs) (hn : zs.length ≤ 1048576) :
  Calls Tryz.prog 168 #[v] w fun e w' => e = .returned (.bool (zek zs)) ∧ w' = w := by
 have HR := zaa h
 obtain ⟨aZ, cZ, rfl, hcap, hcZ⟩ := h.shape
 have HZ := zaa hcZ
 clear h hcZ
 go_enter Tryz.func168, Tryz.ntmps168
 go_wp2
 go_loop [3, 4, 7] (fun _ _ i => ∃ k : Nat, k ≤ zs.length ∧ i = .int .i64 k ∧ Hid (∀ j (h : j < zs.length), j < k → zep (zs.take j) zs[j] = false)) (fun _ _ i => zs.length - (intOf i).toNat)
 case atStart => exact ⟨0, by omega, rfl, fun j h a => absurd a (by omega)⟩
 case round =>
  obtain ⟨k, hk, rfl, H⟩ := hrel
  by_cases hlt : k < zs.length
  ·obtain ⟨b, o, rfl, hbl, hcell⟩ := HZ.out (by omega)
   have hck := hcell k hlt
   have RT := zaa (RdI.take HR.out hk)
   have LT := zaa (show (zs.take k).length ≤ 1048576 by rw [List.length_take]; omega)
   clear hcell
   cases q : zep (zs.take k) zs[k] with
   | false =>
    have H' : Hid (∀ j (h : j < zs.length), j < k + 1 → zep (zs.take j) zs[j] = false) := fun j h a => by
     by_cases e : j = k
     ·subst e; exact q
     ·exact H.out j h (by omega)
    have Q := zaa q
    clear q H
    generalize zs[k] = z at hck Q
    go_wp2_with (go_at_call 231; refine (zef _ (zs.take k) z _ RT.out LT.out).mono ?_; rw [Q.out]; rintro e w' ⟨rfl, rfl⟩)
    go_round
    case rel => exact ⟨k + 1, by omega, by go_num, H'⟩
    case measure => simp [intOf]; omega
   | true =>
    have E := zaa (zto hlt q)
    have Q := zaa q
    clear q H
    generalize zs[k] = z at hck Q
    go_wp2_with (go_at_call 231; refine (zef _ (zs.take k) z _ RT.out LT.out).mono ?_; rw [Q.out]; rintro e w' ⟨rfl, rfl⟩)
    go_ret
    exact ⟨zac E.out.symm, rfl⟩
  ·have E := zaa (onceB_mk (fun j h => H.out j h (by omega)))
   clear H
   go_wp2
   go_ret
   exact ⟨zac E.out.symm, rfl⟩
end Go.Proofs.YtipklbnfobckaaaGreatDoor

namespace Go.Proofs.YtipklbnfobckaaaGreatDoor
open Go.RowKit

/-- A row of numbers that grows. -/
structure InI (W w : World) (vL : Value) (zs : List Int) : Prop where
 l : w.ownsRow W.heap.size 3 1 vL zs.length (zca zs)
 b : Below W.heap.size W w
theorem InI.z {W w : World} {vL : Value} {zs : List Int} (h : InI W w vL zs) : W.heap.size ≤ w.heap.size := h.b.size
theorem InI.below {W w w' : World} {vL : Value} {zs : List Int} (h : InI W w vL zs) (hb : Below w.heap.size w w') : InI W w' vL zs :=
 ⟨((zaf h.l).below hb (Nat.le_refl _)).1, zab h.b hb h.z⟩
theorem InI.grow {W w w' : World} {vL v' : Value} {zs : List Int} (h : InI W w vL zs) (x : Int) (ho : w'.ownsRow W.heap.size 3 1 v' (zs.length + 1) (zca zs ++ [.int .i64 x])) (hg : w.grownBy w' vL.ownBlock) : InI W w' v' (zs ++ [x]) :=
 ⟨by rw [ints_snoc, List.length_append]; exact ho, h.b.grown hg h.z (fun q hq => (h.l.lt q hq).1)⟩
theorem zva (x : Int) : ∀ u ∈ [Value.int .i64 x], u.oneCell' = true := by
 intro u hu
 rw [List.mem_singleton.1 hu]
 rfl
/-- The entries that are somewhere, of a map and of inodes. -/
def zdw (zs : List Int) : List Int := zs.filter fun z => z != 0
def zak (ws : List Ino) : List Int := ws.flatMap fun x => zdw x.map
/-- So far: some inodes, and some pages of the next one. -/
def zqx (ws : List Ino) (k : Nat) (j : Nat) : List Int := zak (ws.take k) ++ zdw (((ws[k]?).map Ino.map).getD [] |>.take j)
theorem zrj (ws : List Ino) (k : Nat) : zqx ws k 0 = zak (ws.take k) := by simp [zqx, zdw]
theorem zue {ws : List Ino} {k : Nat} (hk : k < ws.length) {j : Nat} (hj : j < 8) : zqx ws k (j + 1) = if ws[k].map.getD j 0 = 0 then zqx ws k j else zqx ws k j ++ [ws[k].map.getD j 0] := by
 have hl : j < ws[k].map.length := hj
 have e : ws[k].map.getD j 0 = ws[k].map[j] := by rw [List.getD_eq_getElem?_getD, List.getElem?_eq_getElem hl]; rfl
 unfold zqx zdw
 rw [List.getElem?_eq_getElem hk]
 simp only [Option.map_some, Option.getD_some]
 rw [List.take_succ_eq_append_getElem hl, List.filter_append, e]
 by_cases h : ws[k].map[j] = 0
 ·rw [if_pos h, h]; simp
 ·rw [if_neg h]; simp [h]
theorem ztx {ws : List Ino} {k : Nat} (hk : k < ws.length) : zqx ws k 8 = zak (ws.take (k + 1)) := by
 unfold zqx zak
 rw [List.getElem?_eq_getElem hk, List.take_succ_eq_append_getElem hk, List.flatMap_append]
 simp [Ino.map]
theorem zsh (zs : List Int) : (zdw zs).length ≤ zs.length := List.length_filter_le _ _
theorem zeb (ws : List Ino) : (zak ws).length ≤ 8 * ws.length := by
 induction ws with
 | nil => simp [zak]
 | cons x ws ih =>
  have h1 := zsh x.map
  have h2 : x.map.length = 8 := rfl
  unfold zak at *
  rw [List.flatMap_cons, List.length_append, List.length_cons]
  omega
theorem mapd_len (ws : List Ino) (k j : Nat) (hk : k < ws.length) (hj : j ≤ 8) : (zqx ws k j).length ≤ 8 * ws.length := by
 have h1 := zeb (ws.take k)
 have h2 := zsh (((ws[k]?).map Ino.map).getD [] |>.take j)
 have h3 : (((ws[k]?).map Ino.map).getD [] |>.take j).length ≤ j := by rw [List.length_take]; omega
 unfold zqx
 rw [List.length_append]
 rw [List.length_take] at h1
 omega

set_option maxRecDepth 100000 in
theorem idx8 (x : Ino) (j : Nat) (hj : j < 8) (w : World) : (Instr.index 169 (.agg #[.int .i64 x.m0, .int .i64 x.m1, .int .i64 x.m2, .int .i64 x.m3, .int .i64 x.m4, .int .i64 x.m5, .int .i64 x.m6, .int .i64 x.m7]) (.int .i64 (j : Int))).run Tryz.prog w = .ok (.int .i64 (x.map.getD j 0)) w := by
 rcases (show j = 0 ∨ j = 1 ∨ j = 2 ∨ j = 3 ∨ j = 4 ∨ j = 5 ∨ j = 6 ∨ j = 7 by omega) with rfl | rfl | rfl | rfl | rfl | rfl | rfl | rfl <;> simp [Instr.index, run_underlying Tryz.underlying169, asIntOf, Ino.map, go_sem]

set_option maxRecDepth 100000 in
set_option maxHeartbeats 4000000 in
theorem zex (v : Value) (ws : List Ino) (w : World) (h : RdN w v ws) (hn : ws.length ≤ 4096) :
  Calls Tryz.prog 169 #[v] w fun e w' => ∃ v', e = .returned v' ∧ Row w' 3 1 w.heap.size w'.heap.size v' (zak ws).length (zca (zak ws)) ∧ Below w.heap.size w w' := by
 obtain ⟨aW, cW, rfl, _, hcW⟩ := h.shape
 have HW := zaa hcW
 clear h hcW
 go_enter Tryz.func169, Tryz.ntmps169
 go_wp2
 go_loopw [3, 5, 7, 10] (fun vL _ _ i wr => ∃ k : Nat, k ≤ ws.length ∧ i = .int .i64 k ∧ Hid (InI w wr vL (zak (ws.take k))) ∧ w.heap.size ≤ wr.heap.size) (fun _ _ _ i _ => ws.length - (intOf i).toNat)
 case atStart => exact ⟨0, by omega, rfl, ⟨World.ownsRow_nil _ _ _ _, Below.refl _ _⟩, Nat.le_refl _⟩
 case round =>
  obtain ⟨k, hk, rfl, I, hz⟩ := hrel
  by_cases hlt : k < ws.length
  ·obtain ⟨b, o, rfl, hbl, hcell⟩ := HW.out (by omega)
   obtain ⟨a0, a1, a2, a3, a4, a5, a6, a7, a8, a9, a10⟩ := hcell k hlt
   have d0 := (I.out.b.cell (p := ⟨b, o + k * 11, none⟩) hbl).trans a0
   have d1 := (I.out.b.cell (p := ⟨b, o + k * 11 + 1, none⟩) hbl).trans a1
   have d2 := (I.out.b.cell (p := ⟨b, o + k * 11 + 2, none⟩) hbl).trans a2
   have d3 := (I.out.b.cell (p := ⟨b, o + k * 11 + 3, none⟩) hbl).trans a3
   have d4 := (I.out.b.cell (p := ⟨b, o + k * 11 + 4, none⟩) hbl).trans a4
   have d5 := (I.out.b.cell (p := ⟨b, o + k * 11 + 5, none⟩) hbl).trans a5
   have d6 := (I.out.b.cell (p := ⟨b, o + k * 11 + 6, none⟩) hbl).trans a6
   have d7 := (I.out.b.cell (p := ⟨b, o + k * 11 + 7, none⟩) hbl).trans a7
   have d8 := (I.out.b.cell (p := ⟨b, o + k * 11 + 8, none⟩) hbl).trans a8
   have d9 := (I.out.b.cell (p := ⟨b, o + k * 11 + 9, none⟩) hbl).trans a9
   have d10 := (I.out.b.cell (p := ⟨b, o + k * 11 + 10, none⟩) hbl).trans a10
   have k0 : (0 : Int) ≤ (k : Int) := by omega
   have k1 : (k : Int) < (ws.length : Int) := by omega
   have MZ := zaa (zrj ws k)
   have MF := zaa (ztx hlt)
   have MS := zaa (fun j (hj : j < 8) => zue hlt hj)
   have ML := zaa (fun j (hj : j ≤ 8) => mapd_len ws k j hlt hj)
   have HM := zaa (fun j (hj : j < 8) => ws[k].at j hj)
   clear a0 a1 a2 a3 a4 a5 a6 a7 a8 a9 a10 hcell
   generalize ws[k] = x at *
   have START : Hid (InI w (wr.alloc (.cells x.cs.toArray 171)) u3 (zqx ws k 0)) := by
    have := I.out.below ((Below.refl wr.heap.size wr).alloc (Nat.le_refl _) (.cells x.cs.toArray 171))
    unfold Hid
    rw [MZ.out]
    exact this
   unfold Ino.cs at START
   have hz0 := START.out.z
   clear I
   go_wp2
   go_loopw [3, 7, 16] (fun vL _ i wq => ∃ j : Nat, j ≤ 8 ∧ i = .int .i64 j ∧ Hid (InI w wq vL (zqx ws k j)) ∧ w.heap.size ≤ wq.heap.size) (fun _ _ i _ => 8 - (intOf i).toNat)
   case atStart => exact ⟨0, by omega, rfl, START, hz0⟩
   case round =>
    obtain ⟨j, hj, rfl, J, hzj⟩ := hrel
    clear START hz0 d0 d1 d2 d3 d4 d5 d6 d7 d8 d9 d10
    have j0 : (0 : Int) ≤ (j : Int) := by omega
    by_cases hlj : j < 8
    ·have j1 : (j : Int) < 8 := by omega
     have ix := idx8 x j hlj
     have MJ := zaa (MS.out j hlj)
     have hlen := ML.out j (by omega)
     generalize x.map.getD j 0 = z at ix MJ
     by_cases q : z = 0
     ·have q' : (z != 0) = false := by rw [q]; rfl
      have G : Hid (InI w wr u3 (zqx ws k (j + 1))) := by unfold Hid; rw [MJ.out, if_pos q]; exact J.out
      clear q J MJ
      go_wp2
      go_roundw
      case rel => exact ⟨j + 1, by omega, by go_num, G, hzj⟩
      case measure => simp [intOf]; omega
     ·have q' : (z != 0) = true := by rw [bne_iff_ne]; exact q
      have JB : Hid (InI w (wr.alloc (.cells #[.int .i64 z] 3)) u3 (zqx ws k j)) := J.out.below ((Below.refl _ _).alloc (Nat.le_refl _) _)
      have RB := zaa (rd_int wr z)
      have hzb := JB.out.z
      have MN : Hid (zqx ws k (j + 1) = zqx ws k j ++ [z]) := by unfold Hid; rw [MJ.out, if_neg q]
      clear q J MJ
      go_wp2_with (at_builtin; refine zai _ rfl (.tmp 21) (.tmp 23) 22 rfl w.heap.size 3 (.int .i64 0) 1 8 Tryz.underlying22 zkh rfl (by decide) _ _ _ rfl JB.out.l _ 1 _ rfl RB.out (zva _) (by simp [maxLen]; omega) (by omega) (by omega) ?_)
      intro vN wN hownN hgrN
      have G := zaa (JB.out.grow z hownN hgrN)
      rw [← MN.out] at G
      have hzN := G.out.z
      clear hownN hgrN JB RB
      go_wp2
      go_roundw
      case rel => exact ⟨j + 1, by omega, by go_num, G, hzN⟩
      case measure => simp [intOf]; omega
    ·obtain rfl : j = 8 := by omega
     have G : Hid (InI w wr u3 (zak (ws.take (k + 1)))) := by unfold Hid; rw [← MF.out]; exact J.out
     clear J
     go_wp2
     go_roundw
     case rel => exact ⟨k + 1, by omega, by go_num, G, hzj⟩
     case measure => simp [intOf]; omega
  ·obtain rfl : k = ws.length := by omega
   have E := zaa (show zak (ws.take ws.length) = zak ws by rw [List.take_length])
   rw [E.out] at I
   obtain ⟨-, aL, cL, hvL, -⟩ := (zaf I.out.l).rd
   subst hvL
   go_wp2
   go_ret
   exact ⟨_, rfl, zaf I.out.l, I.out.b⟩
end Go.Proofs.YtipklbnfobckaaaGreatDoor

namespace Go.Proofs.YtipklbnfobckaaaGreatDoor
open Go.RowKit

/-- Heat that is right; heat of a fresh file system; all halved. -/
def zcn (hs : List Int) : Bool := decide (hs.length = 128 ∧ ∀ k (h : k < hs.length), 0 ≤ hs[k] ∧ hs[k] ≤ 64)
set_option maxRecDepth 100000 in
set_option maxHeartbeats 4000000 in
theorem zno (v : Value) (hs : List Int) (w : World) (h : RdI w v hs) (_hn : hs.length ≤ 1048576) : Calls Tryz.prog 42 #[v] w fun e w' => e = .returned (.bool (zcn hs)) ∧ w' = w := by
 have NO := zaa (fun h => show zcn hs = false from decide_eq_false h)
 have YES := zaa (fun h => show zcn hs = true from decide_eq_true h)
 obtain ⟨ao, cap, rfl, hcap, hc⟩ := h.shape
 by_cases c1 : (hs.length : Int) > 4096
 ·rw [NO.out (fun q => by omega)]
  go_enter Tryz.func42, Tryz.ntmps42
  go_wp2
  go_ret
  exact ⟨rfl, rfl⟩
 by_cases c2 : hs.length = 128
 case neg =>
  rw [NO.out (fun q => c2 q.1)]
  have q : ((hs.length : Int) != 128) = true := by rw [bne_iff_ne]; omega
  go_enter Tryz.func42, Tryz.ntmps42
  go_wp2
  go_ret
  exact ⟨rfl, rfl⟩
 obtain ⟨b, o, rfl, hbl, hcell⟩ := hc (by omega)
 have HC := zaa hcell
 have L128 := zaa c2
 rw [show zcn hs = zcn hs from rfl]
 generalize hb : zcn hs = hB at *
 clear hb hcell c1
 rw [c2]
 clear c2 hcap
 go_enter Tryz.func42, Tryz.ntmps42
 go_wp2
 go_loopw [3] (fun i wr => ∃ m : Nat, m ≤ 128 ∧ i = .int .i64 (m : Int) ∧ wr = w ∧ Hid (∀ k (h : k < hs.length), k < m → 0 ≤ hs[k] ∧ hs[k] ≤ 64)) (fun i _ => 128 - (intOf i).toNat)
 case atStart => exact ⟨0, by omega, rfl, rfl, fun k _ hk => absurd hk (by omega)⟩
 case round =>
  obtain ⟨m, hm, rfl, rfl, J⟩ := hrel
  have m0 : (0 : Int) ≤ (m : Int) := by omega
  by_cases hlt : m < 128
  ·have m1 : (m : Int) < 128 := by omega
   have hl : m < hs.length := by have := L128.out; omega
   have e0 := HC.out m hl
   by_cases q : 0 ≤ hs[m] ∧ hs[m] ≤ 64
   ·have G : Hid (∀ k (h : k < hs.length), k < m + 1 → 0 ≤ hs[k] ∧ hs[k] ≤ 64) := fun k hk hkm => by
     rcases Nat.lt_succ_iff_lt_or_eq.1 hkm with r | rfl
     ·exact J.out k hk r
     ·exact q
    generalize hs[m] = z at *
    clear J
    go_wp2_with fail
    refine (zaz _ _ _ _ q).mono ?_
    rintro e w' ⟨rfl, hw'⟩
    subst w'
    go_wp2
    go_roundw
    case rel => exact ⟨m + 1, by omega, by go_num, (by first | rfl | trivial), G⟩
    case measure => simp [intOf]; omega
   ·have E := zaa (NO.out (fun r => q (r.2 m hl)))
    generalize hs[m] = z at *
    obtain rfl := E.out
    go_wp2_with fail
    refine (zdv _ _ _ _ q).mono ?_
    rintro e w' ⟨rfl, hw'⟩
    subst w'
    go_wp2
    go_ret
    exact ⟨rfl, rfl⟩
  ·obtain rfl : m = 128 := by omega
   have E := zaa (YES.out ⟨L128.out, fun k hk => J.out k hk (by have := L128.out; omega)⟩)
   obtain rfl := E.out
   go_wp2
   go_ret
   exact ⟨rfl, rfl⟩

end Go.Proofs.YtipklbnfobckaaaGreatDoor
