/- Several texts laid together: PiQ, PaB. -/
import Derived.Test.YtpakbbdlhlkogaaGreatDoorZAK
import Derived.Test.YtpakbbdlhlkogaaGreatDoorZAJ
namespace Go.Proofs.YtpakbbdlhlkogaaGreatDoor
open Go.RowKit
def fpV (b : Bool) (r : Int) : Int := if b = true then zsm r else 0
def fpC (b : Bool) (r : Int) : Int := if b = true then zrx r else 1
set_option maxRecDepth 100000 in
set_option maxHeartbeats 4000000 in
theorem zgi (v : Value) (ws : List Ino) (ps : List Den) (t : Int) (n : Nat) (w : World) (h : RdIm w v ws ps) (hl : ws.length ≤ 4096) (hr : ∀ k (h : k < ws.length), ∀ z ∈ ws[k].map, 0 ≤ z ∧ z ≤ 1048576) (hn : n ≤ 1000) :
  Calls Tryz.prog 134 #[v, .int .i64 t, .int .i64 (n : Int)] w fun e w' => e = .returned (.int .i64 (zbb (fun i => !zhk (zbu (zap ws) t) (i : Int)) n)) ∧ Below w.heap.size w w' := by
 have HRD := zaa h
 have LU := zaa (fun w1 h => zoj v ws ps t w1 h hl hr)
 have UL : (zbu (zap ws) t).length ≤ 1048576 := by have := zkt (zap ws) t; have := zid ws; omega
 obtain ⟨vW, vP, rfl, h1, h2⟩ := h
 obtain ⟨aW, cW, rfl, _, hcW⟩ := h1.shape
 obtain ⟨aP, cP, rfl, _, _⟩ := h2.shape
 clear h1 h2 hcW hr
 have CA : Hid (∀ w', Below (w.alloc (.cells #[.slice aW ws.length cW, .slice aP ps.length cP] 42)).heap.size (w.alloc (.cells #[.slice aW ws.length cW, .slice aP ps.length cP] 42)) w' → w'.cell? ⟨w.heap.size, 0, none⟩ = some (.slice aW ws.length cW) ∧ w'.cell? ⟨w.heap.size, 1, none⟩ = some (.slice aP ps.length cP)) := fun w' hb => by
  have : w'.heap[w.heap.size]? = some (.cells #[.slice aW ws.length cW, .slice aP ps.length cP] 42 (0, 0)) := (hb.block _ (by simp)).trans (zah rfl)
  exact ⟨(zac this).1, (zac this).2.1⟩
 have BW : Hid (Below w.heap.size w (w.alloc (.cells #[.slice aW ws.length cW, .slice aP ps.length cP] 42))) := (Below.refl _ _).alloc (Nat.le_refl _) _
 obtain ⟨x0, x1⟩ := CA.out _ (Below.refl _ _)
 generalize zbu (zap ws) t = zs at *
 go_enter Tryz.func134, Tryz.ntmps134
 go_wp2_with fail
 refine (LU.out _ (HRD.out.below BW.out)).mono ?_
 rintro e w1 ⟨v1, rfl, hr1, hb1⟩
 obtain ⟨-, aL, cL, hvL, -⟩ := hr1.rd
 subst hvL
 have R1 : Hid (RdI w1 (.slice aL zs.length cL) zs) := hr1.rd
 have B1 := zaa (zab BW.out hb1 BW.out.size)
 clear hr1 hb1 x0 x1 CA
 go_wp2
 go_loopw [8] (fun i wr => ∃ k : Nat, k ≤ n ∧ i = .int .i64 k ∧ wr = w1 ∧ Hid (∀ j, j < k → (!zhk zs (j : Int)) = false)) (fun i _ => n - (intOf i).toNat)
 case atStart => exact ⟨0, by omega, rfl, rfl, fun j a => absurd a (by omega)⟩
 case round =>
  obtain ⟨k, hk, rfl, rfl, H⟩ := hrel
  have k0 : (0 : Int) ≤ (k : Int) := by omega
  by_cases hlt : k < n
  ·have k1 : (k : Int) < (n : Int) := by omega
   have LH := zaa (zlg (.slice aL zs.length cL) zs (k : Int) _ R1.out UL)
   cases q : zhk zs (k : Int) with
   | true =>
    have H' : Hid (∀ j, j < k + 1 → (!zhk zs (j : Int)) = false) := fun j a => by
     by_cases e : j = k
     ·subst e; rw [q]; rfl
     ·exact H.out j (by omega)
    rw [q] at LH
    clear q H
    go_wp2_with (go_at_call 122; refine LH.out.mono ?_; rintro e w' ⟨rfl, rfl⟩)
    go_roundw
    case rel => exact ⟨k + 1, by omega, by go_num, trivial, H'⟩
    case measure => simp [intOf]; omega
   | false =>
    have E := zaa (zgu (p := fun i => !zhk zs (i : Int)) hlt H.out (by rw [q]; rfl))
    rw [q] at LH
    clear q H
    go_wp2_with (go_at_call 122; refine LH.out.mono ?_; rintro e w' ⟨rfl, rfl⟩)
    go_ret
    exact ⟨zcf E.out.symm, B1.out⟩
  ·have E := zaa (zee (p := fun i => !zhk zs (i : Int)) (n := n) (fun j hj => H.out j (by omega)))
   clear H
   go_wp2
   go_ret
   exact ⟨zcf E.out.symm, B1.out⟩
set_option maxRecDepth 100000 in
set_option maxHeartbeats 4000000 in
theorem zme (v : Value) (ws : List Ino) (ps : List Den) (w : World) (h : RdIm w v ws ps) (hl : ws.length ≤ 4096) :
  Calls Tryz.prog 94 #[v] w fun e w' => e = .returned (.int .i64 (zbb (fun i => decide (1 ≤ i) && zai ws (i : Int) == 0) ws.length)) ∧ Below w.heap.size w w' := by
 obtain ⟨vW, vP, rfl, h1, h2⟩ := h
 obtain ⟨aW, cW, rfl, _, hcW⟩ := h1.shape
 obtain ⟨aP, cP, rfl, _, _⟩ := h2.shape
 have HW := zaa hcW
 clear h1 h2 hcW
 have CA : Hid (∀ w', Below (w.alloc (.cells #[.slice aW ws.length cW, .slice aP ps.length cP] 42)).heap.size (w.alloc (.cells #[.slice aW ws.length cW, .slice aP ps.length cP] 42)) w' → w'.cell? ⟨w.heap.size, 0, none⟩ = some (.slice aW ws.length cW) ∧ w'.cell? ⟨w.heap.size, 1, none⟩ = some (.slice aP ps.length cP)) := fun w' hb => by
  have : w'.heap[w.heap.size]? = some (.cells #[.slice aW ws.length cW, .slice aP ps.length cP] 42 (0, 0)) := (hb.block _ (by simp)).trans (zah rfl)
  exact ⟨(zac this).1, (zac this).2.1⟩
 have BW : Hid (Below w.heap.size w (w.alloc (.cells #[.slice aW ws.length cW, .slice aP ps.length cP] 42))) := (Below.refl _ _).alloc (Nat.le_refl _) _
 obtain ⟨x0, x1⟩ := CA.out _ (Below.refl _ _)
 clear x0 x1
 obtain ⟨W, hW⟩ : ∃ W, W = w.alloc (.cells #[.slice aW ws.length cW, .slice aP ps.length cP] 42) := ⟨_, rfl⟩
 rw [← hW] at CA BW
 obtain ⟨y0, y1⟩ := CA.out _ (Below.refl _ _)
 go_enter Tryz.func94, Tryz.ntmps94
 go_wp2
 rw [← hW]
 clear hW
 go_loopw [3] (fun i wr => ∃ k : Nat, (1 ≤ k ∧ (k ≤ ws.length ∨ k = 1)) ∧ i = .int .i64 k ∧ wr = W ∧ Hid (∀ j, j < k → (decide (1 ≤ j) && zai ws (j : Int) == 0) = false)) (fun i _ => ws.length + 1 - (intOf i).toNat)
 case atStart => exact ⟨1, by omega, rfl, rfl, fun j a => by rw [decide_eq_false (by omega)]; rfl⟩
 case round =>
  obtain ⟨k, hk, rfl, rfl, H⟩ := hrel
  have k0 : (0 : Int) ≤ (k : Int) := by omega
  by_cases hlt : k < ws.length
  ·obtain ⟨b, o, rfl, hbl, hcell⟩ := HW.out (by omega)
   have d0 := (BW.out.cell (p := ⟨b, o + k * 11, none⟩) hbl).trans (hcell k hlt).1
   rw [← zbo hlt] at d0
   have k1 : (k : Int) < (ws.length : Int) := by omega
   have P := zaa (show (decide (1 ≤ k) && zai ws (k : Int) == 0) = (zai ws (k : Int) == 0) by rw [decide_eq_true hk.1]; rfl)
   clear hcell
   cases q : (zai ws (k : Int) == 0) with
   | true =>
    have E := zaa (zgu (p := fun i => decide (1 ≤ i) && zai ws (i : Int) == 0) hlt H.out (by show (decide (1 ≤ k) && zai ws (k : Int) == 0) = true; rw [P.out, q]))
    clear H P
    generalize zai ws (k : Int) = z at d0 q
    go_wp2
    go_ret
    exact ⟨zcf E.out.symm, BW.out⟩
   | false =>
    have H' : Hid (∀ j, j < k + 1 → (decide (1 ≤ j) && zai ws (j : Int) == 0) = false) := fun j a => by
     by_cases e : j = k
     ·subst e; rw [P.out, q]
     ·exact H.out j (by omega)
    clear H P
    generalize zai ws (k : Int) = z at d0 q
    go_wp2
    go_roundw
    case rel => exact ⟨k + 1, by omega, by go_num, trivial, H'⟩
    case measure => simp [intOf]; omega
  ·have E := zaa (zee (p := fun i => decide (1 ≤ i) && zai ws (i : Int) == 0) (n := ws.length) (fun j hj => H.out j (by omega)))
   have k2 : ¬ (k : Int) < (ws.length : Int) := by omega
   clear H
   go_wp2
   go_ret
   exact ⟨zcf E.out.symm, BW.out⟩
def zbd : Ino := ⟨0, 0, 0, 0, 0, 0, 0, 0, 0, 0, 0⟩
set_option maxRecDepth 100000 in
set_option maxHeartbeats 4000000 in
theorem zpy (v : Value) (ws : List Ino) (w : World) (h : RdN w v ws) (hn : ws.length ≤ 1048576) :
  Calls Tryz.prog 93 #[v, zbd.v] w fun e w' => e = .returned (.int .i64 (zbb (fun i => zfo zbd.ns (ws.getD i zbd).ns) ws.length)) ∧ Below w.heap.size w w' := by
 obtain ⟨aZ, cZ, rfl, _, hcZ⟩ := h.shape
 have HZ := zaa hcZ
 have BW := zaa ((Below.refl w.heap.size w).alloc (Nat.le_refl _) (.cells zbd.cs.toArray 56))
 have CA : Hid (∀ w', Below (w.alloc (.cells zbd.cs.toArray 56)).heap.size (w.alloc (.cells zbd.cs.toArray 56)) w' → ∀ j, w'.cell? ⟨w.heap.size, j, none⟩ = zbd.cs[j]?) := fun w' hb j => by
  have : w'.heap[w.heap.size]? = some (.cells zbd.cs.toArray 56 (0, 0)) := (hb.block _ (by simp)).trans (zah rfl)
  exact (zao (xs := zbd.cs) this j).1
 have hz : w.heap.size ≤ (w.alloc (.cells zbd.cs.toArray 56)).heap.size := BW.out.size
 obtain ⟨W, hW⟩ : ∃ W, W = w.alloc (.cells zbd.cs.toArray 56) := ⟨_, rfl⟩
 rw [← hW] at BW CA hz
 rw [show zbd.v = .agg zbd.cs.toArray from rfl]
 clear h hcZ
 go_enter Tryz.func93, Tryz.ntmps93
 go_wp2
 rw [← hW]
 clear hW
 go_loopw [5, 8] (fun _ i wr => ∃ k : Nat, k ≤ ws.length ∧ i = .int .i64 k ∧ Hid (Below W.heap.size W wr ∧ ∀ j, j < k → zfo zbd.ns (ws.getD j zbd).ns = false)) (fun _ i _ => ws.length - (intOf i).toNat)
 case atStart => exact ⟨0, by omega, rfl, Below.refl _ _, fun j a => absurd a (by omega)⟩
 case round =>
  obtain ⟨k, hk, rfl, H⟩ := hrel
  have B0 := zaa (zab BW.out H.out.1 hz)
  by_cases hlt : k < ws.length
  ·obtain ⟨b, o, rfl, hbl, hcell⟩ := HZ.out (by omega)
   have GD := zaa (show ws.getD k zbd = ws[k] by rw [List.getD_eq_getElem?_getD, List.getElem?_eq_getElem hlt]; rfl)
   obtain ⟨p0, p1, p2, p3, p4, p5, p6, p7, p8, p9, p10⟩ := Ino.all (CA.out wr H.out.1)
   obtain ⟨a0, a1, a2, a3, a4, a5, a6, a7, a8, a9, a10⟩ := hcell k hlt
   have d0 := (B0.out.cell (p := ⟨b, o + k * 11, none⟩) hbl).trans a0
   have d1 := (B0.out.cell (p := ⟨b, o + k * 11 + 1, none⟩) hbl).trans a1
   have d2 := (B0.out.cell (p := ⟨b, o + k * 11 + 2, none⟩) hbl).trans a2
   have d3 := (B0.out.cell (p := ⟨b, o + k * 11 + 3, none⟩) hbl).trans a3
   have d4 := (B0.out.cell (p := ⟨b, o + k * 11 + 4, none⟩) hbl).trans a4
   have d5 := (B0.out.cell (p := ⟨b, o + k * 11 + 5, none⟩) hbl).trans a5
   have d6 := (B0.out.cell (p := ⟨b, o + k * 11 + 6, none⟩) hbl).trans a6
   have d7 := (B0.out.cell (p := ⟨b, o + k * 11 + 7, none⟩) hbl).trans a7
   have d8 := (B0.out.cell (p := ⟨b, o + k * 11 + 8, none⟩) hbl).trans a8
   have d9 := (B0.out.cell (p := ⟨b, o + k * 11 + 9, none⟩) hbl).trans a9
   have d10 := (B0.out.cell (p := ⟨b, o + k * 11 + 10, none⟩) hbl).trans a10
   have k0 : (0 : Int) ≤ (k : Int) := by omega
   have k1 : (k : Int) < (ws.length : Int) := by omega
   have H1 := zaa H.out.1
   have HN : Hid (zfo zbd.ns ws[k].ns = false → ∀ j, j < k + 1 → zfo zbd.ns (ws.getD j zbd).ns = false) := fun q j a => by
    by_cases e : j = k
    ·subst e; rw [GD.out]; exact q
    ·exact H.out.2 j (by omega)
   have HY : Hid (zfo zbd.ns ws[k].ns = true → zbb (fun i => zfo zbd.ns (ws.getD i zbd).ns) ws.length = (k : Int)) := fun q => zgu hlt (fun j hj => H.out.2 j hj) (by show zfo zbd.ns (ws.getD k zbd).ns = true; rw [GD.out]; exact q)
   clear a0 a1 a2 a3 a4 a5 a6 a7 a8 a9 a10 hcell H GD
   generalize ws[k] = x at *
   unfold zbd at p0 p1 p2 p3 p4 p5 p6 p7 p8 p9 p10
   simp only at p0 p1 p2 p3 p4 p5 p6 p7 p8 p9 p10
   cases q : zfo zbd.ns x.ns with
   | true =>
    have q' : zfo [0, 0, 0, 0, 0, 0, 0, 0, 0, 0, 0] [x.kind, x.size, x.links, x.m0, x.m1, x.m2, x.m3, x.m4, x.m5, x.m6, x.m7] = true := q
    have E := zaa (HY.out q)
    clear q HN HY
    go_wp2
    go_quiet (fail)
    go_wp2
    go_ret
    exact ⟨zcf E.out.symm, zcx B0.out _⟩
   | false =>
    have q' : zfo [0, 0, 0, 0, 0, 0, 0, 0, 0, 0, 0] [x.kind, x.size, x.links, x.m0, x.m1, x.m2, x.m3, x.m4, x.m5, x.m6, x.m7] = false := q
    have E := zaa (HN.out q)
    clear q HN HY
    go_wp2
    go_quiet (fail)
    go_wp2
    go_roundw
    case rel => exact ⟨k + 1, by omega, by go_num, zcx H1.out _, E.out⟩
    case measure => simp [intOf]; omega
  ·have E := zaa (zee (p := fun i => zfo zbd.ns (ws.getD i zbd).ns) (n := ws.length) (fun j hj => H.out.2 j (by omega)))
   clear H
   go_wp2
   go_ret
   exact ⟨zcf E.out.symm, B0.out⟩
theorem yadv {ws : List Ino} {ps : List Den} (h : zcb ws ps = true) : zbb (fun i => zfo zbd.ns (ws.getD i zbd).ns) ws.length = zbb (fun i => decide (1 ≤ i) && zai ws (i : Int) == 0) ws.length := by
 obtain ⟨l1, _, k2, o⟩ := yagw h
 have o := of_decide_eq_true o
 apply zxp
 intro j hj
 have GD : ws.getD j zbd = ws[j] := by rw [List.getD_eq_getElem?_getD, List.getElem?_eq_getElem hj]; rfl
 show zfo zbd.ns (ws.getD j zbd).ns = (decide (1 ≤ j) && zai ws (j : Int) == 0)
 rw [GD, zbo hj]
 have ib := o j hj
 by_cases q : ws[j].kind = 0
 ·have hz : ws[j].ns = zbd.ns := by
   unfold zdl at ib
   simp only [Bool.and_eq_true, decide_eq_true_eq] at ib
   have kb := ib.2.2.2.2
   unfold zet at kb
   rw [if_pos q] at kb
   obtain ⟨f1, f2, f3⟩ := of_decide_eq_true kb
   simp only [Ino.map, List.cons.injEq, and_true] at f3
   simp [Ino.ns, zbd, q, f1, f2, f3]
  rw [zsa hz.symm, q]
  have : 1 ≤ j := by
   rcases Nat.eq_zero_or_pos j with e | e
   ·exfalso
    subst e
    have := zbo hj
    rw [show ((0 : Nat) : Int) = 0 from rfl, k2] at this
    omega
   ·exact e
  rw [decide_eq_true this]; rfl
 ·rw [show (ws[j].kind == 0) = false by rw [beq_eq_false_iff_ne]; exact q, Bool.and_false]
  exact zyo (fun e => q (by have := congrArg List.head? e; simp [Ino.ns, zbd] at this; exact this.symm))
set_option maxRecDepth 100000 in
set_option maxHeartbeats 4000000 in
theorem zlh (v : Value) (ws : List Ino) (ps : List Den) (w : World) (h : RdIm w v ws ps) (hw : ws.length ≤ 1048576) (hp : ps.length ≤ 1048576) (hT : TS w) (hE : ED w) (hF : FD w) (hr : ∀ k (h : k < ws.length), ws[k].R) (hs : ∀ k (h : k < ps.length), ps[k].name.size ≤ maxLen) :
  Calls Tryz.prog 45 #[v] w fun e w' => e = .returned (.tuple #[.int .i64 (fpV (zcb ws ps) (zbb (fun i => decide (1 ≤ i) && zai ws (i : Int) == 0) ws.length)), .int .i64 (fpC (zcb ws ps) (zbb (fun i => decide (1 ≤ i) && zai ws (i : Int) == 0) ws.length))]) ∧ Below w.heap.size w w' := by
 have LI := zaa (fun w1 (hb : Below w.heap.size w w1) => zdz v ws ps w1 (h.below hb) hw hp (hT.below hb) (hE.below hb) (hF.below hb) hr hs)
 have FS := zaa (@yadv ws ps)
 obtain ⟨vW, vP, rfl, h1, h2⟩ := h
 have RW := zaa h1
 obtain ⟨aW, cW, rfl, _, _⟩ := h1.shape
 obtain ⟨aP, cP, rfl, _, _⟩ := h2.shape
 have LX := zaa (fun w1 (hb : Below w.heap.size w w1) => zpy (.slice aW ws.length cW) ws w1 (Rd.below RW.out hb) hw)
 have fb := zdj (fun i => decide (1 ≤ i) && zai ws (i : Int) == 0) ws.length
 clear h1 h2 hr hs hT hE hF
 have CA : Hid (∀ w', Below (w.alloc (.cells #[.slice aW ws.length cW, .slice aP ps.length cP] 42)).heap.size (w.alloc (.cells #[.slice aW ws.length cW, .slice aP ps.length cP] 42)) w' → w'.cell? ⟨w.heap.size, 0, none⟩ = some (.slice aW ws.length cW) ∧ w'.cell? ⟨w.heap.size, 1, none⟩ = some (.slice aP ps.length cP)) := fun w' hb => by
  have : w'.heap[w.heap.size]? = some (.cells #[.slice aW ws.length cW, .slice aP ps.length cP] 42 (0, 0)) := (hb.block _ (by simp)).trans (zah rfl)
  exact ⟨(zac this).1, (zac this).2.1⟩
 have BW : Hid (Below w.heap.size w (w.alloc (.cells #[.slice aW ws.length cW, .slice aP ps.length cP] 42))) := (Below.refl _ _).alloc (Nat.le_refl _) _
 obtain ⟨x0, x1⟩ := CA.out _ (Below.refl _ _)
 cases c1 : zcb ws ps with
 | false =>
  rw [c1] at LI
  generalize zbb (fun i => decide (1 ≤ i) && zai ws (i : Int) == 0) ws.length = r
  rw [show fpV false r = 0 from rfl, show fpC false r = 1 from rfl]
  clear c1
  go_enter Tryz.func45, Tryz.ntmps45
  go_wp2_with fail
  refine (LI.out _ BW.out).mono ?_
  rintro e w1 ⟨rfl, hb1⟩
  have B1 := zaa (zab BW.out hb1 BW.out.size)
  clear hb1 x0 x1
  go_wp2
  go_ret2
  exact ⟨rfl, B1.out⟩
 | true =>
  rw [c1] at LI
  rw [FS.out c1] at LX
  clear c1 FS
  generalize zbb (fun i => decide (1 ≤ i) && zai ws (i : Int) == 0) ws.length = r at *
  by_cases q : r < 0
  ·rw [show fpV true r = 0 from if_pos q, show fpC true r = 7 from if_pos q]
   go_enter Tryz.func45, Tryz.ntmps45
   go_wp2_with fail
   refine (LI.out _ BW.out).mono ?_
   rintro e w1 ⟨rfl, hb1⟩
   have B1 := zaa (zab BW.out hb1 BW.out.size)
   clear x0 x1
   obtain ⟨x0, x1⟩ := CA.out _ hb1
   clear hb1
   go_wp2_with fail
   refine (LX.out _ B1.out).mono ?_
   rintro e w2 ⟨rfl, hb2⟩
   have B2 := zaa (zab B1.out hb2 B1.out.size)
   clear hb2 x0 x1
   go_wp2
   go_ret2
   exact ⟨rfl, B2.out⟩
  ·rw [show fpV true r = r from if_neg q, show fpC true r = 0 from if_neg q]
   go_enter Tryz.func45, Tryz.ntmps45
   go_wp2_with fail
   refine (LI.out _ BW.out).mono ?_
   rintro e w1 ⟨rfl, hb1⟩
   have B1 := zaa (zab BW.out hb1 BW.out.size)
   clear x0 x1
   obtain ⟨x0, x1⟩ := CA.out _ hb1
   clear hb1
   go_wp2_with fail
   refine (LX.out _ B1.out).mono ?_
   rintro e w2 ⟨rfl, hb2⟩
   have B2 := zaa (zab B1.out hb2 B1.out.size)
   clear hb2 x0 x1
   go_wp2
   go_ret2
   exact ⟨rfl, B2.out⟩
set_option maxRecDepth 100000 in
set_option maxHeartbeats 2000000 in
theorem zqa (v : Value) (ws : List Ino) (ps : List Den) (a b : Int) (w : World) (h : RdIm w v ws ps) (hn : ps.length ≤ 1048576) :
  Calls Tryz.prog 177 #[v, .int .i64 a, .int .i64 b] w fun e w' => e = .returned (.bool (zqb ps 17 a b)) ∧ Below w.heap.size w w' := by
 have HR := zaa h
 obtain ⟨vW, vP, rfl, h1, h2⟩ := h
 obtain ⟨aW, cW, rfl, _⟩ := h1.shape
 obtain ⟨aP, cP, rfl, _, hcP⟩ := h2.shape
 clear h1 h2 hcP
 obtain ⟨W, hW⟩ : ∃ W, W = w.alloc (.cells #[.slice aW ws.length cW, .slice aP ps.length cP] 42) := ⟨_, rfl⟩
 have CA : Hid (∀ w', Below W.heap.size W w' → w'.cell? ⟨w.heap.size, 0, none⟩ = some (.slice aW ws.length cW) ∧ w'.cell? ⟨w.heap.size, 1, none⟩ = some (.slice aP ps.length cP)) := fun w' hb => by
  have : w'.heap[w.heap.size]? = some (.cells #[.slice aW ws.length cW, .slice aP ps.length cP] 42 (0, 0)) := (hb.block _ (by rw [hW]; simp)).trans (by rw [hW]; exact zah rfl)
  exact ⟨(zac this).1, (zac this).2.1⟩
 have BW : Hid (Below w.heap.size w W) := by rw [hW]; exact (Below.refl _ _).alloc (Nat.le_refl _) _
 have hz : w.heap.size ≤ W.heap.size := BW.out.size
 have LU := zaa (fun d w1 h => zvr (.agg #[.slice aW ws.length cW, .slice aP ps.length cP]) ws ps d w1 h hn)
 go_enter Tryz.func177, Tryz.ntmps177
 go_wp2
 rw [← hW]
 clear hW
 go_loopw [1, 7] (fun d i wr => ∃ (k : Nat) (z : Int), k ≤ 17 ∧ i = .int .i64 k ∧ d = .int .i64 z ∧ Hid (Below W.heap.size W wr ∧ zqb ps 17 a b = zqb ps (17 - k) z b)) (fun _ i _ => 17 - (intOf i).toNat)
 case atStart => exact ⟨0, a, by omega, rfl, rfl, Below.refl _ _, rfl⟩
 case round =>
  obtain ⟨k, z, hk, rfl, rfl, J⟩ := hrel
  obtain ⟨x0, x1⟩ := CA.out wr J.out.1
  have B := zaa (zab BW.out J.out.1 hz)
  by_cases hlt : k < 17
  ·have ES := zaa (show zqb ps (17 - k) z b = if z < 0 then false else if z = b then true else zqb ps (17 - (k + 1)) (upD ps z) b by
    rw [show 17 - k = (17 - (k + 1)) + 1 by omega]; rfl)
   have k16 : (k : Int) ≤ 16 := by omega
   by_cases q : z < 0
   ·have E := zaa (show zqb ps 17 a b = false by rw [J.out.2, ES.out, if_pos q])
    have q1 : ¬ z ≥ 0 := by omega
    clear ES J
    go_wp2
    go_ret
    exact ⟨zag E.out.symm, B.out⟩
   ·have q1 : z ≥ 0 := by omega
    by_cases r : z = b
    ·subst r
     have E := zaa (show zqb ps 17 a z = true by rw [J.out.2, ES.out, if_neg q, if_pos rfl])
     clear ES J
     go_wp2
     go_ret
     exact ⟨zag E.out.symm, B.out⟩
    ·have r1 : (z == b) = false := beq_eq_false_iff_ne.2 r
     have R := zaa (HR.out.below B.out)
     have E := zaa (show zqb ps 17 a b = zqb ps (17 - (k + 1)) (upD ps z) b by rw [J.out.2, ES.out, if_neg q, if_neg r])
     have J1 := zaa J.out.1
     clear ES J q r
     go_wp2_with fail
     refine (LU.out _ _ R.out).mono ?_
     rintro e w1 ⟨rfl, hb1⟩
     have B1 := zaa (zab J1.out hb1 J1.out.size)
     clear hb1
     go_wp2
     go_roundw
     case rel => exact ⟨k + 1, _, by omega, by go_num, rfl, B1.out, E.out⟩
     case measure => simp [intOf]; omega
  ·obtain rfl : k = 17 := by omega
   have E := zaa (show zqb ps 17 a b = false by rw [J.out.2]; rfl)
   clear J
   go_wp2
   go_ret
   exact ⟨zag E.out.symm, B.out⟩
end Go.Proofs.YtpakbbdlhlkogaaGreatDoor
