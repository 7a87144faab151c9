/- Several texts laid together: PiQ, PaB. -/
import Derived.Test.YtbbmljakfbhnpaaGreatDoorPiP
import Derived.Test.YtbbmljakfbhnpaaGreatDoorZAT
namespace Go.Proofs.YtbbmljakfbhnpaaGreatDoor
open Go.RowKit

def fpV (b : Bool) (r : Int) : Int := if b = true then tellV r else 0
def fpC (b : Bool) (r : Int) : Int := if b = true then tellC r else 1

set_option maxRecDepth 100000 in
set_option maxHeartbeats 4000000 in
theorem zgb (v : Value) (ws : List Ino) (ps : List Den) (t : Int) (n : Nat) (w : World) (h : RdIm w v ws ps) (hl : ws.length ≤ 4096) (hr : ∀ k (h : k < ws.length), ∀ z ∈ ws[k].map, 0 ≤ z ∧ z ≤ 1048576) (hn : n ≤ 1000) :
  Calls Tryz.prog 185 #[v, .int .i64 t, .int .i64 (n : Int)] w fun e w' => e = .returned (.int .i64 (zaq (fun i => !zdb (zao (zai ws) t) (i : Int)) n)) ∧ Below w.heap.size w w' := by
 have HRD := zaa h
 have LU := zaa (fun w1 h => zil v ws ps t w1 h hl hr)
 have UL : (zao (zai ws) t).length ≤ 1048576 := by have := zev (zai ws) t; have := zdx ws; omega
 obtain ⟨vW, vP, rfl, h1, h2⟩ := h
 obtain ⟨aW, cW, rfl, _, hcW⟩ := h1.shape
 obtain ⟨aP, cP, rfl, _, _⟩ := h2.shape
 clear h1 h2 hcW hr
 have CA : Hid (∀ w', Below (w.alloc (.cells #[.slice aW ws.length cW, .slice aP ps.length cP] 26)).heap.size (w.alloc (.cells #[.slice aW ws.length cW, .slice aP ps.length cP] 26)) w' → w'.cell? ⟨w.heap.size, 0, none⟩ = some (.slice aW ws.length cW) ∧ w'.cell? ⟨w.heap.size, 1, none⟩ = some (.slice aP ps.length cP)) := fun w' hb => by
  have : w'.heap[w.heap.size]? = some (.cells #[.slice aW ws.length cW, .slice aP ps.length cP] 26 (0, 0)) := (hb.block _ (by simp)).trans (zah rfl)
  exact ⟨(zac this).1, (zac this).2.1⟩
 have BW : Hid (Below w.heap.size w (w.alloc (.cells #[.slice aW ws.length cW, .slice aP ps.length cP] 26))) := (Below.refl _ _).alloc (Nat.le_refl _) _
 obtain ⟨x0, x1⟩ := CA.out _ (Below.refl _ _)
 generalize zao (zai ws) t = zs at *
 go_enter Tryz.func185, Tryz.ntmps185
 go_wp2_with fail
 refine (LU.out _ (HRD.out.below BW.out)).mono ?_
 rintro e w1 ⟨v1, rfl, hr1, hb1⟩
 obtain ⟨-, aL, cL, hvL, -⟩ := hr1.rd
 subst hvL
 have R1 : Hid (RdI w1 (.slice aL zs.length cL) zs) := hr1.rd
 have B1 := zaa (zab BW.out hb1 BW.out.size)
 clear hr1 hb1 x0 x1 CA
 go_wp2
 go_loopw [8] (fun i wr => ∃ k : Nat, k ≤ n ∧ i = .int .i64 k ∧ wr = w1 ∧ Hid (∀ j, j < k → (!zdb zs (j : Int)) = false)) (fun i _ => n - (intOf i).toNat)
 case atStart => exact ⟨0, by omega, rfl, rfl, fun j a => absurd a (by omega)⟩
 case round =>
  obtain ⟨k, hk, rfl, rfl, H⟩ := hrel
  have k0 : (0 : Int) ≤ (k : Int) := by omega
  by_cases hlt : k < n
  ·have k1 : (k : Int) < (n : Int) := by omega
   have LH := zaa (zjw (.slice aL zs.length cL) zs (k : Int) _ R1.out UL)
   cases q : zdb zs (k : Int) with
   | true =>
    have H' : Hid (∀ j, j < k + 1 → (!zdb zs (j : Int)) = false) := fun j a => by
     by_cases e : j = k
     ·subst e; rw [q]; rfl
     ·exact H.out j (by omega)
    rw [q] at LH
    clear q H
    go_wp2_with (go_at_call 127; refine LH.out.mono ?_; rintro e w' ⟨rfl, rfl⟩)
    go_roundw
    case rel => exact ⟨k + 1, by omega, by go_num, trivial, H'⟩
    case measure => simp [intOf]; omega
   | false =>
    have E := zaa (zgi (p := fun i => !zdb zs (i : Int)) hlt H.out (by rw [q]; rfl))
    rw [q] at LH
    clear q H
    go_wp2_with (go_at_call 127; refine LH.out.mono ?_; rintro e w' ⟨rfl, rfl⟩)
    go_ret
    exact ⟨zcp E.out.symm, B1.out⟩
  ·have E := zaa (zec (p := fun i => !zdb zs (i : Int)) (n := n) (fun j hj => H.out j (by omega)))
   clear H
   go_wp2
   go_ret
   exact ⟨zcp E.out.symm, B1.out⟩

set_option maxRecDepth 100000 in
set_option maxHeartbeats 4000000 in
theorem zhb (v : Value) (ws : List Ino) (ps : List Den) (t : Nat) (n : Nat) (w : World) (h : RdIm w v ws ps) (hw : ws.length ≤ 1048576) (hp : ps.length ≤ 1048576) (hT : TS w) (hE : ED w) (hF : FD w) (hr : ∀ k (h : k < ws.length), ws[k].R) (hs : ∀ k (h : k < ps.length), ps[k].name.size ≤ maxLen) (ht : (t = 1 ∧ n = 24) ∨ (t = 2 ∧ n = 32)) :
  Calls Tryz.prog 59 #[v, .int .i64 (t : Int)] w fun e w' => e = .returned (.tuple #[.int .i64 (fpV (zcm ws ps) (zaq (fun i => !zdb (zao (zai ws) (t : Int)) (i : Int)) n)), .int .i64 (fpC (zcm ws ps) (zaq (fun i => !zdb (zao (zai ws) (t : Int)) (i : Int)) n))]) ∧ Below w.heap.size w w' := by
 have LU := zaa (fun w1 (hb : Below w.heap.size w w1) => zfo v ws ps (t : Int) w1 (h.below hb) hw hp (hT.below hb) (hE.below hb) (hF.below hb) hr hs)
 have T := zaa hT
 obtain ⟨vW, vP, rfl, h1, h2⟩ := h
 obtain ⟨aW, cW, rfl, _, hcW⟩ := h1.shape
 obtain ⟨aP, cP, rfl, _, _⟩ := h2.shape
 clear h1 h2 hr hs hT hE hF hcW
 have CA : Hid (∀ w', Below (w.alloc (.cells #[.slice aW ws.length cW, .slice aP ps.length cP] 26)).heap.size (w.alloc (.cells #[.slice aW ws.length cW, .slice aP ps.length cP] 26)) w' → w'.cell? ⟨w.heap.size, 0, none⟩ = some (.slice aW ws.length cW) ∧ w'.cell? ⟨w.heap.size, 1, none⟩ = some (.slice aP ps.length cP)) := fun w' hb => by
  have : w'.heap[w.heap.size]? = some (.cells #[.slice aW ws.length cW, .slice aP ps.length cP] 26 (0, 0)) := (hb.block _ (by simp)).trans (zah rfl)
  exact ⟨(zac this).1, (zac this).2.1⟩
 have BW : Hid (Below w.heap.size w (w.alloc (.cells #[.slice aW ws.length cW, .slice aP ps.length cP] 26))) := (Below.refl _ _).alloc (Nat.le_refl _) _
 obtain ⟨x0, x1⟩ := CA.out _ (Below.refl _ _)
 have c2 : (t : Int) = 1 ∨ (t : Int) = 2 := by rcases ht with ⟨e, _⟩ | ⟨e, _⟩ <;> rw [e] <;> decide
 cases c1 : zcm ws ps with
 | false =>
  rw [c1] at LU
  have e1 := show ubC false (t : Int) = 1 from rfl
  have e2 : ubL false (zai ws) (t : Int) = [] := if_neg (fun h => by cases h.1)
  rw [e1, e2] at LU
  generalize zaq (fun i => !zdb (zao (zai ws) (t : Int)) (i : Int)) n = r
  rw [show fpV false r = 0 from rfl, show fpC false r = 1 from rfl]
  clear c1 e1 e2
  go_enter Tryz.func59, Tryz.ntmps59
  go_wp2_with fail
  refine (LU.out _ BW.out).mono ?_
  rintro e w1 ⟨v1, rfl, hr1, hb1⟩
  obtain ⟨-, aL, cL, hvL, -⟩ := hr1.rd
  subst hvL
  have B1 := zaa (zab BW.out hb1 BW.out.size)
  clear hr1 hb1 x0 x1
  go_wp2
  go_ret2
  exact ⟨rfl, B1.out⟩
 | true =>
 rw [c1] at LU
 have e1 : ubC true (t : Int) = 0 := by unfold ubC; rw [if_pos rfl, if_pos c2]
 have e2 : ubL true (zai ws) (t : Int) = zao (zai ws) (t : Int) := if_pos ⟨rfl, c2⟩
 have UL : (zao (zai ws) (t : Int)).length ≤ 1048576 := by have := zev (zai ws) (t : Int); have := zdx ws; have := (zde c1).1; omega
 rw [e1, e2] at LU
 generalize zao (zai ws) (t : Int) = zs at *
 have TC : Hid (∀ w', Below w.heap.size w w' → w'.cell? ⟨2, t, none⟩ = some (.int .i64 (n : Int))) := fun w' hb => by
  obtain ⟨a0, a1, a2⟩ := TS.cells (T.out.below hb)
  rcases ht with ⟨rfl, rfl⟩ | ⟨rfl, rfl⟩
  ·exact a1
  ·exact a2
 have t0 : (0 : Int) ≤ (t : Int) := by rcases ht with ⟨e, _⟩ | ⟨e, _⟩ <;> rw [e] <;> decide
 have t3 : (t : Int) < 3 := by rcases ht with ⟨e, _⟩ | ⟨e, _⟩ <;> rw [e] <;> decide
 have n1 : n ≤ 32 := by rcases ht with ⟨_, e⟩ | ⟨_, e⟩ <;> rw [e] <;> decide
 clear c1 c2 e1 e2 ht T
 go_enter Tryz.func59, Tryz.ntmps59
 go_wp2_with fail
 refine (LU.out _ BW.out).mono ?_
 rintro e w1 ⟨v1, rfl, hr1, hb1⟩
 obtain ⟨-, aL, cL, hvL, -⟩ := hr1.rd
 subst hvL
 have R1 : Hid (RdI w1 (.slice aL zs.length cL) zs) := hr1.rd
 have B1 := zaa (zab BW.out hb1 BW.out.size)
 have tc := TC.out _ B1.out
 clear hr1 hb1 x0 x1 CA
 go_wp2
 go_loopw [8, 21] (fun _ i wr => ∃ k : Nat, k ≤ n ∧ i = .int .i64 k ∧ wr = w1 ∧ Hid (∀ j, j < k → (!zdb zs (j : Int)) = false)) (fun _ i _ => n - (intOf i).toNat)
 case atStart => exact ⟨0, by omega, rfl, rfl, fun j a => absurd a (by omega)⟩
 case round =>
  obtain ⟨k, hk, rfl, rfl, H⟩ := hrel
  have k0 : (0 : Int) ≤ (k : Int) := by omega
  by_cases hlt : k < n
  ·have k1 : (k : Int) < (n : Int) := by omega
   have LH := zaa (zfa (.slice aL zs.length cL) zs (k : Int) _ R1.out UL)
   cases q : zdb zs (k : Int) with
   | true =>
    have H' : Hid (∀ j, j < k + 1 → (!zdb zs (j : Int)) = false) := fun j a => by
     by_cases e : j = k
     ·subst e; rw [q]; rfl
     ·exact H.out j (by omega)
    rw [q] at LH
    clear q H
    go_wp2_with (go_at_call 84; refine LH.out.mono ?_; rintro e w' ⟨rfl, rfl⟩)
    go_roundw
    case rel => exact ⟨k + 1, by omega, by go_num, trivial, H'⟩
    case measure => simp [intOf]; omega
   | false =>
    have E := zaa (zgi (p := fun i => !zdb zs (i : Int)) hlt H.out (by rw [q]; rfl))
    have E1 := zaa (show fpV true (k : Int) = (k : Int) by unfold fpV tellV; rw [if_pos rfl, if_neg (by omega)])
    have E2 := zaa (show fpC true (k : Int) = 0 by unfold fpC tellC; rw [if_pos rfl, if_neg (by omega)])
    rw [q] at LH
    clear q H
    go_wp2_with (go_at_call 84; refine LH.out.mono ?_; rintro e w' ⟨rfl, rfl⟩)
    go_ret2
    exact ⟨zey (by rw [E.out, E1.out]) (by rw [E.out, E2.out]), B1.out⟩
  ·have E := zaa (zec (p := fun i => !zdb zs (i : Int)) (n := n) (fun j hj => H.out j (by omega)))
   clear H
   go_wp2
   go_ret2
   exact ⟨zey (by rw [E.out]; rfl) (by rw [E.out]; rfl), B1.out⟩

set_option maxRecDepth 100000 in
set_option maxHeartbeats 4000000 in
theorem zgu (v : Value) (ws : List Ino) (ps : List Den) (w : World) (h : RdIm w v ws ps) (hw : ws.length ≤ 1048576) (hp : ps.length ≤ 1048576) (hT : TS w) (hE : ED w) (hF : FD w) (hr : ∀ k (h : k < ws.length), ws[k].R) (hs : ∀ k (h : k < ps.length), ps[k].name.size ≤ maxLen) :
  Calls Tryz.prog 18 #[v] w fun e w' => e = .returned (.tuple #[.int .i64 (fpV (zcm ws ps) (zaq (fun i => !zdb (zao (zai ws) 1) (i : Int)) 24)), .int .i64 (fpC (zcm ws ps) (zaq (fun i => !zdb (zao (zai ws) 1) (i : Int)) 24))]) ∧ Below w.heap.size w w' := by
 have LF := zaa (fun w1 (hb : Below w.heap.size w w1) => zhb v ws ps 1 24 w1 (h.below hb) hw hp (hT.below hb) (hE.below hb) (hF.below hb) hr hs (by omega))
 rw [show ((1 : Nat) : Int) = 1 from rfl] at LF
 obtain ⟨vW, vP, rfl, h1, h2⟩ := h
 obtain ⟨aW, cW, rfl, _, hcW⟩ := h1.shape
 obtain ⟨aP, cP, rfl, _, _⟩ := h2.shape
 clear h1 h2 hr hs hcW hT hE hF
 have CA : Hid (∀ w', Below (w.alloc (.cells #[.slice aW ws.length cW, .slice aP ps.length cP] 26)).heap.size (w.alloc (.cells #[.slice aW ws.length cW, .slice aP ps.length cP] 26)) w' → w'.cell? ⟨w.heap.size, 0, none⟩ = some (.slice aW ws.length cW) ∧ w'.cell? ⟨w.heap.size, 1, none⟩ = some (.slice aP ps.length cP)) := fun w' hb => by
  have : w'.heap[w.heap.size]? = some (.cells #[.slice aW ws.length cW, .slice aP ps.length cP] 26 (0, 0)) := (hb.block _ (by simp)).trans (zah rfl)
  exact ⟨(zac this).1, (zac this).2.1⟩
 have BW : Hid (Below w.heap.size w (w.alloc (.cells #[.slice aW ws.length cW, .slice aP ps.length cP] 26))) := (Below.refl _ _).alloc (Nat.le_refl _) _
 obtain ⟨x0, x1⟩ := CA.out _ (Below.refl _ _)
 generalize fpV (zcm ws ps) (zaq (fun i => !zdb (zao (zai ws) 1) (i : Int)) 24) = r1 at *
 generalize fpC (zcm ws ps) (zaq (fun i => !zdb (zao (zai ws) 1) (i : Int)) 24) = r2 at *
 go_enter Tryz.func18, Tryz.ntmps18
 go_wp2_with fail
 refine (LF.out _ BW.out).mono ?_
 rintro e w1 ⟨rfl, hb1⟩
 have B1 := zaa (zab BW.out hb1 BW.out.size)
 clear hb1 x0 x1
 go_wp2
 go_ret2
 exact ⟨rfl, B1.out⟩

set_option maxRecDepth 100000 in
set_option maxHeartbeats 4000000 in
theorem zjs (v : Value) (ws : List Ino) (ps : List Den) (w : World) (h : RdIm w v ws ps) (hw : ws.length ≤ 1048576) (hp : ps.length ≤ 1048576) (hT : TS w) (hE : ED w) (hF : FD w) (hr : ∀ k (h : k < ws.length), ws[k].R) (hs : ∀ k (h : k < ps.length), ps[k].name.size ≤ maxLen) :
  Calls Tryz.prog 19 #[v] w fun e w' => e = .returned (.tuple #[.int .i64 (fpV (zcm ws ps) (zaq (fun i => !zdb (zao (zai ws) 2) (i : Int)) 32)), .int .i64 (fpC (zcm ws ps) (zaq (fun i => !zdb (zao (zai ws) 2) (i : Int)) 32))]) ∧ Below w.heap.size w w' := by
 have LF := zaa (fun w1 (hb : Below w.heap.size w w1) => zhb v ws ps 2 32 w1 (h.below hb) hw hp (hT.below hb) (hE.below hb) (hF.below hb) hr hs (by omega))
 rw [show ((2 : Nat) : Int) = 2 from rfl] at LF
 obtain ⟨vW, vP, rfl, h1, h2⟩ := h
 obtain ⟨aW, cW, rfl, _, hcW⟩ := h1.shape
 obtain ⟨aP, cP, rfl, _, _⟩ := h2.shape
 clear h1 h2 hr hs hcW hT hE hF
 have CA : Hid (∀ w', Below (w.alloc (.cells #[.slice aW ws.length cW, .slice aP ps.length cP] 26)).heap.size (w.alloc (.cells #[.slice aW ws.length cW, .slice aP ps.length cP] 26)) w' → w'.cell? ⟨w.heap.size, 0, none⟩ = some (.slice aW ws.length cW) ∧ w'.cell? ⟨w.heap.size, 1, none⟩ = some (.slice aP ps.length cP)) := fun w' hb => by
  have : w'.heap[w.heap.size]? = some (.cells #[.slice aW ws.length cW, .slice aP ps.length cP] 26 (0, 0)) := (hb.block _ (by simp)).trans (zah rfl)
  exact ⟨(zac this).1, (zac this).2.1⟩
 have BW : Hid (Below w.heap.size w (w.alloc (.cells #[.slice aW ws.length cW, .slice aP ps.length cP] 26))) := (Below.refl _ _).alloc (Nat.le_refl _) _
 obtain ⟨x0, x1⟩ := CA.out _ (Below.refl _ _)
 generalize fpV (zcm ws ps) (zaq (fun i => !zdb (zao (zai ws) 2) (i : Int)) 32) = r1 at *
 generalize fpC (zcm ws ps) (zaq (fun i => !zdb (zao (zai ws) 2) (i : Int)) 32) = r2 at *
 go_enter Tryz.func19, Tryz.ntmps19
 go_wp2_with fail
 refine (LF.out _ BW.out).mono ?_
 rintro e w1 ⟨rfl, hb1⟩
 have B1 := zaa (zab BW.out hb1 BW.out.size)
 clear hb1 x0 x1
 go_wp2
 go_ret2
 exact ⟨rfl, B1.out⟩

set_option maxRecDepth 100000 in
set_option maxHeartbeats 4000000 in
theorem zld (v : Value) (ws : List Ino) (ps : List Den) (w : World) (h : RdIm w v ws ps) (hl : ws.length ≤ 4096) :
  Calls Tryz.prog 226 #[v] w fun e w' => e = .returned (.int .i64 (zaq (fun i => decide (1 ≤ i) && zaj ws (i : Int) == 0) ws.length)) ∧ Below w.heap.size w w' := by
 obtain ⟨vW, vP, rfl, h1, h2⟩ := h
 obtain ⟨aW, cW, rfl, _, hcW⟩ := h1.shape
 obtain ⟨aP, cP, rfl, _, _⟩ := h2.shape
 have HW := zaa hcW
 clear h1 h2 hcW
 have CA : Hid (∀ w', Below (w.alloc (.cells #[.slice aW ws.length cW, .slice aP ps.length cP] 26)).heap.size (w.alloc (.cells #[.slice aW ws.length cW, .slice aP ps.length cP] 26)) w' → w'.cell? ⟨w.heap.size, 0, none⟩ = some (.slice aW ws.length cW) ∧ w'.cell? ⟨w.heap.size, 1, none⟩ = some (.slice aP ps.length cP)) := fun w' hb => by
  have : w'.heap[w.heap.size]? = some (.cells #[.slice aW ws.length cW, .slice aP ps.length cP] 26 (0, 0)) := (hb.block _ (by simp)).trans (zah rfl)
  exact ⟨(zac this).1, (zac this).2.1⟩
 have BW : Hid (Below w.heap.size w (w.alloc (.cells #[.slice aW ws.length cW, .slice aP ps.length cP] 26))) := (Below.refl _ _).alloc (Nat.le_refl _) _
 obtain ⟨x0, x1⟩ := CA.out _ (Below.refl _ _)
 clear x0 x1
 obtain ⟨W, hW⟩ : ∃ W, W = w.alloc (.cells #[.slice aW ws.length cW, .slice aP ps.length cP] 26) := ⟨_, rfl⟩
 rw [← hW] at CA BW
 obtain ⟨y0, y1⟩ := CA.out _ (Below.refl _ _)
 go_enter Tryz.func226, Tryz.ntmps226
 go_wp2
 rw [← hW]
 clear hW
 go_loopw [3] (fun i wr => ∃ k : Nat, (1 ≤ k ∧ (k ≤ ws.length ∨ k = 1)) ∧ i = .int .i64 k ∧ wr = W ∧ Hid (∀ j, j < k → (decide (1 ≤ j) && zaj ws (j : Int) == 0) = false)) (fun i _ => ws.length + 1 - (intOf i).toNat)
 case atStart => exact ⟨1, by omega, rfl, rfl, fun j a => by rw [decide_eq_false (by omega)]; rfl⟩
 case round =>
  obtain ⟨k, hk, rfl, rfl, H⟩ := hrel
  have k0 : (0 : Int) ≤ (k : Int) := by omega
  by_cases hlt : k < ws.length
  ·obtain ⟨b, o, rfl, hbl, hcell⟩ := HW.out (by omega)
   have d0 := (BW.out.cell (p := ⟨b, o + k * 11, none⟩) hbl).trans (hcell k hlt).1
   rw [← zbi hlt] at d0
   have k1 : (k : Int) < (ws.length : Int) := by omega
   have P := zaa (show (decide (1 ≤ k) && zaj ws (k : Int) == 0) = (zaj ws (k : Int) == 0) by rw [decide_eq_true hk.1]; rfl)
   clear hcell
   cases q : (zaj ws (k : Int) == 0) with
   | true =>
    have E := zaa (zgi (p := fun i => decide (1 ≤ i) && zaj ws (i : Int) == 0) hlt H.out (by show (decide (1 ≤ k) && zaj ws (k : Int) == 0) = true; rw [P.out, q]))
    clear H P
    generalize zaj ws (k : Int) = z at d0 q
    go_wp2
    go_ret
    exact ⟨zcp E.out.symm, BW.out⟩
   | false =>
    have H' : Hid (∀ j, j < k + 1 → (decide (1 ≤ j) && zaj ws (j : Int) == 0) = false) := fun j a => by
     by_cases e : j = k
     ·subst e; rw [P.out, q]
     ·exact H.out j (by omega)
    clear H P
    generalize zaj ws (k : Int) = z at d0 q
    go_wp2
    go_roundw
    case rel => exact ⟨k + 1, by omega, by go_num, trivial, H'⟩
    case measure => simp [intOf]; omega
  ·have E := zaa (zec (p := fun i => decide (1 ≤ i) && zaj ws (i : Int) == 0) (n := ws.length) (fun j hj => H.out j (by omega)))
   have k2 : ¬ (k : Int) < (ws.length : Int) := by omega
   clear H
   go_wp2
   go_ret
   exact ⟨zcp E.out.symm, BW.out⟩

/-- The inode that has none. -/
def zbo : Ino := ⟨0, 0, 0, 0, 0, 0, 0, 0, 0, 0, 0⟩

set_option maxRecDepth 100000 in
set_option maxHeartbeats 4000000 in
theorem zpc (v : Value) (ws : List Ino) (w : World) (h : RdN w v ws) (hn : ws.length ≤ 1048576) :
  Calls Tryz.prog 60 #[v, zbo.v] w fun e w' => e = .returned (.int .i64 (zaq (fun i => zfq zbo.ns (ws.getD i zbo).ns) ws.length)) ∧ Below w.heap.size w w' := by
 obtain ⟨aZ, cZ, rfl, _, hcZ⟩ := h.shape
 have HZ := zaa hcZ
 have BW := zaa ((Below.refl w.heap.size w).alloc (Nat.le_refl _) (.cells zbo.cs.toArray 44))
 have CA : Hid (∀ w', Below (w.alloc (.cells zbo.cs.toArray 44)).heap.size (w.alloc (.cells zbo.cs.toArray 44)) w' → ∀ j, w'.cell? ⟨w.heap.size, j, none⟩ = zbo.cs[j]?) := fun w' hb j => by
  have : w'.heap[w.heap.size]? = some (.cells zbo.cs.toArray 44 (0, 0)) := (hb.block _ (by simp)).trans (zah rfl)
  exact (zas (xs := zbo.cs) this j).1
 have hz : w.heap.size ≤ (w.alloc (.cells zbo.cs.toArray 44)).heap.size := BW.out.size
 obtain ⟨W, hW⟩ : ∃ W, W = w.alloc (.cells zbo.cs.toArray 44) := ⟨_, rfl⟩
 rw [← hW] at BW CA hz
 rw [show zbo.v = .agg zbo.cs.toArray from rfl]
 clear h hcZ
 go_enter Tryz.func60, Tryz.ntmps60
 go_wp2
 rw [← hW]
 clear hW
 go_loopw [5, 8] (fun _ i wr => ∃ k : Nat, k ≤ ws.length ∧ i = .int .i64 k ∧ Hid (Below W.heap.size W wr ∧ ∀ j, j < k → zfq zbo.ns (ws.getD j zbo).ns = false)) (fun _ i _ => ws.length - (intOf i).toNat)
 case atStart => exact ⟨0, by omega, rfl, Below.refl _ _, fun j a => absurd a (by omega)⟩
 case round =>
  obtain ⟨k, hk, rfl, H⟩ := hrel
  have B0 := zaa (zab BW.out H.out.1 hz)
  by_cases hlt : k < ws.length
  ·obtain ⟨b, o, rfl, hbl, hcell⟩ := HZ.out (by omega)
   have GD := zaa (show ws.getD k zbo = ws[k] by rw [List.getD_eq_getElem?_getD, List.getElem?_eq_getElem hlt]; rfl)
   obtain ⟨p0, p1, p2, p3, p4, p5, p6, p7, p8, p9, p10⟩ := Ino.all (CA.out wr H.out.1)
   obtain ⟨a0, a1, a2, a3, a4, a5, a6, a7, a8, a9, a10⟩ := hcell k hlt
   have d0 := (B0.out.cell (p := ⟨b, o + k * 11, none⟩) hbl).trans a0
   have d1 := (B0.out.cell (p := ⟨b, o + k * 11 + 1, none⟩) hbl).trans a1
   have d2 := (B0.out.cell (p := ⟨b, o + k * 11 + 2, none⟩) hbl).trans a2
   have d3 := (B0.out.cell (p := ⟨b, o + k * 11 + 3, none⟩) hbl).trans a3
   have d4 := (B0.out.cell (p := ⟨b, o + k * 11 + 4, none⟩) hbl).trans a4
   have d5 := (B0.out.cell (p := ⟨b, o + k * 11 + 5, none⟩) hbl).trans a5
   have d6 := (B0.out.cell (p := ⟨b, o + k * 11 + 6, none⟩) hbl).trans a6
   have d7 := (B0.out.cell (p := ⟨b, o + k * 11 + 7, none⟩) hbl).trans a7
   have d8 := (B0.out.cell (p := ⟨b, o + k * 11 + 8, none⟩) hbl).trans a8
   have d9 := (B0.out.cell (p := ⟨b, o + k * 11 + 9, none⟩) hbl).trans a9
   have d10 := (B0.out.cell (p := ⟨b, o + k * 11 + 10, none⟩) hbl).trans a10
   have k0 : (0 : Int) ≤ (k : Int) := by omega
   have k1 : (k : Int) < (ws.length : Int) := by omega
   have H1 := zaa H.out.1
   have HN : Hid (zfq zbo.ns ws[k].ns = false → ∀ j, j < k + 1 → zfq zbo.ns (ws.getD j zbo).ns = false) := fun q j a => by
    by_cases e : j = k
    ·subst e; rw [GD.out]; exact q
    ·exact H.out.2 j (by omega)
   have HY : Hid (zfq zbo.ns ws[k].ns = true → zaq (fun i => zfq zbo.ns (ws.getD i zbo).ns) ws.length = (k : Int)) := fun q => zgi hlt (fun j hj => H.out.2 j hj) (by show zfq zbo.ns (ws.getD k zbo).ns = true; rw [GD.out]; exact q)
   clear a0 a1 a2 a3 a4 a5 a6 a7 a8 a9 a10 hcell H GD
   generalize ws[k] = x at *
   unfold zbo at p0 p1 p2 p3 p4 p5 p6 p7 p8 p9 p10
   simp only at p0 p1 p2 p3 p4 p5 p6 p7 p8 p9 p10
   cases q : zfq zbo.ns x.ns with
   | true =>
    have q' : zfq [0, 0, 0, 0, 0, 0, 0, 0, 0, 0, 0] [x.kind, x.size, x.links, x.m0, x.m1, x.m2, x.m3, x.m4, x.m5, x.m6, x.m7] = true := q
    have E := zaa (HY.out q)
    clear q HN HY
    go_wp2
    go_quiet (fail)
    go_wp2
    go_ret
    exact ⟨zcp E.out.symm, below_drewN B0.out _⟩
   | false =>
    have q' : zfq [0, 0, 0, 0, 0, 0, 0, 0, 0, 0, 0] [x.kind, x.size, x.links, x.m0, x.m1, x.m2, x.m3, x.m4, x.m5, x.m6, x.m7] = false := q
    have E := zaa (HN.out q)
    clear q HN HY
    go_wp2
    go_quiet (fail)
    go_wp2
    go_roundw
    case rel => exact ⟨k + 1, by omega, by go_num, below_drewN H1.out _, E.out⟩
    case measure => simp [intOf]; omega
  ·have E := zaa (zec (p := fun i => zfq zbo.ns (ws.getD i zbo).ns) (n := ws.length) (fun j hj => H.out.2 j (by omega)))
   clear H
   go_wp2
   go_ret
   exact ⟨zcp E.out.symm, B0.out⟩

theorem free_same {ws : List Ino} {ps : List Den} (h : zcm ws ps = true) : zaq (fun i => zfq zbo.ns (ws.getD i zbo).ns) ws.length = zaq (fun i => decide (1 ≤ i) && zaj ws (i : Int) == 0) ws.length := by
 obtain ⟨l1, _, k2, o⟩ := zde h
 have o := of_decide_eq_true o
 apply zvp
 intro j hj
 have GD : ws.getD j zbo = ws[j] := by rw [List.getD_eq_getElem?_getD, List.getElem?_eq_getElem hj]; rfl
 show zfq zbo.ns (ws.getD j zbo).ns = (decide (1 ≤ j) && zaj ws (j : Int) == 0)
 rw [GD, zbi hj]
 have ib := o j hj
 by_cases q : ws[j].kind = 0
 ·have hz : ws[j].ns = zbo.ns := by
   unfold zdj at ib
   simp only [Bool.and_eq_true, decide_eq_true_eq] at ib
   have kb := ib.2.2.2.2
   unfold zek at kb
   rw [if_pos q] at kb
   obtain ⟨f1, f2, f3⟩ := of_decide_eq_true kb
   simp only [Ino.map, List.cons.injEq, and_true] at f3
   simp [Ino.ns, zbo, q, f1, f2, f3]
  rw [inoEq_t hz.symm, q]
  have : 1 ≤ j := by
   rcases Nat.eq_zero_or_pos j with e | e
   ·exfalso
    subst e
    have := zbi hj
    rw [show ((0 : Nat) : Int) = 0 from rfl, k2] at this
    omega
   ·exact e
  rw [decide_eq_true this]; rfl
 ·rw [show (ws[j].kind == 0) = false by rw [beq_eq_false_iff_ne]; exact q, Bool.and_false]
  exact inoEq_f (fun e => q (by have := congrArg List.head? e; simp [Ino.ns, zbo] at this; exact this.symm))

set_option maxRecDepth 100000 in
set_option maxHeartbeats 4000000 in
theorem zkc (v : Value) (ws : List Ino) (ps : List Den) (w : World) (h : RdIm w v ws ps) (hw : ws.length ≤ 1048576) (hp : ps.length ≤ 1048576) (hT : TS w) (hE : ED w) (hF : FD w) (hr : ∀ k (h : k < ws.length), ws[k].R) (hs : ∀ k (h : k < ps.length), ps[k].name.size ≤ maxLen) :
  Calls Tryz.prog 21 #[v] w fun e w' => e = .returned (.tuple #[.int .i64 (fpV (zcm ws ps) (zaq (fun i => decide (1 ≤ i) && zaj ws (i : Int) == 0) ws.length)), .int .i64 (fpC (zcm ws ps) (zaq (fun i => decide (1 ≤ i) && zaj ws (i : Int) == 0) ws.length))]) ∧ Below w.heap.size w w' := by
 have LI := zaa (fun w1 (hb : Below w.heap.size w w1) => zdn v ws ps w1 (h.below hb) hw hp (hT.below hb) (hE.below hb) (hF.below hb) hr hs)
 have FS := zaa (@free_same ws ps)
 obtain ⟨vW, vP, rfl, h1, h2⟩ := h
 have RW := zaa h1
 obtain ⟨aW, cW, rfl, _, _⟩ := h1.shape
 obtain ⟨aP, cP, rfl, _, _⟩ := h2.shape
 have LX := zaa (fun w1 (hb : Below w.heap.size w w1) => zpc (.slice aW ws.length cW) ws w1 (Rd.below RW.out hb) hw)
 have fb := zdh (fun i => decide (1 ≤ i) && zaj ws (i : Int) == 0) ws.length
 clear h1 h2 hr hs hT hE hF
 have CA : Hid (∀ w', Below (w.alloc (.cells #[.slice aW ws.length cW, .slice aP ps.length cP] 26)).heap.size (w.alloc (.cells #[.slice aW ws.length cW, .slice aP ps.length cP] 26)) w' → w'.cell? ⟨w.heap.size, 0, none⟩ = some (.slice aW ws.length cW) ∧ w'.cell? ⟨w.heap.size, 1, none⟩ = some (.slice aP ps.length cP)) := fun w' hb => by
  have : w'.heap[w.heap.size]? = some (.cells #[.slice aW ws.length cW, .slice aP ps.length cP] 26 (0, 0)) := (hb.block _ (by simp)).trans (zah rfl)
  exact ⟨(zac this).1, (zac this).2.1⟩
 have BW : Hid (Below w.heap.size w (w.alloc (.cells #[.slice aW ws.length cW, .slice aP ps.length cP] 26))) := (Below.refl _ _).alloc (Nat.le_refl _) _
 obtain ⟨x0, x1⟩ := CA.out _ (Below.refl _ _)
 cases c1 : zcm ws ps with
 | false =>
  rw [c1] at LI
  generalize zaq (fun i => decide (1 ≤ i) && zaj ws (i : Int) == 0) ws.length = r
  rw [show fpV false r = 0 from rfl, show fpC false r = 1 from rfl]
  clear c1
  go_enter Tryz.func21, Tryz.ntmps21
  go_wp2_with fail
  refine (LI.out _ BW.out).mono ?_
  rintro e w1 ⟨rfl, hb1⟩
  have B1 := zaa (zab BW.out hb1 BW.out.size)
  clear hb1 x0 x1
  go_wp2
  go_ret2
  exact ⟨rfl, B1.out⟩
 | true =>
  rw [c1] at LI
  rw [FS.out c1] at LX
  clear c1 FS
  generalize zaq (fun i => decide (1 ≤ i) && zaj ws (i : Int) == 0) ws.length = r at *
  by_cases q : r < 0
  ·rw [show fpV true r = 0 from if_pos q, show fpC true r = 7 from if_pos q]
   go_enter Tryz.func21, Tryz.ntmps21
   go_wp2_with fail
   refine (LI.out _ BW.out).mono ?_
   rintro e w1 ⟨rfl, hb1⟩
   have B1 := zaa (zab BW.out hb1 BW.out.size)
   clear x0 x1
   obtain ⟨x0, x1⟩ := CA.out _ hb1
   clear hb1
   go_wp2_with fail
   refine (LX.out _ B1.out).mono ?_
   rintro e w2 ⟨rfl, hb2⟩
   have B2 := zaa (zab B1.out hb2 B1.out.size)
   clear hb2 x0 x1
   go_wp2
   go_ret2
   exact ⟨rfl, B2.out⟩
  ·rw [show fpV true r = r from if_neg q, show fpC true r = 0 from if_neg q]
   go_enter Tryz.func21, Tryz.ntmps21
   go_wp2_with fail
   refine (LI.out _ BW.out).mono ?_
   rintro e w1 ⟨rfl, hb1⟩
   have B1 := zaa (zab BW.out hb1 BW.out.size)
   clear x0 x1
   obtain ⟨x0, x1⟩ := CA.out _ hb1
   clear hb1
   go_wp2_with fail
   refine (LX.out _ B1.out).mono ?_
   rintro e w2 ⟨rfl, hb2⟩
   have B2 := zaa (zab B1.out hb2 B1.out.size)
   clear hb2 x0 x1
   go_wp2
   go_ret2
   exact ⟨rfl, B2.out⟩
end Go.Proofs.YtbbmljakfbhnpaaGreatDoor

namespace Go.Proofs.YtbbmljakfbhnpaaGreatDoor
open Go.RowKit

set_option maxRecDepth 100000 in
set_option maxHeartbeats 2000000 in
theorem zpf (v : Value) (ws : List Ino) (ps : List Den) (a b : Int) (w : World) (h : RdIm w v ws ps) (hn : ps.length ≤ 1048576) :
  Calls Tryz.prog 228 #[v, .int .i64 a, .int .i64 b] w fun e w' => e = .returned (.bool (zpa ps 17 a b)) ∧ Below w.heap.size w w' := by
 have HR := zaa h
 obtain ⟨vW, vP, rfl, h1, h2⟩ := h
 obtain ⟨aW, cW, rfl, _⟩ := h1.shape
 obtain ⟨aP, cP, rfl, _, hcP⟩ := h2.shape
 clear h1 h2 hcP
 obtain ⟨W, hW⟩ : ∃ W, W = w.alloc (.cells #[.slice aW ws.length cW, .slice aP ps.length cP] 26) := ⟨_, rfl⟩
 have CA : Hid (∀ w', Below W.heap.size W w' → w'.cell? ⟨w.heap.size, 0, none⟩ = some (.slice aW ws.length cW) ∧ w'.cell? ⟨w.heap.size, 1, none⟩ = some (.slice aP ps.length cP)) := fun w' hb => by
  have : w'.heap[w.heap.size]? = some (.cells #[.slice aW ws.length cW, .slice aP ps.length cP] 26 (0, 0)) := (hb.block _ (by rw [hW]; simp)).trans (by rw [hW]; exact zah rfl)
  exact ⟨(zac this).1, (zac this).2.1⟩
 have BW : Hid (Below w.heap.size w W) := by rw [hW]; exact (Below.refl _ _).alloc (Nat.le_refl _) _
 have hz : w.heap.size ≤ W.heap.size := BW.out.size
 have LU := zaa (fun d w1 h => zsq (.agg #[.slice aW ws.length cW, .slice aP ps.length cP]) ws ps d w1 h hn)
 go_enter Tryz.func228, Tryz.ntmps228
 go_wp2
 rw [← hW]
 clear hW
 go_loopw [1, 7] (fun d i wr => ∃ (k : Nat) (z : Int), k ≤ 17 ∧ i = .int .i64 k ∧ d = .int .i64 z ∧ Hid (Below W.heap.size W wr ∧ zpa ps 17 a b = zpa ps (17 - k) z b)) (fun _ i _ => 17 - (intOf i).toNat)
 case atStart => exact ⟨0, a, by omega, rfl, rfl, Below.refl _ _, rfl⟩
 case round =>
  obtain ⟨k, z, hk, rfl, rfl, J⟩ := hrel
  obtain ⟨x0, x1⟩ := CA.out wr J.out.1
  have B := zaa (zab BW.out J.out.1 hz)
  by_cases hlt : k < 17
  ·have ES := zaa (show zpa ps (17 - k) z b = if z < 0 then false else if z = b then true else zpa ps (17 - (k + 1)) (upD ps z) b by
    rw [show 17 - k = (17 - (k + 1)) + 1 by omega]; rfl)
   have k16 : (k : Int) ≤ 16 := by omega
   by_cases q : z < 0
   ·have E := zaa (show zpa ps 17 a b = false by rw [J.out.2, ES.out, if_pos q])
    have q1 : ¬ z ≥ 0 := by omega
    clear ES J
    go_wp2
    go_ret
    exact ⟨zag E.out.symm, B.out⟩
   ·have q1 : z ≥ 0 := by omega
    by_cases r : z = b
    ·subst r
     have E := zaa (show zpa ps 17 a z = true by rw [J.out.2, ES.out, if_neg q, if_pos rfl])
     clear ES J
     go_wp2
     go_ret
     exact ⟨zag E.out.symm, B.out⟩
    ·have r1 : (z == b) = false := beq_eq_false_iff_ne.2 r
     have R := zaa (HR.out.below B.out)
     have E := zaa (show zpa ps 17 a b = zpa ps (17 - (k + 1)) (upD ps z) b by rw [J.out.2, ES.out, if_neg q, if_neg r])
     have J1 := zaa J.out.1
     clear ES J q r
     go_wp2_with fail
     refine (LU.out _ _ R.out).mono ?_
     rintro e w1 ⟨rfl, hb1⟩
     have B1 := zaa (zab J1.out hb1 J1.out.size)
     clear hb1
     go_wp2
     go_roundw
     case rel => exact ⟨k + 1, _, by omega, by go_num, rfl, B1.out, E.out⟩
     case measure => simp [intOf]; omega
  ·obtain rfl : k = 17 := by omega
   have E := zaa (show zpa ps 17 a b = false by rw [J.out.2]; rfl)
   clear J
   go_wp2
   go_ret
   exact ⟨zag E.out.symm, B.out⟩

end Go.Proofs.YtbbmljakfbhnpaaGreatDoor
