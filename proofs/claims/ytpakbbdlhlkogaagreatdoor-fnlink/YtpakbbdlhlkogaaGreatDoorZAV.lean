/- Several texts laid together: Dev, PlD, PcD. -/
import Derived.Test.YtpakbbdlhlkogaaGreatDoorZAO
import Derived.Test.YtpakbbdlhlkogaaGreatDoorZAU
import Derived.Test.YtpakbbdlhlkogaaGreatDoorZAP
import Derived.Test.YtpakbbdlhlkogaaGreatDoorZAN
import Derived.Test.YtpakbbdlhlkogaaGreatDoorZAE
import Derived.Test.YtpakbbdlhlkogaaGreatDoorZAF
import Derived.Test.YtpakbbdlhlkogaaGreatDoorZAK
namespace Go.Proofs.YtpakbbdlhlkogaaGreatDoor
open Go.RowKit
theorem zaq {w : World} {b : Nat} {t : TypeId} {x y z u : Value} (h : w.heap[b]? = some (.cells #[x, y, z, u] t (0, 0))) :
  w.cell? ⟨b, 0, none⟩ = some x ∧ w.cell? ⟨b, 1, none⟩ = some y ∧ w.cell? ⟨b, 2, none⟩ = some z ∧ w.cell? ⟨b, 3, none⟩ = some u ∧ w.frozen? ⟨b, 0, none⟩ = false ∧ w.frozen? ⟨b, 1, none⟩ = false ∧ w.frozen? ⟨b, 2, none⟩ = false ∧ w.frozen? ⟨b, 3, none⟩ = false := by
 simp [World.cell?, World.frozen?, h]
def RdDev (w : World) (v : Value) (ws : List Int) (ps : List St) (es : List Int) (qs : List Se) : Prop := ∃ vW vP vS vQ, v = .agg #[vW, vP, vS, vQ] ∧ RdPm w (.agg #[vW, vP]) ws ps ∧ RdBlk w (.agg #[vS, vQ]) es qs
def RowDev (w : World) (lo hi : Nat) (v : Value) (ws : List Int) (ps : List St) (es : List Int) (qs : List Se) : Prop :=
 ∃ vW vP vS vQ l1 h1 l2 h2, v = .agg #[vW, vP, vS, vQ] ∧ RowPm w l1 h1 (.agg #[vW, vP]) ws ps ∧ RowBlk w l2 h2 (.agg #[vS, vQ]) es qs ∧ (lo ≤ l1 ∧ h1 ≤ hi ∧ lo ≤ l2 ∧ h2 ≤ hi ∧ (h1 ≤ l2 ∨ h2 ≤ l1))
theorem RowDev.rd {w : World} {lo hi : Nat} {v : Value} {ws : List Int} {ps : List St} {es : List Int} {qs : List Se} (h : RowDev w lo hi v ws ps es qs) : RdDev w v ws ps es qs := by
 obtain ⟨vW, vP, vS, vQ, _, _, _, _, e, h1, h2, _⟩ := h
 exact ⟨vW, vP, vS, vQ, e, h1.rd, h2.rd⟩
theorem RdDev.below {w w' : World} {v : Value} {ws : List Int} {ps : List St} {es : List Int} {qs : List Se} (h : RdDev w v ws ps es qs) (hb : Below w.heap.size w w') : RdDev w' v ws ps es qs := by
 obtain ⟨vW, vP, vS, vQ, e, h1, h2⟩ := h
 exact ⟨vW, vP, vS, vQ, e, h1.below hb, h2.below hb⟩
theorem RdDev.form {w : World} {v : Value} {ws : List Int} {ps : List St} {es : List Int} {qs : List Se} (h : RdDev w v ws ps es qs) : ∃ aW cW aP cP aS cS aQ cQ, v = .agg #[.slice aW ws.length cW, .slice aP ps.length cP, .slice aS es.length cS, .slice aQ qs.length cQ] ∧ RdPm w (.agg #[.slice aW ws.length cW, .slice aP ps.length cP]) ws ps ∧ RdBlk w (.agg #[.slice aS es.length cS, .slice aQ qs.length cQ]) es qs := by
 obtain ⟨vW, vP, vS, vQ, rfl, ⟨_, _, e1, h1, h2⟩, ⟨_, _, e2, h3, h4⟩⟩ := h
 cases e1
 cases e2
 obtain ⟨aW, cW, rfl, _⟩ := h1.shape
 obtain ⟨aP, cP, rfl, _⟩ := h2.shape
 obtain ⟨aS, cS, rfl, _⟩ := h3.shape
 obtain ⟨aQ, cQ, rfl, _⟩ := h4.shape
 exact ⟨aW, cW, aP, cP, aS, cS, aQ, cQ, rfl, ⟨_, _, rfl, h1, h2⟩, ⟨_, _, rfl, h3, h4⟩⟩
theorem RowPm.form {w : World} {lo hi : Nat} {v : Value} {ws : List Int} {ps : List St} (h : RowPm w lo hi v ws ps) : ∃ aW cW aP cP, v = .agg #[.slice aW ws.length cW, .slice aP ps.length cP] := by
 obtain ⟨vW, vP, rfl, h1, h2⟩ := h.rd
 obtain ⟨aW, cW, rfl, _⟩ := h1.shape
 obtain ⟨aP, cP, rfl, _⟩ := h2.shape
 exact ⟨aW, cW, aP, cP, rfl⟩
theorem RowBlk.form {w : World} {lo hi : Nat} {v : Value} {ws : List Int} {ps : List Se} (h : RowBlk w lo hi v ws ps) : ∃ aW cW aP cP, v = .agg #[.slice aW ws.length cW, .slice aP ps.length cP] := by
 obtain ⟨vW, vP, rfl, h1, h2⟩ := h.rd
 obtain ⟨aW, cW, rfl, _⟩ := h1.shape
 obtain ⟨aP, cP, rfl, _⟩ := h2.shape
 exact ⟨aW, cW, aP, cP, rfl⟩
set_option maxRecDepth 100000 in
set_option maxHeartbeats 2000000 in
theorem zgd (v : Value) (ws : List Ino) (ps : List Den) (w : World) (h : RdIm w v ws ps) (hl : ps.length ≤ 4096) :
  Calls Tryz.prog 92 #[v] w fun e w' => e = .returned (.int .i64 (feI ps)) ∧ Below w.heap.size w w' := by
 obtain ⟨vW, vP, rfl, h1, h2⟩ := h
 obtain ⟨aW, cW, rfl, _, _⟩ := h1.shape
 obtain ⟨aP, cP, rfl, _, hcP⟩ := h2.shape
 have HP := zaa hcP
 clear h1 h2 hcP
 have CA : Hid (∀ w', Below (w.alloc (.cells #[.slice aW ws.length cW, .slice aP ps.length cP] 42)).heap.size (w.alloc (.cells #[.slice aW ws.length cW, .slice aP ps.length cP] 42)) w' → w'.cell? ⟨w.heap.size, 0, none⟩ = some (.slice aW ws.length cW) ∧ w'.cell? ⟨w.heap.size, 1, none⟩ = some (.slice aP ps.length cP)) := fun w' hb => by
  have : w'.heap[w.heap.size]? = some (.cells #[.slice aW ws.length cW, .slice aP ps.length cP] 42 (0, 0)) := (hb.block _ (by simp)).trans (zah rfl)
  exact ⟨(zac this).1, (zac this).2.1⟩
 have BW : Hid (Below w.heap.size w (w.alloc (.cells #[.slice aW ws.length cW, .slice aP ps.length cP] 42))) := (Below.refl _ _).alloc (Nat.le_refl _) _
 obtain ⟨W, hW⟩ : ∃ W, W = w.alloc (.cells #[.slice aW ws.length cW, .slice aP ps.length cP] 42) := ⟨_, rfl⟩
 rw [← hW] at CA BW
 obtain ⟨y0, y1⟩ := CA.out _ (Below.refl _ _)
 have EF := zaa (show feI ps = zbb (fun i => decide (zan ps i < 0)) ps.length from rfl)
 go_enter Tryz.func92, Tryz.ntmps92
 go_wp2
 rw [← hW]
 clear hW
 go_loopw [3] (fun i wr => ∃ k : Nat, k ≤ ps.length ∧ i = .int .i64 k ∧ wr = W ∧ Hid (∀ j, j < k → decide (zan ps j < 0) = false)) (fun i _ => ps.length - (intOf i).toNat)
 case atStart => exact ⟨0, by omega, rfl, rfl, fun j a => absurd a (by omega)⟩
 case round =>
  obtain ⟨k, hk, rfl, rfl, H⟩ := hrel
  have k0 : (0 : Int) ≤ (k : Int) := by omega
  by_cases hlt : k < ps.length
  ·obtain ⟨b, o, rfl, hbl, hcell⟩ := HP.out (by omega)
   have d0 := (BW.out.cell (p := ⟨b, o + k * 3 + 2, none⟩) hbl).trans (hcell k hlt).2.2
   rw [← zbf hlt] at d0
   have k1 : (k : Int) < (ps.length : Int) := by omega
   clear hcell
   by_cases q : zan ps k < 0
   ·have E := zaa (EF.out.trans (zgu (p := fun i => decide (zan ps i < 0)) hlt H.out (decide_eq_true q)))
    clear H
    generalize zan ps k = z at d0 q
    go_wp2
    go_ret
    exact ⟨zcf E.out.symm, BW.out⟩
   ·have H' : Hid (∀ j, j < k + 1 → decide (zan ps j < 0) = false) := fun j a => by
     by_cases e : j = k
     ·subst e; exact decide_eq_false q
     ·exact H.out j (by omega)
    clear H
    generalize zan ps k = z at d0 q
    go_wp2
    go_roundw
    case rel => exact ⟨k + 1, by omega, by go_num, trivial, H'⟩
    case measure => simp [intOf]; omega
  ·have E := zaa (EF.out.trans (zee (p := fun i => decide (zan ps i < 0)) (n := ps.length) (fun j hj => H.out j (by omega))))
   have k2 : ¬ (k : Int) < (ps.length : Int) := by omega
   clear H
   go_wp2
   go_ret
   exact ⟨zcf E.out.symm, BW.out⟩
theorem yakr (x : Den) : zgk freeD.dir freeD.name freeD.child x.dir x.name x.child = x.freeB := by
 rw [← zkj x]
 unfold zgk freeD
 rw [Bool.eq_iff_iff]
 simp only [Bool.and_eq_true, beq_iff_eq]
 exact ⟨fun h => ⟨h.1.symm, h.2.1.symm, h.2.2.symm⟩, fun h => ⟨h.1.symm, h.2.1.symm, h.2.2.symm⟩⟩
set_option maxRecDepth 100000 in
set_option maxHeartbeats 4000000 in
theorem zrf (v : Value) (ps : List Den) (w : World) (h : RdD w v ps) (hn : ps.length ≤ 1048576) (hfc : ∀ j (h : j < ps.length), (!ps[j].freeB) = decide (0 ≤ ps[j].child)) :
  Calls Tryz.prog 89 #[v, .agg #[.int .i64 0, .string ⟨#[]⟩, .int .i64 (-1)]] w fun e w' => e = .returned (.int .i64 (feI ps)) ∧ Below w.heap.size w w' := by
 have EF := zaa (show feI ps = zbb (fun i => decide (zan ps i < 0)) ps.length from rfl)
 have HF : Hid (∀ j (h : j < ps.length), zgk 0 ⟨#[]⟩ (-1) ps[j].dir ps[j].name ps[j].child = decide (zan ps j < 0)) := fun j h => by
  rw [show zgk 0 ⟨#[]⟩ (-1) ps[j].dir ps[j].name ps[j].child = ps[j].freeB from yakr ps[j], zbf h]
  have := hfc j h
  rw [Bool.eq_iff_iff, decide_eq_true_eq]
  cases e : ps[j].freeB
  ·rw [e] at this
   have : 0 ≤ ps[j].child := by simpa using this.symm
   simp
   exact this
  ·rw [e] at this
   have : ¬ 0 ≤ ps[j].child := by simpa using this.symm
   simp
   omega
 obtain ⟨aZ, cZ, rfl, _, hcZ⟩ := h.shape
 have HZ := zaa hcZ
 have BW := zaa ((Below.refl w.heap.size w).alloc (Nat.le_refl _) (.cells #[.int .i64 0, .string ⟨#[]⟩, .int .i64 (-1)] 69))
 have CB : Hid (∀ w', Below (w.alloc (.cells #[.int .i64 0, .string ⟨#[]⟩, .int .i64 (-1)] 69)).heap.size (w.alloc (.cells #[.int .i64 0, .string ⟨#[]⟩, .int .i64 (-1)] 69)) w' → w'.cell? ⟨w.heap.size, 0, none⟩ = some (.int .i64 0) ∧ w'.cell? ⟨w.heap.size, 1, none⟩ = some (.string ⟨#[]⟩) ∧ w'.cell? ⟨w.heap.size, 2, none⟩ = some (.int .i64 (-1))) := fun w' hb => zaw ((hb.block _ (by simp)).trans (zah rfl))
 have hz : w.heap.size ≤ (w.alloc (.cells #[.int .i64 0, .string ⟨#[]⟩, .int .i64 (-1)] 69)).heap.size := BW.out.size
 obtain ⟨W, hW⟩ : ∃ W, W = w.alloc (.cells #[.int .i64 0, .string ⟨#[]⟩, .int .i64 (-1)] 69) := ⟨_, rfl⟩
 rw [← hW] at BW CB hz
 clear h hcZ hfc
 go_enter Tryz.func89, Tryz.ntmps89
 go_wp2
 rw [← hW]
 clear hW
 go_loopw [5, 8] (fun _ i wr => ∃ k : Nat, k ≤ ps.length ∧ i = .int .i64 k ∧ Hid (Below W.heap.size W wr ∧ ∀ j, j < k → decide (zan ps j < 0) = false)) (fun _ i _ => ps.length - (intOf i).toNat)
 case atStart => exact ⟨0, by omega, rfl, Below.refl _ _, fun j a => absurd a (by omega)⟩
 case round =>
  obtain ⟨k, hk, rfl, H⟩ := hrel
  by_cases hlt : k < ps.length
  ·obtain ⟨b, o, rfl, hbl, hcell⟩ := HZ.out (by omega)
   obtain ⟨x0, x1, x2⟩ := CB.out wr H.out.1
   have B0 := zaa (zab BW.out H.out.1 hz)
   obtain ⟨a0, a1, a2⟩ := hcell k hlt
   have d0 := (B0.out.cell (p := ⟨b, o + k * 3, none⟩) hbl).trans a0
   have d1 := (B0.out.cell (p := ⟨b, o + k * 3 + 1, none⟩) hbl).trans a1
   have d2 := (B0.out.cell (p := ⟨b, o + k * 3 + 2, none⟩) hbl).trans a2
   have k0 : (0 : Int) ≤ (k : Int) := by omega
   have k1 : (k : Int) < (ps.length : Int) := by omega
   have Q := zaa (HF.out k hlt)
   clear hcell a0 a1 a2
   cases q : zgk 0 ⟨#[]⟩ (-1) ps[k].dir ps[k].name ps[k].child with
   | true =>
    have E := zaa (EF.out.trans (zgu (p := fun i => decide (zan ps i < 0)) hlt H.out.2 (by show decide (zan ps k < 0) = true; rw [← Q.out, q])))
    clear H Q
    generalize ps[k] = y at *
    go_wp2
    go_quiet (fail)
    go_wp2
    go_ret
    exact ⟨zcf E.out.symm, zcx B0.out _⟩
   | false =>
    have H' : Hid (∀ j, j < k + 1 → decide (zan ps j < 0) = false) := fun j a => by
     by_cases e : j = k
     ·subst e; rw [← Q.out]; exact q
     ·exact H.out.2 j (by omega)
    have H1 := zaa H.out.1
    clear H Q
    generalize ps[k] = y at d0 d1 d2 q
    go_wp2
    go_quiet (fail)
    go_wp2
    go_roundw
    case rel => exact ⟨k + 1, by omega, by go_num, zcx H1.out _, H'.out⟩
    case measure => simp [intOf]; omega
  ·have E := zaa (EF.out.trans (zee (p := fun i => decide (zan ps i < 0)) (n := ps.length) (fun j h => H.out.2 j (by omega))))
   have B0 := zaa (zab BW.out H.out.1 hz)
   clear H
   go_wp2
   go_ret
   exact ⟨zcf E.out.symm, B0.out⟩
set_option maxRecDepth 100000 in
set_option maxHeartbeats 4000000 in
theorem zsk (v : Value) (ws : List Ino) (ps : List Den) (w : World) (h : RdIm w v ws ps) (hi : zcb ws ps = true) (hF : FD w) :
  Calls Tryz.prog 42 #[v] w fun e w' => e = .returned (.tuple #[.int .i64 (zsm (feI ps)), .int .i64 (zrx (feI ps))]) ∧ Below w.heap.size w w' := by
 obtain ⟨vW, vP, rfl, h1, h2⟩ := h
 have LX := zaa (fun w1 (hb : Below w.heap.size w w1) => zrf vP ps w1 (Rd.below h2 hb) (by have := (zau hi).2.1; omega) (fun j hj => zqf hi j hj))
 obtain ⟨aW, cW, rfl, _, _⟩ := h1.shape
 obtain ⟨aP, cP, rfl, _, _⟩ := h2.shape
 clear h1 h2 hi
 have CA : Hid (∀ w', Below (w.alloc (.cells #[.slice aW ws.length cW, .slice aP ps.length cP] 42)).heap.size (w.alloc (.cells #[.slice aW ws.length cW, .slice aP ps.length cP] 42)) w' → w'.cell? ⟨w.heap.size, 0, none⟩ = some (.slice aW ws.length cW) ∧ w'.cell? ⟨w.heap.size, 1, none⟩ = some (.slice aP ps.length cP)) := fun w' hb => by
  have : w'.heap[w.heap.size]? = some (.cells #[.slice aW ws.length cW, .slice aP ps.length cP] 42 (0, 0)) := (hb.block _ (by simp)).trans (zah rfl)
  exact ⟨(zac this).1, (zac this).2.1⟩
 have BW : Hid (Below w.heap.size w (w.alloc (.cells #[.slice aW ws.length cW, .slice aP ps.length cP] 42))) := (Below.refl _ _).alloc (Nat.le_refl _) _
 obtain ⟨x0, x1⟩ := CA.out _ (Below.refl _ _)
 obtain ⟨f0, f1, f2⟩ := FD.cells (hF.below BW.out)
 generalize feI ps = r at *
 clear hF CA
 go_enter Tryz.func42, Tryz.ntmps42
 go_wp2_with fail
 refine (LX.out _ BW.out).mono ?_
 rintro e w1 ⟨rfl, hb1⟩
 have B1 := zaa (zab BW.out hb1 BW.out.size)
 clear hb1 x0 x1 f0 f1 f2
 by_cases q : r < 0
 ·go_wp2
  go_ret2
  exact ⟨zds (show (0 : Int) = zsm r from (if_pos q).symm) (show (7 : Int) = zrx r from (if_pos q).symm), B1.out⟩
 ·go_wp2
  go_ret2
  exact ⟨zds (by unfold zsm; rw [if_neg (by omega)]) (by unfold zrx; rw [if_neg (by omega)]), B1.out⟩
set_option maxRecDepth 100000 in
set_option maxHeartbeats 2000000 in
theorem zhv (i f x : Int) (w : World) (hi : 0 ≤ i ∧ i < 16) (hf : 0 ≤ f ∧ f < 11) :
  Calls Tryz.prog 43 #[.int .i64 i, .int .i64 f, .int .i64 x] w fun e w' => e = .returned (.agg #[.int .i64 (48 + 12 * i + f), .int .i64 x]) ∧ Below w.heap.size w w' := by
 obtain ⟨k1, k2⟩ := yaap hi hf
 have K1 := zaa k1
 have K2 := zaa k2
 clear k1 k2
 generalize 48 + 12 * i + f = at_ at *
 have BW := zaa ((Below.refl w.heap.size w).alloc (Nat.le_refl _) (.cells #[.int .i64 0, .int .i64 0] 83))
 go_enter Tryz.func43, Tryz.ntmps43
 go_wp2_with fail
 refine (zfc _ _ _).mono ?_
 rw [K1.out, K2.out]
 rintro e w' ⟨rfl, hw'⟩
 subst w'
 go_wp2
 refine bodyPost_ret (v := .agg #[.int .i64 at_, .int .i64 x]) (by simp [results, Tryz.results43, go_sem]) rfl ⟨rfl, ?_⟩
 repeat (first | exact BW.out | exact Below.refl _ _ | refine Below.setCell ?_ (by exact Nat.le_refl _) _ | refine Below.alloc ?_ (by simp) _)
def unL (i : Int) (x : Ino) : List Se := if 1 < x.links then [⟨48 + 12 * i + 2, x.links - 1⟩] else wrL i zbd 8
theorem yarx {i : Int} (hi : 0 ≤ i ∧ i < 16) : iuC i zbd = 0 ∧ iuL i zbd = wrL i zbd 8 := by
 have z : zdl zbd = true := by decide
 exact ⟨by unfold iuC; rw [if_pos (by omega), if_pos z], by unfold iuL; rw [if_pos (by omega), if_pos z]⟩
set_option maxRecDepth 100000 in
set_option maxHeartbeats 4000000 in
theorem zkv (i : Int) (x : Ino) (w : World) (hi : 0 ≤ i ∧ i < 16) (hl : x.links ≤ 24) (hT : TS w) (hE : ED w) :
  Calls Tryz.prog 30 #[.int .i64 i, x.v] w fun e w' => ∃ v', e = .returned v' ∧ Row w' 83 2 w.heap.size w'.heap.size v' (unL i x).length (ses (unL i x)) ∧ Below w.heap.size w w' := by
 have hv : x.v = .agg x.cs.toArray := rfl
 have LU := zaa (fun y w1 => zhv i 2 y w1 hi (by omega))
 have LI := zaa (fun w1 (hb : Below w.heap.size w w1) => zik i zbd w1 (hT.below hb) (hE.below hb) (by intro z hz; simp [zbd, Ino.map] at hz; omega))
 obtain ⟨q1, q2⟩ := yarx hi
 have Q1 := zaa q1
 have Q2 := zaa q2
 have EU := zaa (show unL i x = if 1 < x.links then [⟨48 + 12 * i + 2, x.links - 1⟩] else wrL i zbd 8 from rfl)
 obtain ⟨W, hW⟩ : ∃ W, W = w.alloc (.cells x.cs.toArray 56) := ⟨_, rfl⟩
 have CA : Hid (∀ w', Below W.heap.size W w' → ∀ j, w'.cell? ⟨w.heap.size, j, none⟩ = x.cs[j]?) := fun w' hb j => by
  have : w'.heap[w.heap.size]? = some (.cells x.cs.toArray 56 (0, 0)) := (hb.block _ (by rw [hW]; simp)).trans (by rw [hW]; exact zah rfl)
  exact (zao (xs := x.cs) this j).1
 have BW : Hid (Below w.heap.size w W) := by rw [hW]; exact (Below.refl _ _).alloc (Nat.le_refl _) _
 have c2 : (w.alloc (.cells x.cs.toArray 56)).cell? ⟨w.heap.size, 2, none⟩ = some (.int .i64 x.links) := by rw [← hW]; exact CA.out W (Below.refl _ _) 2
 rw [hv]
 clear hT hE q1 q2 CA
 generalize unL i x = L at *
 by_cases q : 1 < x.links
 ·rw [if_pos q] at EU
  obtain rfl := EU.out
  have wp1 : IntKind.i64.wrap (x.links - 1) = x.links - 1 := by rw [IntKind.wrap_i64]; omega
  have q1 : x.links > 1 := q
  clear EU LI Q1 Q2
  generalize x.links = l at *
  go_enter Tryz.func30, Tryz.ntmps30
  go_wp2_with fail
  rw [← hW]
  clear hW
  refine (LU.out _ _).mono ?_
  rintro e w1 ⟨rfl, hb1⟩
  have B1 := zaa (zab BW.out hb1 BW.out.size)
  clear hb1 c2
  go_wp2
  go_ret
  exact ⟨_, rfl, (zad (World.ownsRow_lit w1 _ 1 (Nat.le_refl _) (by simp [maxLen]) rfl)).wide B1.out.size (Nat.le_refl _), B1.out.alloc B1.out.size _⟩
 ·rw [if_neg q] at EU
  obtain rfl := EU.out
  have q1 : ¬ x.links > 1 := q
  clear EU LU
  generalize x.links = l at *
  go_enter Tryz.func30, Tryz.ntmps30
  go_wp2_with fail
  rw [← hW]
  clear hW
  refine (LI.out _ BW.out).mono ?_
  rw [Q1.out, Q2.out]
  rintro e w1 ⟨v1, rfl, hr1, hb1⟩
  have B1 := zaa (zab BW.out hb1 BW.out.size)
  have R1 := zaa (hr1.wide BW.out.size (Nat.le_refl _))
  obtain ⟨-, aL, cL, hvL, -⟩ := hr1.rd
  subst hvL
  clear hb1 hr1 c2
  go_wp2
  go_ret
  exact ⟨_, rfl, R1.out, B1.out⟩
def pfC (ws : List Ino) (ps : List Den) (ss : List ByteArray) : Int := if ss.any (fun s => decide (65536 < s.size)) = true then 2 else if zcb ws ps = true then 0 else 1
set_option maxRecDepth 100000 in
set_option maxHeartbeats 4000000 in
theorem zru (v vL : Value) (ws : List Ino) (ps : List Den) (ss : List ByteArray) (w : World) (h : RdIm w v ws ps) (hL : RdT w vL ss) (hn : ss.length ≤ 4096) (hw : ws.length ≤ 1048576) (hp : ps.length ≤ 1048576) (hT : TS w) (hE : ED w) (hF : FD w) (hr : ∀ k (h : k < ws.length), ws[k].R) (hs : ∀ k (h : k < ps.length), ps[k].name.size ≤ maxLen) :
  Calls Tryz.prog 39 #[v, vL] w fun e w' => e = .returned (.int .i64 (pfC ws ps ss)) ∧ Below w.heap.size w w' := by
 have LI := zaa (fun w1 (hb : Below w.heap.size w w1) => zdz v ws ps w1 (h.below hb) hw hp (hT.below hb) (hE.below hb) (hF.below hb) hr hs)
 have EC := zaa (show pfC ws ps ss = if ss.any (fun s => decide (65536 < s.size)) = true then 2 else if zcb ws ps = true then 0 else 1 from rfl)
 obtain ⟨vW, vP, rfl, h1, h2⟩ := h
 obtain ⟨aW, cW, rfl, _, _⟩ := h1.shape
 obtain ⟨aP, cP, rfl, _, _⟩ := h2.shape
 obtain ⟨aL, cL, rfl, _, hcL⟩ := hL.shape
 have HL := zaa hcL
 clear h1 h2 hr hs hT hE hF hL hcL
 obtain ⟨W, hW⟩ : ∃ W, W = w.alloc (.cells #[.slice aW ws.length cW, .slice aP ps.length cP] 42) := ⟨_, rfl⟩
 have BW : Hid (Below w.heap.size w W) := by rw [hW]; exact (Below.refl _ _).alloc (Nat.le_refl _) _
 obtain ⟨x0, x1⟩ : W.cell? ⟨w.heap.size, 0, none⟩ = some (.slice aW ws.length cW) ∧ W.cell? ⟨w.heap.size, 1, none⟩ = some (.slice aP ps.length cP) := by
  have : W.heap[w.heap.size]? = some (.cells #[.slice aW ws.length cW, .slice aP ps.length cP] 42 (0, 0)) := by rw [hW]; exact zah rfl
  exact ⟨(zac this).1, (zac this).2.1⟩
 generalize pfC ws ps ss = r at *
 go_enter Tryz.func39, Tryz.ntmps39
 go_wp2
 rw [← hW]
 clear hW
 go_loopw [6, 9] (fun _ i wr => ∃ k : Nat, k ≤ ss.length ∧ i = .int .i64 k ∧ wr = W ∧ Hid (∀ j (h : j < ss.length), j < k → ¬ 65536 < ss[j].size)) (fun _ i _ => ss.length - (intOf i).toNat)
 case atStart => exact ⟨0, by omega, rfl, rfl, fun j _ a => absurd a (by omega)⟩
 case round =>
  obtain ⟨k, hk, rfl, rfl, H⟩ := hrel
  have k0 : (0 : Int) ≤ (k : Int) := by omega
  by_cases hlt : k < ss.length
  ·obtain ⟨b, o, rfl, hbl, hcell⟩ := HL.out (by omega)
   have d0 := (BW.out.cell (p := ⟨b, o + k, none⟩) hbl).trans (hcell k hlt)
   have k1 : (k : Int) < (ss.length : Int) := by omega
   clear hcell
   by_cases q : 65536 < ss[k].size
   ·have E : Hid (r = 2) := EC.out.trans (if_pos (List.any_eq_true.2 ⟨ss[k], List.getElem_mem hlt, decide_eq_true q⟩))
    obtain rfl := E.out
    have q1 : (ss[k].size : Int) > 65536 := by omega
    clear H E EC q
    generalize ss[k] = s at *
    go_wp2
    go_ret
    exact ⟨rfl, BW.out⟩
   ·have H' : Hid (∀ j (h : j < ss.length), j < k + 1 → ¬ 65536 < ss[j].size) := fun j h a => by
     by_cases e : j = k
     ·subst e; exact q
     ·exact H.out j h (by omega)
    have q1 : ¬ (ss[k].size : Int) > 65536 := by omega
    clear H q
    generalize ss[k] = s at *
    go_wp2
    go_roundw
    case rel => exact ⟨k + 1, by omega, by go_num, trivial, H'⟩
    case measure => simp [intOf]; omega
  ·have E : Hid (r = if zcb ws ps = true then 0 else 1) := EC.out.trans (if_neg (by
    rw [List.any_eq_true]
    rintro ⟨s, hs, q⟩
    obtain ⟨j, hj, rfl⟩ := List.getElem_of_mem hs
    exact H.out j hj (by omega) (by simpa using q)))
   clear H EC
   cases c : zcb ws ps with
   | true =>
    rw [c] at E LI
    obtain rfl := E.out
    clear E c
    go_wp2_with fail
    refine (LI.out _ BW.out).mono ?_
    rintro e w1 ⟨rfl, hb1⟩
    have B1 := zaa (zab BW.out hb1 BW.out.size)
    clear hb1 x0 x1
    go_wp2
    go_ret
    exact ⟨rfl, B1.out⟩
   | false =>
    rw [c] at E LI
    obtain rfl := E.out
    clear E c
    go_wp2_with fail
    refine (LI.out _ BW.out).mono ?_
    rintro e w1 ⟨rfl, hb1⟩
    have B1 := zaa (zab BW.out hb1 BW.out.size)
    clear hb1 x0 x1
    go_wp2
    go_ret
    exact ⟨rfl, B1.out⟩
set_option maxRecDepth 100000 in
set_option maxHeartbeats 4000000 in
theorem zdt (v : Value) (ws : List Ino) (ps : List Den) (s : ByteArray) (w : World) (h : RdIm w v ws ps) (hi : zcb ws ps = true) (hs : s.size ≤ 65536) :
  Calls Tryz.prog 77 #[v, .string s] w fun e w' => e = .returned (.tuple #[.int .i64 (paI ws ps s).1, .string (paI ws ps s).2.1, .int .i64 (paI ws ps s).2.2]) ∧ Below w.heap.size w w' := by
 have HR := zaa h
 have LS := zaa (fun w1 => zlu s w1 hs)
 have LW := zaa (fun vL ns w1 h hL hn => zox v vL ws ps ns w1 h hL hi hn)
 have WR := zaa (fun ns => zjp hi ns 0 (by omega))
 have SL := zaa (@zrs s)
 have EL := zaa (show paI ws ps s = if spB s = true then paL ws ps (spL s) else (0, ⟨#[]⟩, 12) from rfl)
 have L16 := zaa (zau hi).1
 obtain ⟨vW, vP, rfl, h1, h2⟩ := h
 obtain ⟨aW, cW, rfl, _, hcW⟩ := h1.shape
 obtain ⟨aP, cP, rfl, _, _⟩ := h2.shape
 obtain ⟨bW, oW, rfl, hblW, hcellW⟩ := hcW (by have := L16.out; omega)
 have HW : Hid (∀ w', Below w.heap.size w w' → ∀ n : Nat, n < 16 → w'.cell? ⟨bW, oW + n * 11, none⟩ = some (.int .i64 (zai ws n))) := fun w' hb n hn => by
  have hnl : n < ws.length := by have := L16.out; omega
  rw [zbo hnl]
  exact (hb.cell (p := ⟨bW, oW + n * 11, none⟩) hblW).trans (hcellW n hnl).1
 clear h1 h2 hi hcW hcellW
 have CA : Hid (∀ w', Below (w.alloc (.cells #[.slice (some ⟨bW, oW, none⟩) ws.length cW, .slice aP ps.length cP] 42)).heap.size (w.alloc (.cells #[.slice (some ⟨bW, oW, none⟩) ws.length cW, .slice aP ps.length cP] 42)) w' → w'.cell? ⟨w.heap.size, 0, none⟩ = some (.slice (some ⟨bW, oW, none⟩) ws.length cW) ∧ w'.cell? ⟨w.heap.size, 1, none⟩ = some (.slice aP ps.length cP)) := fun w' hb => by
  have : w'.heap[w.heap.size]? = some (.cells #[.slice (some ⟨bW, oW, none⟩) ws.length cW, .slice aP ps.length cP] 42 (0, 0)) := (hb.block _ (by simp)).trans (zah rfl)
  exact ⟨(zac this).1, (zac this).2.1⟩
 have BW : Hid (Below w.heap.size w (w.alloc (.cells #[.slice (some ⟨bW, oW, none⟩) ws.length cW, .slice aP ps.length cP] 42))) := (Below.refl _ _).alloc (Nat.le_refl _) _
 generalize hres : paI ws ps s = res at *
 clear hres
 cases c : spB s with
 | false =>
  rw [c] at LS EL
  obtain rfl := EL.out
  clear EL LW
  go_enter Tryz.func77, Tryz.ntmps77
  go_wp2_with fail
  refine (LS.out _).mono ?_
  rintro e w1 ⟨v1, rfl, hr1, hb1⟩
  have B1 := zaa (zab BW.out hb1 BW.out.size)
  clear hr1 hb1
  go_wp2
  go_ret3
  exact ⟨rfl, B1.out⟩
 | true =>
 rw [c] at LS EL
 have EL2 : Hid (res = paL ws ps (spL s)) := EL
 clear EL c
 generalize spL s = ns at *
 by_cases c1 : ns = []
 ·subst c1
  obtain rfl := EL2.out
  clear EL2 LW
  go_enter Tryz.func77, Tryz.ntmps77
  go_wp2_with fail
  refine (LS.out _).mono ?_
  rintro e w1 ⟨v1, rfl, hr1, hb1⟩
  have B1 := zaa (zab BW.out hb1 BW.out.size)
  obtain ⟨aL, cL, rfl, _, _⟩ := hr1.shape
  clear hr1 hb1
  simp only [List.length_nil]
  go_wp2
  go_ret3
  exact ⟨rfl, B1.out⟩
 obtain ⟨xs, x, rfl⟩ := zys c1
 rw [zig] at EL2
 clear c1
 have EP := zaa (show paN ws ps xs x = if (wk ws ps 0 xs).2 = 0 then (if zai ws (wk ws ps 0 xs).1 = 2 then ((wk ws ps 0 xs).1, x, 0) else (0, ⟨#[]⟩, 10)) else (0, ⟨#[]⟩, (wk ws ps 0 xs).2) from rfl)
 rw [EP.out] at EL2
 clear EP
 have sl := SL.out
 rw [List.length_append, List.length_cons, List.length_nil, Nat.zero_add] at sl
 have wr1 := WR.out xs
 have LW2 := zaa (fun vL w1 h hL => LW.out vL xs w1 h hL (by omega))
 obtain ⟨z, hz⟩ : ∃ z : Nat, (wk ws ps 0 xs).1 = (z : Int) := ⟨((wk ws ps 0 xs).1).toNat, by omega⟩
 have z16 : z < 16 := by omega
 rw [hz] at EL2 LW2
 clear LW WR SL wr1 hz
 generalize (wk ws ps 0 xs).2 = wc at *
 go_enter Tryz.func77, Tryz.ntmps77
 go_wp2_with fail
 refine (LS.out _).mono ?_
 rintro e w1 ⟨v1, rfl, hr1, hb1⟩
 have B1 := zaa (zab BW.out hb1 BW.out.size)
 have BA := zaa hb1
 have hbn : (w.alloc (.cells #[.slice (some ⟨bW, oW, none⟩) ws.length cW, .slice aP ps.length cP] 42)).heap.size ≤ w1.heap.size := hb1.size
 obtain ⟨x0, x1⟩ := CA.out _ hb1
 have R1 := zaa hr1
 obtain ⟨aL, cL, rfl, hcap, hcL⟩ := hr1.shape
 obtain ⟨b, o, rfl, hbl, hcell⟩ := hcL (by rw [List.length_append]; simp)
 have hx : w1.cell? ⟨b, o + xs.length, none⟩ = some (.string x) := by
  have := hcell xs.length (by rw [List.length_append]; simp)
  simpa using this
 have RT : Hid (RdT w1 (.slice (some ⟨b, o, none⟩) xs.length cL) xs) := by
  have := zmw R1.out (m := xs.length) (by rw [List.length_append]; omega)
  rw [List.take_left] at this
  exact this
 rw [List.length_append, List.length_cons, List.length_nil, Nat.zero_add] at hcap
 simp only [List.length_append, List.length_cons, List.length_nil, Nat.zero_add]
 clear hr1 hb1 hcL hcell R1 LS
 generalize xs.length = n at *
 have n0 : (((n + 1 : Nat) : Int) == 0) = false := by rw [beq_eq_false_iff_ne]; omega
 have nw : IntKind.i64.wrap (((n + 1 : Nat) : Int) - 1) = (n : Int) := by
  rw [show (((n + 1 : Nat) : Int) - 1) = (n : Int) by omega, IntKind.wrap_i64]
  omega
 have ncap : (n : Int) ≤ (cL : Int) := by omega
 have nw2 : IntKind.i64.wrap ((n : Int) + 1 - 1) = (n : Int) := by rw [IntKind.wrap_i64]; omega
 have nw3 : IntKind.i64.wrap (n : Int) = (n : Int) := by rw [IntKind.wrap_i64]; omega
 have nn0 : (0 : Int) ≤ (n : Int) := by omega
 have nn1 : (n : Int) < ((n + 1 : Nat) : Int) := by omega
 have nn2 : (n : Int) < (n : Int) + 1 := by omega
 have z0 : (0 : Int) ≤ (z : Int) := by omega
 have z1 : (z : Int) < (ws.length : Int) := by have := L16.out; omega
 have SK : Hid (∀ w', Below w1.heap.size w1 w' → w'.cell? ⟨w.heap.size, 0, none⟩ = some (.slice (some ⟨bW, oW, none⟩) ws.length cW) ∧ w'.cell? ⟨w.heap.size, 1, none⟩ = some (.slice aP ps.length cP)) := fun w' hb => CA.out w' (zab BA.out hb hbn)
 have HX : Hid (∀ w', Below w1.heap.size w1 w' → w'.cell? ⟨b, o + n, none⟩ = some (.string x)) := fun w' hb => (hb.cell (p := ⟨b, o + n, none⟩) hbl).trans hx
 have LW3 := zaa (fun w2 (hb : Below w1.heap.size w1 w2) => LW2.out _ w2 (HR.out.below (zab B1.out hb B1.out.size)) (Rd.below RT.out hb))
 clear LW2 RT hx
 by_cases q : wc = 0
 case neg =>
  rw [if_neg q] at EL2
  obtain rfl := EL2.out
  have q1 : (wc != 0) = true := by rw [bne_iff_ne]; exact q
  clear EL2 q
  go_wp2_with fail
  go_region_held3 (fun w' => w'.cell? ⟨w.heap.size, 0, none⟩ = some (.slice (some ⟨bW, oW, none⟩) ws.length cW) ∧ w'.cell? ⟨w.heap.size, 1, none⟩ = some (.slice aP ps.length cP))
   (exact SK.out _ (by repeat (first | exact BF.out | exact Below.refl _ _ | refine Below.drew ?_)))
   (first
    | (go_at_call 124; refine (LW3.out _ (by repeat (first | exact Below.refl _ _ | refine Below.drew ?_))).mono ?_; rintro e w2 ⟨rfl, hb2⟩; have BF : Hid (Below w1.heap.size w1 w2) := (by first | exact hb2 | exact zab (by repeat (first | exact Below.refl _ _ | refine Below.drew ?_)) hb2 (Nat.le_refl _)); clear hb2))
  all_goals
   have B3 := zaa (zab B1.out BF.out B1.out.size)
   clear SK x0 x1
   go_wp2
   go_ret3
   exact ⟨rfl, (by repeat (first | exact B3.out | refine Below.drew ?_))⟩
 rw [if_pos q] at EL2
 subst q
 have HZ := zaa (fun w' hb => HW.out w' hb z z16)
 by_cases r : zai ws z = 2
 case neg =>
  rw [if_neg r] at EL2
  obtain rfl := EL2.out
  have r1 : (zai ws z != 2) = true := by rw [bne_iff_ne]; exact r
  clear EL2 r
  generalize zai ws z = kz at *
  go_wp2_with fail
  go_region_held3 (fun w' => w'.cell? ⟨w.heap.size, 0, none⟩ = some (.slice (some ⟨bW, oW, none⟩) ws.length cW) ∧ w'.cell? ⟨w.heap.size, 1, none⟩ = some (.slice aP ps.length cP))
   (exact SK.out _ (by repeat (first | exact BF.out | exact Below.refl _ _ | refine Below.drew ?_)))
   (first
    | (go_at_call 124; refine (LW3.out _ (by repeat (first | exact Below.refl _ _ | refine Below.drew ?_))).mono ?_; rintro e w2 ⟨rfl, hb2⟩; have BF : Hid (Below w1.heap.size w1 w2) := (by first | exact hb2 | exact zab (by repeat (first | exact Below.refl _ _ | refine Below.drew ?_)) hb2 (Nat.le_refl _)); clear hb2))
  all_goals
   have B3 := zaa (zab B1.out BF.out B1.out.size)
   clear x0 x1
   obtain ⟨x0, x1⟩ := SK.out _ BF.out
   have y0 := HZ.out _ B3.out
   clear SK
   go_wp2
   go_ret3
   exact ⟨rfl, (by repeat (first | exact B3.out | refine Below.drew ?_))⟩
 rw [if_pos r] at EL2
 obtain rfl := EL2.out
 have r1 : (zai ws z != 2) = false := by rw [r]; rfl
 clear EL2 r
 generalize zai ws z = kz at *
 go_wp2_with fail
 go_region_held3 (fun w' => w'.cell? ⟨w.heap.size, 0, none⟩ = some (.slice (some ⟨bW, oW, none⟩) ws.length cW) ∧ w'.cell? ⟨w.heap.size, 1, none⟩ = some (.slice aP ps.length cP))
  (exact SK.out _ (by repeat (first | exact BF.out | exact Below.refl _ _ | refine Below.drew ?_)))
  (first
   | (go_at_call 124; refine (LW3.out _ (by repeat (first | exact Below.refl _ _ | refine Below.drew ?_))).mono ?_; rintro e w2 ⟨rfl, hb2⟩; have BF : Hid (Below w1.heap.size w1 w2) := (by first | exact hb2 | exact zab (by repeat (first | exact Below.refl _ _ | refine Below.drew ?_)) hb2 (Nat.le_refl _)); clear hb2))
 all_goals
  have B3 := zaa (zab B1.out BF.out B1.out.size)
  clear x0 x1
  obtain ⟨x0, x1⟩ := SK.out _ BF.out
  have y0 := HZ.out _ B3.out
  have hx := HX.out _ BF.out
  clear SK
  go_wp2_with fail
  go_region_held3 (fun w' => w'.cell? ⟨b, o + n, none⟩ = some (.string x))
   (exact HX.out _ (by repeat (first | exact BF.out | refine Below.drew ?_)))
   (fail)
  all_goals
   go_wp2
   go_ret3
   exact ⟨rfl, (by repeat (first | exact B3.out | refine Below.drew ?_))⟩
end Go.Proofs.YtpakbbdlhlkogaaGreatDoor
