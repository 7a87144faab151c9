/- The law of PlanOp: the walk. -/
import Derived.Test.YtcilodgoognmnaaGreatDoorZBH
import Derived.Test.YtcilodgoognmnaaGreatDoorZAQ
import Derived.Test.YtcilodgoognmnaaGreatDoorZAO
namespace Go.Proofs.YtcilodgoognmnaaGreatDoor
open Go.RowKit
theorem zfw {c w' : World} {b : Nat} {o : Obj} (hb : Below c.heap.size c w') (h : c.heap[b]? = some o) : w'.heap[b]? = some o := (hb.block b (Array.getElem?_eq_some_iff.1 h).1).trans h
theorem zhz (w : World) (o : Obj) : (w.alloc o).drew.heap[w.heap.size]? = some o := zah (w := w) (o := o) rfl
theorem zhq (w : World) (o : Obj) : (w.drew.alloc o).heap[w.heap.size]? = some o := zah (w := w.drew) (o := o) rfl
theorem zbz {w : World} {b : Nat} {o : Obj} (h : w.heap[b]? = some o) : w.drew.heap[b]? = some o := h
theorem OpT.at {w w1 w2 : World} {vS vN : Value} {L : List Mi} {ss : List ByteArray} (h : OpT w1 w2 vS vN L ss) (B : Below w.heap.size w w1) : OpT w w2 vS vN L ss := ⟨h.s.wide B.size (Nat.le_refl _), h.n.wide B.size (Nat.le_refl _), zab B h.b B.size⟩
theorem st_mi : (9 : Nat) ≠ 118 := by decide
theorem opR_len (ws : List Int) (ps : List St) (es : List Int) (qs : List Se) (k : Int) (p t : ByteArray) (g y : Int) : (opR ws ps es qs k p t g y).1.steps.length ≤ 33554432 ∧ (opR ws ps es qs k p t g y).1.names.length ≤ 1048576 := by
 unfold opR
 by_cases c : dvB ws ps es qs = true ∧ opB k p t g y = true
 case neg =>
  rw [if_neg c]
  exact ⟨by simp, by simp⟩
 rw [if_pos c]
 have hi : zax (dvN ws ps es qs) (dvD ws ps es qs) = true := (zmd ws ps es qs).trans c.1
 have pl := (zng c.2).2.1
 show (opI ws ps es qs (dvN ws ps es qs) (dvD ws ps es qs) k p t g y).steps.length ≤ 33554432 ∧ (opI ws ps es qs (dvN ws ps es qs) (dvD ws ps es qs) k p t g y).names.length ≤ 1048576
 unfold opI
 by_cases c6 : k = 6
 ·rw [if_pos c6]
  have := wrR_len ws ps es qs p g y
  rw [zwp pl c.1] at this
  exact ⟨this, by simp⟩
 rw [if_neg c6]
 by_cases c8 : k = 8
 ·rw [if_pos c8]
  exact ⟨by simp, by simp⟩
 rw [if_neg c8]
 by_cases c9 : k = 9
 ·rw [if_pos c9]
  unfold stA
  split <;> exact ⟨by simp, by simp⟩
 rw [if_neg c9]
 by_cases c10 : k = 10
 ·rw [if_pos c10]
  unfold lsA
  split
  ·split
   ·refine ⟨by simp, ?_⟩
    show (zcp _).length ≤ _
    rw [zfx]
    have := names_len (dvD ws ps es qs) (lkI (dvN ws ps es qs) (dvD ws ps es qs) p).1
    have := (zet ws ps es qs).2
    omega
   ·exact ⟨by simp, by simp⟩
  ·exact ⟨by simp, by simp⟩
 rw [if_neg c10]
 refine ⟨?_, by simp⟩
 have a := (uo_at (k := k) (p := p) (t := t) (g := g) (zca.1 hi)).1
 have b := zkj (uoI (dvN ws ps es qs) (dvD ws ps es qs) k p t g).1
 show (zdd _).length ≤ _
 omega
set_option maxRecDepth 100000 in
set_option maxHeartbeats 16000000 in
theorem planOp_law (v : Value) (ws : List Int) (ps : List St) (es : List Int) (qs : List Se) (k : Int) (p t : ByteArray) (g y : Int) (w : World) (h : RdDev w v ws ps es qs) (hwl : ws.length ≤ maxLen) (hpl : ps.length ≤ maxLen) (hel : es.length ≤ maxLen) (hql : qs.length ≤ maxLen) (hps : p.size ≤ maxLen) (hts : t.size ≤ maxLen) (hT : TS w) (hE : ED w) (hF : FD w) (hN : NW w) :
  Calls Tryz.prog 6 #[v, .agg #[.int .i64 k, .string p, .string t, .int .i64 g, .int .i64 y]] w fun e w' => e = .returned (.bool true) ∧ Below w.heap.size w w' := by
 have HRD := zaa h
 obtain ⟨aW, cW, aP, cP, aS, cS, aQ, cQ, rfl, -, -⟩ := h.form
 have CA : Hid (∀ w', Below ((w.alloc (.cells #[.slice aW ws.length cW, .slice aP ps.length cP, .slice aS es.length cS, .slice aQ qs.length cQ] 30)).alloc (.cells #[.int .i64 k, .string p, .string t, .int .i64 g, .int .i64 y] 71)).heap.size ((w.alloc (.cells #[.slice aW ws.length cW, .slice aP ps.length cP, .slice aS es.length cS, .slice aQ qs.length cQ] 30)).alloc (.cells #[.int .i64 k, .string p, .string t, .int .i64 g, .int .i64 y] 71)) w' → (w'.cell? ⟨w.heap.size, 0, none⟩ = some (.slice aW ws.length cW) ∧ w'.cell? ⟨w.heap.size, 1, none⟩ = some (.slice aP ps.length cP) ∧ w'.cell? ⟨w.heap.size, 2, none⟩ = some (.slice aS es.length cS) ∧ w'.cell? ⟨w.heap.size, 3, none⟩ = some (.slice aQ qs.length cQ)) ∧ (w'.cell? ⟨w.heap.size + 1, 0, none⟩ = some (.int .i64 k) ∧ w'.cell? ⟨w.heap.size + 1, 1, none⟩ = some (.string p) ∧ w'.cell? ⟨w.heap.size + 1, 2, none⟩ = some (.string t) ∧ w'.cell? ⟨w.heap.size + 1, 3, none⟩ = some (.int .i64 g) ∧ w'.cell? ⟨w.heap.size + 1, 4, none⟩ = some (.int .i64 y))) := fun w' hb => by
  have q1 : w'.heap[w.heap.size]? = some (.cells #[.slice aW ws.length cW, .slice aP ps.length cP, .slice aS es.length cS, .slice aQ qs.length cQ] 30 (0, 0)) := (hb.block _ (by simp only [World.size_alloc]; omega)).trans (zau (zah rfl))
  have q2 : w'.heap[w.heap.size + 1]? = some (.cells ([.int .i64 k, .string p, .string t, .int .i64 g, .int .i64 y] : List Value).toArray 71 (0, 0)) := (hb.block _ (by simp only [World.size_alloc]; omega)).trans (by
   have := zah (w := w.alloc (.cells #[.slice aW ws.length cW, .slice aP ps.length cP, .slice aS es.length cS, .slice aQ qs.length cQ] 30)) (o := .cells #[.int .i64 k, .string p, .string t, .int .i64 g, .int .i64 y] 71) rfl
   simp only [World.size_alloc] at this
   exact this)
  obtain ⟨x0, x1, x2, x3, -, -, -, -⟩ := zaw q1
  exact ⟨⟨x0, x1, x2, x3⟩, (zae q2 0).1, (zae q2 1).1, (zae q2 2).1, (zae q2 3).1, (zae q2 4).1⟩
 have BW : Hid (Below w.heap.size w ((w.alloc (.cells #[.slice aW ws.length cW, .slice aP ps.length cP, .slice aS es.length cS, .slice aQ qs.length cQ] 30)).alloc (.cells #[.int .i64 k, .string p, .string t, .int .i64 g, .int .i64 y] 71))) := ((Below.refl _ _).alloc (Nat.le_refl _) _).alloc (by simp) _
 have hWz : w.heap.size + 1 < ((w.alloc (.cells #[.slice aW ws.length cW, .slice aP ps.length cP, .slice aS es.length cS, .slice aQ qs.length cQ] 30)).alloc (.cells #[.int .i64 k, .string p, .string t, .int .i64 g, .int .i64 y] 71)).heap.size := by simp only [World.size_alloc]; omega
 have RD : Hid (∀ w', Below ((w.alloc (.cells #[.slice aW ws.length cW, .slice aP ps.length cP, .slice aS es.length cS, .slice aQ qs.length cQ] 30)).alloc (.cells #[.int .i64 k, .string p, .string t, .int .i64 g, .int .i64 y] 71)).heap.size ((w.alloc (.cells #[.slice aW ws.length cW, .slice aP ps.length cP, .slice aS es.length cS, .slice aQ qs.length cQ] 30)).alloc (.cells #[.int .i64 k, .string p, .string t, .int .i64 g, .int .i64 y] 71)) w' → RdDev w' (.agg #[.slice aW ws.length cW, .slice aP ps.length cP, .slice aS es.length cS, .slice aQ qs.length cQ]) ws ps es qs) := fun w' hb => HRD.out.below (zab BW.out hb (by omega))
 have FB : Hid (∀ w', Below ((w.alloc (.cells #[.slice aW ws.length cW, .slice aP ps.length cP, .slice aS es.length cS, .slice aQ qs.length cQ] 30)).alloc (.cells #[.int .i64 k, .string p, .string t, .int .i64 g, .int .i64 y] 71)).heap.size ((w.alloc (.cells #[.slice aW ws.length cW, .slice aP ps.length cP, .slice aS es.length cS, .slice aQ qs.length cQ] 30)).alloc (.cells #[.int .i64 k, .string p, .string t, .int .i64 g, .int .i64 y] 71)) w' → Below w.heap.size w w') := fun w' hb => zab BW.out hb (by omega)
 clear h
 by_cases c0 : 1048576 < ws.length + ps.length + es.length + qs.length
 ·obtain ⟨⟨p0, p1, p2, p3⟩, -⟩ := CA.out _ (Below.refl _ _)
  clear hT hE hF hN
  go_enter Tryz.func6, Tryz.ntmps6
  go_wp2_with fail
  refine (zgl aW aP aS aQ ws.length ps.length es.length qs.length cW cP cS cQ _ hwl hpl hel hql).mono ?_
  rw [if_pos c0]
  rintro e w1 ⟨rfl, hb1⟩
  have B1 := zaa (zab BW.out hb1 BW.out.size)
  clear hb1 p0 p1 p2 p3
  go_wp2
  go_ret
  exact ⟨rfl, B1.out⟩
 have hw : ws.length ≤ 1048576 := by omega
 have hp : ps.length ≤ 1048576 := by omega
 have he : es.length ≤ 1048576 := by omega
 have hq : qs.length ≤ 1048576 := by omega
 obtain ⟨lf, elf⟩ : ∃ lf : Int, lf = 1048576 - ws.length - ps.length - es.length - qs.length := ⟨_, rfl⟩
 have E := zaa (show (if 1048576 < ws.length + ps.length + es.length + qs.length then -1 else 1048576 - ws.length - ps.length - es.length - qs.length : Int) = lf from by rw [if_neg c0, elf])
 have lf0 : 0 ≤ lf := by omega
 have lf1 : lf ≤ 1048576 := by omega
 clear elf c0
 have SZ := zaa (fun w1 => szOp_any k p t g y lf w1 hps hts lf0 lf1)
 by_cases cz : opZ p t lf < 0
 ·generalize opZ p t lf = z at *
  obtain ⟨⟨p0, p1, p2, p3⟩, -⟩ := CA.out _ (Below.refl _ _)
  clear hT hE hF hN
  have lf2 : ¬ lf < 0 := by omega
  go_enter Tryz.func6, Tryz.ntmps6
  go_wp2_with fail
  refine (zgl aW aP aS aQ ws.length ps.length es.length qs.length cW cP cS cQ _ hwl hpl hel hql).mono ?_
  rw [E.out]
  rintro e w1 ⟨rfl, hb1⟩
  have B1 := zaa (zab BW.out hb1 BW.out.size)
  obtain ⟨-, q0, q1, q2, q3, q4⟩ := CA.out _ hb1
  clear hb1 p0 p1 p2 p3
  go_wp2_with fail
  refine (SZ.out _).mono ?_
  rintro e w2 ⟨rfl, hb2⟩
  have B2 := zaa (zab B1.out hb2 B1.out.size)
  clear hb2
  go_wp2
  go_ret
  exact ⟨rfl, B2.out⟩
 have d1 := (opR_len ws ps es qs k p t g y).1
 have d2 := (opR_len ws ps es qs k p t g y).2
 have SC : Hid (∀ v w1, Below w.heap.size w w1 → RdDev w1 v ws ps es qs → Calls Tryz.prog 29 #[v, .agg #[.int .i64 k, .string p, .string t, .int .i64 g, .int .i64 y]] w1 fun e w' => ∃ vS vN, e = .returned (.tuple #[vS, .agg #[.int .i64 (opR ws ps es qs k p t g y).1.code, .int .i64 (opR ws ps es qs k p t g y).1.val, vN], .int .i64 (opR ws ps es qs k p t g y).2]) ∧ OpT w1 w' vS vN (opR ws ps es qs k p t g y).1.steps (opR ws ps es qs k p t g y).1.names) := fun v w1 _ h => by
  refine (zqv v ws ps es qs k p t g y w1 h hw hp he hq).mono ?_
  rintro e w' ⟨vS, vA, rfl, vN, rfl, a, b, c⟩
  exact ⟨vS, vN, rfl, a, b, c⟩
 have IC : Hid (∀ v w1, Below w.heap.size w w1 → RdDev w1 v ws ps es qs → Calls Tryz.prog 31 #[v, .agg #[.int .i64 k, .string p, .string t, .int .i64 g, .int .i64 y]] w1 fun e w' => ∃ vS vN, e = .returned (.tuple #[vS, .agg #[.int .i64 (opR ws ps es qs k p t g y).1.code, .int .i64 (opR ws ps es qs k p t g y).1.val, vN], .int .i64 (opR ws ps es qs k p t g y).2]) ∧ OpT w1 w' vS vN (opR ws ps es qs k p t g y).1.steps (opR ws ps es qs k p t g y).1.names) := fun v w1 hb h => by
  refine (zqi v ws ps es qs k p t g y w1 h hw hp he hq (hT.below hb) (hE.below hb) (hF.below hb) (hN.below hb)).mono ?_
  rintro e w' ⟨vS, vA, rfl, vN, rfl, a, b, c⟩
  exact ⟨vS, vN, rfl, a, b, c⟩
 clear hT hE hF hN
 generalize opR ws ps es qs k p t g y = R at *
 obtain ⟨⟨L, cd, vl, NN⟩, rc⟩ := R
 simp only at SC IC d1 d2
 generalize opZ p t lf = z at *
 have lf2 : ¬ lf < 0 := by omega
 have B_0 : Hid (Below ((w.alloc (.cells #[.slice aW ws.length cW, .slice aP ps.length cP, .slice aS es.length cS, .slice aQ qs.length cQ] 30)).alloc (.cells #[.int .i64 k, .string p, .string t, .int .i64 g, .int .i64 y] 71)).heap.size ((w.alloc (.cells #[.slice aW ws.length cW, .slice aP ps.length cP, .slice aS es.length cS, .slice aQ qs.length cQ] 30)).alloc (.cells #[.int .i64 k, .string p, .string t, .int .i64 g, .int .i64 y] 71)) ((w.alloc (.cells #[.slice aW ws.length cW, .slice aP ps.length cP, .slice aS es.length cS, .slice aQ qs.length cQ] 30)).alloc (.cells #[.int .i64 k, .string p, .string t, .int .i64 g, .int .i64 y] 71))) := Below.refl _ _
 go_enter Tryz.func6, Tryz.ntmps6
 obtain ⟨p0, p1, p2, p3⟩ := (CA.out _ B_0.out).1
 go_wp2_with fail
 refine (zgl aW aP aS aQ ws.length ps.length es.length qs.length cW cP cS cQ ((w.alloc (.cells #[.slice aW ws.length cW, .slice aP ps.length cP, .slice aS es.length cS, .slice aQ qs.length cQ] 30)).alloc (.cells #[.int .i64 k, .string p, .string t, .int .i64 g, .int .i64 y] 71)) hwl hpl hel hql).mono ?_
 rw [E.out]
 rintro e w1 ⟨rfl, hb1⟩
 have hz1 : ((w.alloc (.cells #[.slice aW ws.length cW, .slice aP ps.length cP, .slice aS es.length cS, .slice aQ qs.length cQ] 30)).alloc (.cells #[.int .i64 k, .string p, .string t, .int .i64 g, .int .i64 y] 71)).heap.size ≤ w1.heap.size := hb1.size
 have B_1 := zaa (zab B_0.out hb1 (by omega))
 clear B_0 hb1
 clear p0 p1 p2 p3
 obtain ⟨q0, q1, q2, q3, q4⟩ := (CA.out _ B_1.out).2
 go_wp2_with fail
 refine (SZ.out w1).mono ?_
 rintro e w2 ⟨rfl, hb2⟩
 have hz2 : w1.heap.size ≤ w2.heap.size := hb2.size
 have B_2 := zaa (zab B_1.out hb2 (by omega))
 clear B_1 hb2
 clear q0 q1 q2 q3 q4
 clear SZ
 have SK : Hid (∀ w', Below w2.heap.size w2 w' → (w'.cell? ⟨w.heap.size, 0, none⟩ = some (.slice aW ws.length cW) ∧ w'.cell? ⟨w.heap.size, 1, none⟩ = some (.slice aP ps.length cP) ∧ w'.cell? ⟨w.heap.size, 2, none⟩ = some (.slice aS es.length cS) ∧ w'.cell? ⟨w.heap.size, 3, none⟩ = some (.slice aQ qs.length cQ)) ∧ (w'.cell? ⟨w.heap.size + 1, 0, none⟩ = some (.int .i64 k) ∧ w'.cell? ⟨w.heap.size + 1, 1, none⟩ = some (.string p) ∧ w'.cell? ⟨w.heap.size + 1, 2, none⟩ = some (.string t) ∧ w'.cell? ⟨w.heap.size + 1, 3, none⟩ = some (.int .i64 g) ∧ w'.cell? ⟨w.heap.size + 1, 4, none⟩ = some (.int .i64 y))) := fun w' hb => ⟨(CA.out w' (zab B_2.out hb (by omega))).1, (CA.out w' (zab B_2.out hb (by omega))).2⟩
 go_upto_region 8 with fail
 go_cut [6, 7, 8] (fun s q c wx => ∃ (aS aN : Option Addr) (cS cN bx : Nat), s = .slice aS L.length cS ∧ q = .pointer (some ⟨bx, 0, none⟩) ∧ c = .int .i64 rc ∧ Hid (CutO w2 wx (.slice aS L.length cS) (.slice aN NN.length cN) bx ⟨L, cd, vl, NN⟩))
 case first =>
  as_aux_lemma =>
   obtain ⟨⟨p0, p1, p2, p3⟩, q0, q1, q2, q3, q4⟩ := SK.out _ (Below.refl _ _)
   go_region_held3 (fun w' => (w'.cell? ⟨w.heap.size, 0, none⟩ = some (.slice aW ws.length cW) ∧ w'.cell? ⟨w.heap.size, 1, none⟩ = some (.slice aP ps.length cP) ∧ w'.cell? ⟨w.heap.size, 2, none⟩ = some (.slice aS es.length cS) ∧ w'.cell? ⟨w.heap.size, 3, none⟩ = some (.slice aQ qs.length cQ)) ∧ (w'.cell? ⟨w.heap.size + 1, 0, none⟩ = some (.int .i64 k) ∧ w'.cell? ⟨w.heap.size + 1, 1, none⟩ = some (.string p) ∧ w'.cell? ⟨w.heap.size + 1, 2, none⟩ = some (.string t) ∧ w'.cell? ⟨w.heap.size + 1, 3, none⟩ = some (.int .i64 g) ∧ w'.cell? ⟨w.heap.size + 1, 4, none⟩ = some (.int .i64 y)))
    (exact SK.out _ (by repeat (first | with_reducible exact BC.out | with_reducible exact BB.out | with_reducible exact BA.out | with_reducible exact Below.refl _ _ | with_reducible refine zak ?_ _ | with_reducible refine Below.drew ?_ | with_reducible refine Below.setCell ?_ (by first | with_reducible exact Nat.le_refl _ | with_reducible exact BA.out.size | with_reducible exact BB.out.size | with_reducible exact BC.out.size | (simp only; omega)) _)))
    (first
     | (go_at_call 10; refine (zei _ ws ps es qs _ (RD.out _ (zab B_2.out (by repeat (first | with_reducible exact BC.out | with_reducible exact BB.out | with_reducible exact BA.out | with_reducible exact Below.refl _ _ | with_reducible refine zak ?_ _ | with_reducible refine Below.drew ?_)) (by omega))) hw hp he hq).mono ?_; rintro e wa ⟨va, rfl, hra, hba⟩; have BA : Hid (Below w2.heap.size w2 wa) := zab (b := _) (by repeat (first | with_reducible exact BC.out | with_reducible exact BB.out | with_reducible exact BA.out | with_reducible exact Below.refl _ _ | with_reducible refine zak ?_ _ | with_reducible refine Below.drew ?_)) hba (Below.size (B := w2.heap.size) (by repeat (first | with_reducible exact BC.out | with_reducible exact BB.out | with_reducible exact BA.out | with_reducible exact Below.refl _ _ | with_reducible refine zak ?_ _ | with_reducible refine Below.drew ?_))); obtain ⟨aWa, cWa, aPa, cPa, aSa, cSa, aQa, cQa, rfl, -, -⟩ := hra.rd.form; have RA := zaa hra.rd; (first | (have VB : Hid (wa.heap[w2.heap.size]? = some (.cells #[.int .i64 0, .int .i64 0, .slice none 0 0] 75 (0, 0))) := zfw hba (by first | with_reducible exact zah rfl | with_reducible exact zhz _ _ | with_reducible exact zhq _ _); have GB : w2.heap.size ≤ w2.heap.size := Nat.le_refl _) | skip); clear hra hba)
     | (go_at_call 30; refine (zst k p t g y _).mono ?_; rintro e wb ⟨rfl, hbb⟩; have BB : Hid (Below w2.heap.size w2 wb) := zab (b := _) (by repeat (first | with_reducible exact BC.out | with_reducible exact BB.out | with_reducible exact BA.out | with_reducible exact Below.refl _ _ | with_reducible refine zak ?_ _ | with_reducible refine Below.drew ?_)) hbb (Below.size (B := w2.heap.size) (by repeat (first | with_reducible exact BC.out | with_reducible exact BB.out | with_reducible exact BA.out | with_reducible exact Below.refl _ _ | with_reducible refine zak ?_ _ | with_reducible refine Below.drew ?_))); have RB := zaa ((RA.out.below (by repeat (first | with_reducible exact Below.refl _ _ | with_reducible refine zak ?_ _ | with_reducible refine Below.drew ?_))).below hbb); (first | (have VB := zaa (zfw hbb (by first | with_reducible exact VB.out | with_reducible exact zbz VB.out))) | (have VB : Hid (wb.heap[wa.heap.size]? = some (.cells #[.int .i64 0, .int .i64 0, .slice none 0 0] 75 (0, 0))) := zfw hbb (by first | with_reducible exact zah rfl | with_reducible exact zhz _ _ | with_reducible exact zhq _ _); have GB : w2.heap.size ≤ wa.heap.size := BA.out.size) | skip); clear hbb)
     | (go_at_call 29; refine (SC.out _ _ (FB.out _ (zab B_2.out (by repeat (first | with_reducible exact BC.out | with_reducible exact BB.out | with_reducible exact BA.out | with_reducible exact Below.refl _ _ | with_reducible refine zak ?_ _ | with_reducible refine Below.drew ?_)) (by omega))) (RB.out.below (by repeat (first | with_reducible exact Below.refl _ _ | with_reducible refine zak ?_ _ | with_reducible refine Below.drew ?_)))).mono ?_; rintro e wc ⟨vS, vN, rfl, hT⟩; have BC : Hid (Below w2.heap.size w2 wc) := zab (b := _) (by repeat (first | with_reducible exact BC.out | with_reducible exact BB.out | with_reducible exact BA.out | with_reducible exact Below.refl _ _ | with_reducible refine zak ?_ _ | with_reducible refine Below.drew ?_)) hT.b (Below.size (B := w2.heap.size) (by repeat (first | with_reducible exact BC.out | with_reducible exact BB.out | with_reducible exact BA.out | with_reducible exact Below.refl _ _ | with_reducible refine zak ?_ _ | with_reducible refine Below.drew ?_))); have TC := zaa (hT.at (w := w2) (by repeat (first | with_reducible exact BC.out | with_reducible exact BB.out | with_reducible exact BA.out | with_reducible exact Below.refl _ _ | with_reducible refine zak ?_ _ | with_reducible refine Below.drew ?_))); obtain ⟨-, aS, cS, hvS, -⟩ := hT.s.rd; subst hvS; obtain ⟨-, aN, cN, hvN, -⟩ := hT.n.rd; subst hvN; (first | (have VB := zaa (zfw hT.b (by first | with_reducible exact VB.out | with_reducible exact zbz VB.out)); obtain ⟨z0, z1, z2, z3, z4, z5⟩ := tri VB.out) | (have VB : Hid (wc.heap[wb.heap.size]? = some (.cells #[.int .i64 0, .int .i64 0, .slice none 0 0] 75 (0, 0))) := zfw hT.b (by first | with_reducible exact zah rfl | with_reducible exact zhz _ _ | with_reducible exact zhq _ _); have GB : w2.heap.size ≤ wb.heap.size := BB.out.size; obtain ⟨z0, z1, z2, z3, z4, z5⟩ := tri VB.out) | skip); clear hT))
   all_goals
    go_wp2_with fail
    go_meet
    first
     | with_reducible exact ⟨aS, aN, cS, cN, _, rfl, rfl, rfl, CutO.new (A := ⟨L, cd, vl, NN⟩) TC.out⟩
     | with_reducible exact ⟨aS, aN, cS, cN, _, rfl, rfl, rfl, (CutO.new (A := ⟨L, cd, vl, NN⟩) TC.out).drew⟩
     | with_reducible exact ⟨aS, aN, cS, cN, _, rfl, rfl, rfl, CutO.new (A := ⟨L, cd, vl, NN⟩) TC.out.drew⟩
     | with_reducible exact ⟨aS, aN, cS, cN, _, rfl, rfl, rfl, (CutO.new (A := ⟨L, cd, vl, NN⟩) TC.out.drew).drew⟩
     | with_reducible exact ⟨aS, aN, cS, cN, _, rfl, rfl, rfl, CutO.old (A := ⟨L, cd, vl, NN⟩) TC.out VB.out GB⟩
     | with_reducible exact ⟨aS, aN, cS, cN, _, rfl, rfl, rfl, (CutO.old (A := ⟨L, cd, vl, NN⟩) TC.out VB.out GB).drew⟩
     | with_reducible exact ⟨aS, aN, cS, cN, _, rfl, rfl, rfl, CutO.old (A := ⟨L, cd, vl, NN⟩) TC.out.drew (zbz VB.out) GB⟩
     | with_reducible exact ⟨aS, aN, cS, cN, _, rfl, rfl, rfl, (CutO.old (A := ⟨L, cd, vl, NN⟩) TC.out.drew (zbz VB.out) GB).drew⟩
     | (refine ⟨aS, aN, cS, cN, _, rfl, rfl, rfl, ?_⟩; unfold Hid; first | with_reducible exact CutO.new (A := ⟨L, cd, vl, NN⟩) TC.out | with_reducible exact (CutO.new (A := ⟨L, cd, vl, NN⟩) TC.out).drew | with_reducible exact CutO.new (A := ⟨L, cd, vl, NN⟩) TC.out.drew | with_reducible exact (CutO.new (A := ⟨L, cd, vl, NN⟩) TC.out.drew).drew | with_reducible exact CutO.old (A := ⟨L, cd, vl, NN⟩) TC.out VB.out GB | with_reducible exact (CutO.old (A := ⟨L, cd, vl, NN⟩) TC.out VB.out GB).drew | with_reducible exact CutO.old (A := ⟨L, cd, vl, NN⟩) TC.out.drew (zbz VB.out) GB | with_reducible exact (CutO.old (A := ⟨L, cd, vl, NN⟩) TC.out.drew (zbz VB.out) GB).drew)
 case rest =>
 obtain ⟨aSS, aNS, cSS, cNS, bS, rfl, rfl, rfl, CU⟩ := hcut
 rename World => w3
 have hb3 := CU.out.t.b
 clear SK
 have ltS : bS < w3.heap.size := (Array.getElem?_eq_some_iff.1 CU.out.box).1
 have geS : w2.heap.size ≤ bS := CU.out.bx0
 have hz3 : w2.heap.size ≤ w3.heap.size := hb3.size
 have B_3 := zaa (zab B_2.out hb3 (by omega))
 clear B_2 hb3
 have SS_3 := zaa CU.out.t.s
 have NS_3 := zaa CU.out.t.n
 have VS_3 := zaa CU.out.box
 simp only at SS_3 NS_3 VS_3
 clear CU
 clear SC
 obtain ⟨p0, p1, p2, p3⟩ := (CA.out _ B_3.out).1
 go_wp2_with fail
 refine (zei _ ws ps es qs w3 (RD.out w3 B_3.out) hw hp he hq).mono ?_
 rintro e w4 ⟨v4, rfl, hr4, hb4⟩
 obtain ⟨aWx, cWx, aPx, cPx, aSx, cSx, aQx, cQx, rfl, -, -⟩ := hr4.rd.form
 have hz4 : w3.heap.size ≤ w4.heap.size := hb4.size
 have B_4 := zaa (zab B_3.out hb4 (by omega))
 have SS_4 := zaa (SS_3.out.below hb4 (by omega))
 have NS_4 := zaa (NS_3.out.below hb4 (by omega))
 have VS_4 := zaa ((hb4.block _ (by omega)).trans VS_3.out)
 clear B_3 hb4 SS_3 NS_3 VS_3
 have RX_4 := zaa hr4
 clear hr4
 clear p0 p1 p2 p3
 obtain ⟨w5, hA5⟩ : ∃ w5 : World, w5 = w4.alloc (.cells #[.slice aWx ws.length cWx, .slice aPx ps.length cPx, .slice aSx es.length cSx, .slice aQx qs.length cQx] 41) := ⟨_, rfl⟩
 have hb5 : Below w4.heap.size w4 w5 := by rw [hA5]; exact (Below.refl _ _).alloc (Nat.le_refl _) _
 obtain ⟨bX, hbX⟩ : ∃ bX : Nat, bX = w4.heap.size := ⟨_, rfl⟩
 have VX_5 : Hid (w5.heap[bX]? = some (.cells #[.slice aWx ws.length cWx, .slice aPx ps.length cPx, .slice aSx es.length cSx, .slice aQx qs.length cQx] 41 (0, 0))) := by rw [hA5, hbX]; exact zah rfl
 have ltX : bX < w5.heap.size := (Array.getElem?_eq_some_iff.1 VX_5.out).1
 have hz5 : w4.heap.size ≤ w5.heap.size := hb5.size
 have B_5 := zaa (zab B_4.out hb5 (by omega))
 have SS_5 := zaa (SS_4.out.below hb5 (by omega))
 have NS_5 := zaa (NS_4.out.below hb5 (by omega))
 have RX_5 := zaa (RX_4.out.below hb5 (by omega))
 have VS_5 := zaa ((hb5.block _ (by omega)).trans VS_4.out)
 clear B_4 hb5 SS_4 NS_4 RX_4 VS_4
 go_upto_region 10 with fail
 rw [← hA5, ← hbX]
 clear hA5 hbX
 have SK : Hid (∀ w', Below w5.heap.size w5 w' → (w'.cell? ⟨bX, 0, none⟩ = some (.slice aWx ws.length cWx) ∧ w'.cell? ⟨bX, 1, none⟩ = some (.slice aPx ps.length cPx) ∧ w'.cell? ⟨bX, 2, none⟩ = some (.slice aSx es.length cSx) ∧ w'.cell? ⟨bX, 3, none⟩ = some (.slice aQx qs.length cQx)) ∧ (w'.cell? ⟨w.heap.size + 1, 0, none⟩ = some (.int .i64 k) ∧ w'.cell? ⟨w.heap.size + 1, 1, none⟩ = some (.string p) ∧ w'.cell? ⟨w.heap.size + 1, 2, none⟩ = some (.string t) ∧ w'.cell? ⟨w.heap.size + 1, 3, none⟩ = some (.int .i64 g) ∧ w'.cell? ⟨w.heap.size + 1, 4, none⟩ = some (.int .i64 y))) := fun w' hb => ⟨by obtain ⟨a, b, c, d, -, -, -, -⟩ := zaw ((hb.block _ (by omega)).trans VX_5.out); exact ⟨a, b, c, d⟩, (CA.out w' (zab B_5.out hb (by omega))).2⟩
 go_cut [10, 11, 12] (fun s q c wx => ∃ (aS aN : Option Addr) (cS cN bx : Nat), s = .slice aS L.length cS ∧ q = .pointer (some ⟨bx, 0, none⟩) ∧ c = .int .i64 rc ∧ Hid (CutO w5 wx (.slice aS L.length cS) (.slice aN NN.length cN) bx ⟨L, cd, vl, NN⟩))
 case first =>
  as_aux_lemma =>
   obtain ⟨⟨p0, p1, p2, p3⟩, q0, q1, q2, q3, q4⟩ := SK.out _ (Below.refl _ _)
   go_region_held3 (fun w' => (w'.cell? ⟨bX, 0, none⟩ = some (.slice aWx ws.length cWx) ∧ w'.cell? ⟨bX, 1, none⟩ = some (.slice aPx ps.length cPx) ∧ w'.cell? ⟨bX, 2, none⟩ = some (.slice aSx es.length cSx) ∧ w'.cell? ⟨bX, 3, none⟩ = some (.slice aQx qs.length cQx)) ∧ (w'.cell? ⟨w.heap.size + 1, 0, none⟩ = some (.int .i64 k) ∧ w'.cell? ⟨w.heap.size + 1, 1, none⟩ = some (.string p) ∧ w'.cell? ⟨w.heap.size + 1, 2, none⟩ = some (.string t) ∧ w'.cell? ⟨w.heap.size + 1, 3, none⟩ = some (.int .i64 g) ∧ w'.cell? ⟨w.heap.size + 1, 4, none⟩ = some (.int .i64 y)))
    (exact SK.out _ (by repeat (first | with_reducible exact BC.out | with_reducible exact BB.out | with_reducible exact BA.out | with_reducible exact Below.refl _ _ | with_reducible refine zak ?_ _ | with_reducible refine Below.drew ?_ | with_reducible refine Below.setCell ?_ (by first | with_reducible exact Nat.le_refl _ | with_reducible exact BA.out.size | with_reducible exact BB.out.size | with_reducible exact BC.out.size | (simp only; omega)) _)))
    (first
     | (go_at_call 30; refine (zst k p t g y _).mono ?_; rintro e wb ⟨rfl, hbb⟩; have BB : Hid (Below w5.heap.size w5 wb) := zab (b := _) (by repeat (first | with_reducible exact BC.out | with_reducible exact BB.out | with_reducible exact BA.out | with_reducible exact Below.refl _ _ | with_reducible refine zak ?_ _ | with_reducible refine Below.drew ?_)) hbb (Below.size (B := w5.heap.size) (by repeat (first | with_reducible exact BC.out | with_reducible exact BB.out | with_reducible exact BA.out | with_reducible exact Below.refl _ _ | with_reducible refine zak ?_ _ | with_reducible refine Below.drew ?_))); have RB := zaa ((RX_5.out.rd.below (by repeat (first | with_reducible exact Below.refl _ _ | with_reducible refine zak ?_ _ | with_reducible refine Below.drew ?_))).below hbb); (first | (have VB : Hid (wb.heap[w5.heap.size]? = some (.cells #[.int .i64 0, .int .i64 0, .slice none 0 0] 75 (0, 0))) := zfw hbb (by first | with_reducible exact zah rfl | with_reducible exact zhz _ _ | with_reducible exact zhq _ _); have GB : w5.heap.size ≤ w5.heap.size := Nat.le_refl _) | skip); clear hbb)
     | (go_at_call 31; refine (IC.out _ _ (FB.out _ (zab B_5.out (by repeat (first | with_reducible exact BC.out | with_reducible exact BB.out | with_reducible exact BA.out | with_reducible exact Below.refl _ _ | with_reducible refine zak ?_ _ | with_reducible refine Below.drew ?_)) (by omega))) (RB.out.below (by repeat (first | with_reducible exact Below.refl _ _ | with_reducible refine zak ?_ _ | with_reducible refine Below.drew ?_)))).mono ?_; rintro e wc ⟨vS, vN, rfl, hT⟩; have BC : Hid (Below w5.heap.size w5 wc) := zab (b := _) (by repeat (first | with_reducible exact BC.out | with_reducible exact BB.out | with_reducible exact BA.out | with_reducible exact Below.refl _ _ | with_reducible refine zak ?_ _ | with_reducible refine Below.drew ?_)) hT.b (Below.size (B := w5.heap.size) (by repeat (first | with_reducible exact BC.out | with_reducible exact BB.out | with_reducible exact BA.out | with_reducible exact Below.refl _ _ | with_reducible refine zak ?_ _ | with_reducible refine Below.drew ?_))); have TC := zaa (hT.at (w := w5) (by repeat (first | with_reducible exact BC.out | with_reducible exact BB.out | with_reducible exact BA.out | with_reducible exact Below.refl _ _ | with_reducible refine zak ?_ _ | with_reducible refine Below.drew ?_))); obtain ⟨-, aS, cS, hvS, -⟩ := hT.s.rd; subst hvS; obtain ⟨-, aN, cN, hvN, -⟩ := hT.n.rd; subst hvN; (first | (have VB := zaa (zfw hT.b (by first | with_reducible exact VB.out | with_reducible exact zbz VB.out)); obtain ⟨z0, z1, z2, z3, z4, z5⟩ := tri VB.out) | (have VB : Hid (wc.heap[wb.heap.size]? = some (.cells #[.int .i64 0, .int .i64 0, .slice none 0 0] 75 (0, 0))) := zfw hT.b (by first | with_reducible exact zah rfl | with_reducible exact zhz _ _ | with_reducible exact zhq _ _); have GB : w5.heap.size ≤ wb.heap.size := BB.out.size; obtain ⟨z0, z1, z2, z3, z4, z5⟩ := tri VB.out) | skip); clear hT))
   all_goals
    go_wp2_with fail
    go_meet
    first
     | with_reducible exact ⟨aS, aN, cS, cN, _, rfl, rfl, rfl, CutO.new (A := ⟨L, cd, vl, NN⟩) TC.out⟩
     | with_reducible exact ⟨aS, aN, cS, cN, _, rfl, rfl, rfl, (CutO.new (A := ⟨L, cd, vl, NN⟩) TC.out).drew⟩
     | with_reducible exact ⟨aS, aN, cS, cN, _, rfl, rfl, rfl, CutO.new (A := ⟨L, cd, vl, NN⟩) TC.out.drew⟩
     | with_reducible exact ⟨aS, aN, cS, cN, _, rfl, rfl, rfl, (CutO.new (A := ⟨L, cd, vl, NN⟩) TC.out.drew).drew⟩
     | with_reducible exact ⟨aS, aN, cS, cN, _, rfl, rfl, rfl, CutO.old (A := ⟨L, cd, vl, NN⟩) TC.out VB.out GB⟩
     | with_reducible exact ⟨aS, aN, cS, cN, _, rfl, rfl, rfl, (CutO.old (A := ⟨L, cd, vl, NN⟩) TC.out VB.out GB).drew⟩
     | with_reducible exact ⟨aS, aN, cS, cN, _, rfl, rfl, rfl, CutO.old (A := ⟨L, cd, vl, NN⟩) TC.out.drew (zbz VB.out) GB⟩
     | with_reducible exact ⟨aS, aN, cS, cN, _, rfl, rfl, rfl, (CutO.old (A := ⟨L, cd, vl, NN⟩) TC.out.drew (zbz VB.out) GB).drew⟩
     | (refine ⟨aS, aN, cS, cN, _, rfl, rfl, rfl, ?_⟩; unfold Hid; first | with_reducible exact CutO.new (A := ⟨L, cd, vl, NN⟩) TC.out | with_reducible exact (CutO.new (A := ⟨L, cd, vl, NN⟩) TC.out).drew | with_reducible exact CutO.new (A := ⟨L, cd, vl, NN⟩) TC.out.drew | with_reducible exact (CutO.new (A := ⟨L, cd, vl, NN⟩) TC.out.drew).drew | with_reducible exact CutO.old (A := ⟨L, cd, vl, NN⟩) TC.out VB.out GB | with_reducible exact (CutO.old (A := ⟨L, cd, vl, NN⟩) TC.out VB.out GB).drew | with_reducible exact CutO.old (A := ⟨L, cd, vl, NN⟩) TC.out.drew (zbz VB.out) GB | with_reducible exact (CutO.old (A := ⟨L, cd, vl, NN⟩) TC.out.drew (zbz VB.out) GB).drew)
 case rest =>
 obtain ⟨aSG, aNG, cSG, cNG, bG, rfl, rfl, rfl, CU⟩ := hcut
 rename World => w6
 have hb6 := CU.out.t.b
 clear SK
 have ltG : bG < w6.heap.size := (Array.getElem?_eq_some_iff.1 CU.out.box).1
 have geG : w5.heap.size ≤ bG := CU.out.bx0
 have hz6 : w5.heap.size ≤ w6.heap.size := hb6.size
 have B_6 := zaa (zab B_5.out hb6 (by omega))
 have SS_6 := zaa (SS_5.out.below hb6 (by omega))
 have NS_6 := zaa (NS_5.out.below hb6 (by omega))
 have RX_6 := zaa (RX_5.out.below hb6 (by omega))
 have VS_6 := zaa ((hb6.block _ (by omega)).trans VS_5.out)
 have VX_6 := zaa ((hb6.block _ (by omega)).trans VX_5.out)
 clear B_5 hb6 SS_5 NS_5 RX_5 VS_5 VX_5
 have SG_6 := zaa CU.out.t.s
 have NG_6 := zaa CU.out.t.n
 have VG_6 := zaa CU.out.box
 simp only at SG_6 NG_6 VG_6
 clear CU
 go_wp2_with fail
 refine (zgv _ _ L w6 SG_6.out.rd SS_6.out.rd (by omega)).mono ?_
 rintro e w7 ⟨rfl, hb7⟩
 have hz7 : w6.heap.size ≤ w7.heap.size := hb7.size
 have B_7 := zaa (zab B_6.out hb7 (by omega))
 have SS_7 := zaa (SS_6.out.below hb7 (by omega))
 have NS_7 := zaa (NS_6.out.below hb7 (by omega))
 have RX_7 := zaa (RX_6.out.below hb7 (by omega))
 have SG_7 := zaa (SG_6.out.below hb7 (by omega))
 have NG_7 := zaa (NG_6.out.below hb7 (by omega))
 have VS_7 := zaa ((hb7.block _ (by omega)).trans VS_6.out)
 have VX_7 := zaa ((hb7.block _ (by omega)).trans VX_6.out)
 have VG_7 := zaa ((hb7.block _ (by omega)).trans VG_6.out)
 clear B_6 hb7 SS_6 NS_6 RX_6 SG_6 NG_6 VS_6 VX_6 VG_6
 obtain ⟨f0, f1, f2, -, -, -⟩ := tri VG_7.out
 obtain ⟨h0, h1, h2, -, -, -⟩ := tri VS_7.out
 go_wp2_with fail
 refine (zgp cd vl _ _ NN w7 NG_7.out.rd NS_7.out.rd (by omega)).mono ?_
 rintro e w8 ⟨rfl, hb8⟩
 have hz8 : w7.heap.size ≤ w8.heap.size := hb8.size
 have B_8 := zaa (zab B_7.out hb8 (by omega))
 have SS_8 := zaa (SS_7.out.below hb8 (by omega))
 have NS_8 := zaa (NS_7.out.below hb8 (by omega))
 have RX_8 := zaa (RX_7.out.below hb8 (by omega))
 have SG_8 := zaa (SG_7.out.below hb8 (by omega))
 have NG_8 := zaa (NG_7.out.below hb8 (by omega))
 have VS_8 := zaa ((hb8.block _ (by omega)).trans VS_7.out)
 have VX_8 := zaa ((hb8.block _ (by omega)).trans VX_7.out)
 have VG_8 := zaa ((hb8.block _ (by omega)).trans VG_7.out)
 clear B_7 hb8 SS_7 NS_7 RX_7 SG_7 NG_7 VS_7 VX_7 VG_7
 clear f0 f1 f2 h0 h1 h2
 have SK : Hid (∀ w', Below w8.heap.size w8 w' → (w'.cell? ⟨bX, 0, none⟩ = some (.slice aWx ws.length cWx) ∧ w'.cell? ⟨bX, 1, none⟩ = some (.slice aPx ps.length cPx) ∧ w'.cell? ⟨bX, 2, none⟩ = some (.slice aSx es.length cSx) ∧ w'.cell? ⟨bX, 3, none⟩ = some (.slice aQx qs.length cQx)) ∧ w'.cell? ⟨w.heap.size, 0, none⟩ = some (.slice aW ws.length cW) ∧ w'.cell? ⟨w.heap.size, 1, none⟩ = some (.slice aP ps.length cP) ∧ w'.cell? ⟨w.heap.size, 2, none⟩ = some (.slice aS es.length cS) ∧ w'.cell? ⟨w.heap.size, 3, none⟩ = some (.slice aQ qs.length cQ)) := fun w' hb => ⟨by obtain ⟨a, b, c, d, -, -, -, -⟩ := zaw ((hb.block _ (by omega)).trans VX_8.out); exact ⟨a, b, c, d⟩, (CA.out w' (zab B_8.out hb (by omega))).1⟩
 go_upto_region 13 with fail
 go_cut [67] (fun s wx => s = .bool false ∧ Below w8.heap.size w8 wx)
 case first =>
  as_aux_lemma =>
   obtain ⟨⟨y0, y1, y2, y3⟩, p0, p1, p2, p3⟩ := SK.out _ (Below.refl _ _)
   go_region_held3 (fun w' => (w'.cell? ⟨bX, 0, none⟩ = some (.slice aWx ws.length cWx) ∧ w'.cell? ⟨bX, 1, none⟩ = some (.slice aPx ps.length cPx) ∧ w'.cell? ⟨bX, 2, none⟩ = some (.slice aSx es.length cSx) ∧ w'.cell? ⟨bX, 3, none⟩ = some (.slice aQx qs.length cQx)) ∧ w'.cell? ⟨w.heap.size, 0, none⟩ = some (.slice aW ws.length cW) ∧ w'.cell? ⟨w.heap.size, 1, none⟩ = some (.slice aP ps.length cP) ∧ w'.cell? ⟨w.heap.size, 2, none⟩ = some (.slice aS es.length cS) ∧ w'.cell? ⟨w.heap.size, 3, none⟩ = some (.slice aQ qs.length cQ))
    (exact SK.out _ (by repeat (first | exact BE.out | exact BF.out | exact Below.refl _ _ | refine Below.drew ?_)))
    (first
     | (go_at_call 10; refine (zei _ ws ps es qs _ (RD.out _ (zab B_8.out (by repeat (first | exact Below.refl _ _ | refine Below.drew ?_)) (by omega))) hw hp he hq).mono ?_; rintro e wt ⟨vt, rfl, hrt, hbt⟩; have BF : Hid (Below w8.heap.size w8 wt) := (by first | exact hbt | exact zab (by repeat (first | exact Below.refl _ _ | refine Below.drew ?_)) hbt (Nat.le_refl _)); obtain ⟨aWt, cWt, aPt, cPt, aSt, cSt, aQt, cQt, rfl, -, -⟩ := hrt.rd.form; have RT := zaa hrt.rd; clear hrt hbt)
     | (go_at_call 12; refine (zqr _ _ ws ps es qs _ (RX_8.out.rd.below (zab BF.out (by repeat (first | exact Below.refl _ _ | refine Below.drew ?_)) BF.out.size)) (RT.out.below (by repeat (first | exact Below.refl _ _ | refine Below.drew ?_))) (by omega) (by omega) (by omega) (by omega)).mono ?_; rintro e wu ⟨rfl, hbu⟩; have BE : Hid (Below w8.heap.size w8 wu) := zab BF.out (by first | exact hbu | exact zab (by repeat (first | exact Below.refl _ _ | refine Below.drew ?_)) hbu (Nat.le_refl _)) BF.out.size; clear hbu))
   all_goals
    go_wp2_with fail
    go_meet
    exact ⟨rfl, (by repeat (first | exact BE.out | refine Below.drew ?_))⟩
 case rest =>
 obtain ⟨rfl, hb9⟩ := hcut
 rename World => w9
 clear SK
 have hz9 : w8.heap.size ≤ w9.heap.size := hb9.size
 have B_9 := zaa (zab B_8.out hb9 (by omega))
 have SS_9 := zaa (SS_8.out.below hb9 (by omega))
 have NS_9 := zaa (NS_8.out.below hb9 (by omega))
 have RX_9 := zaa (RX_8.out.below hb9 (by omega))
 have SG_9 := zaa (SG_8.out.below hb9 (by omega))
 have NG_9 := zaa (NG_8.out.below hb9 (by omega))
 have VS_9 := zaa ((hb9.block _ (by omega)).trans VS_8.out)
 have VX_9 := zaa ((hb9.block _ (by omega)).trans VX_8.out)
 have VG_9 := zaa ((hb9.block _ (by omega)).trans VG_8.out)
 clear B_8 hb9 SS_8 NS_8 RX_8 SG_8 NG_8 VS_8 VX_8 VG_8
 obtain ⟨y0, y1, y2, y3, -, -, -, -⟩ := zaw VX_9.out
 go_wp2_with fail
 refine (zos _ ws ps es qs 1 _ _ w9 RX_9.out (by omega) (by omega) (by omega) (by omega) (by omega) (by decide) (by decide)).mono ?_
 rintro e w10 ⟨rfl, _, ho10⟩
 clear y0 y1 y2 y3
 have hz10 : w9.heap.size ≤ w10.heap.size := ho10.size
 have B_10 := zaa (B_9.out.trans (ho10.below (B := ((w.alloc (.cells #[.slice aW ws.length cW, .slice aP ps.length cP, .slice aS es.length cS, .slice aQ qs.length cQ] 30)).alloc (.cells #[.int .i64 k, .string p, .string t, .int .i64 g, .int .i64 y] 71)).heap.size) (by omega) (by omega)))
 have SS_10 := zaa (SS_9.out.outside ho10 (by omega) (by omega))
 have NS_10 := zaa (NS_9.out.outside ho10 (by omega) (by omega))
 have SG_10 := zaa (SG_9.out.outside ho10 (by omega) (by omega))
 have NG_10 := zaa (NG_9.out.outside ho10 (by omega) (by omega))
 have VS_10 := zaa ((ho10.block _ (by omega) (by omega)).trans VS_9.out)
 have VG_10 := zaa ((ho10.block _ (by omega) (by omega)).trans VG_9.out)
 clear B_9 ho10 RX_9 VX_9 SS_9 NS_9 SG_9 NG_9 VS_9 VG_9
 go_wp2_with fail
 refine (zgv _ _ L w10 SG_10.out.rd SS_10.out.rd (by omega)).mono ?_
 rintro e w11 ⟨rfl, hb11⟩
 have hz11 : w10.heap.size ≤ w11.heap.size := hb11.size
 have B_11 := zaa (zab B_10.out hb11 (by omega))
 have SS_11 := zaa (SS_10.out.below hb11 (by omega))
 have NS_11 := zaa (NS_10.out.below hb11 (by omega))
 have SG_11 := zaa (SG_10.out.below hb11 (by omega))
 have NG_11 := zaa (NG_10.out.below hb11 (by omega))
 have VS_11 := zaa ((hb11.block _ (by omega)).trans VS_10.out)
 have VG_11 := zaa ((hb11.block _ (by omega)).trans VG_10.out)
 clear B_10 hb11 SS_10 NS_10 SG_10 NG_10 VS_10 VG_10
 obtain ⟨f0, f1, f2, -, -, -⟩ := tri VG_11.out
 obtain ⟨h0, h1, h2, -, -, -⟩ := tri VS_11.out
 go_wp2_with fail
 refine (zgp cd vl _ _ NN w11 NG_11.out.rd NS_11.out.rd (by omega)).mono ?_
 rintro e w12 ⟨rfl, hb12⟩
 have hz12 : w11.heap.size ≤ w12.heap.size := hb12.size
 have B_12 := zaa (zab B_11.out hb12 (by omega))
 have SS_12 := zaa (SS_11.out.below hb12 (by omega))
 have NS_12 := zaa (NS_11.out.below hb12 (by omega))
 have SG_12 := zaa (SG_11.out.below hb12 (by omega))
 have NG_12 := zaa (NG_11.out.below hb12 (by omega))
 have VS_12 := zaa ((hb12.block _ (by omega)).trans VS_11.out)
 have VG_12 := zaa ((hb12.block _ (by omega)).trans VG_11.out)
 clear B_11 hb12 SS_11 NS_11 SG_11 NG_11 VS_11 VG_11
 clear f0 f1 f2 h0 h1 h2
 go_wp2_with fail
 refine (zqf _ _ _ 1 _ _ w12 SG_12.out (isMis L) (by omega) (by decide) (by decide)).mono ?_
 rintro e w13 ⟨rfl, hr13, hg13, he13⟩
 have ho13 := Row.grown_outside SG_12.out hg13
 have hz13 : w12.heap.size ≤ w13.heap.size := ho13.size
 have B_13 := zaa (B_12.out.trans (ho13.below (B := ((w.alloc (.cells #[.slice aW ws.length cW, .slice aP ps.length cP, .slice aS es.length cS, .slice aQ qs.length cQ] 30)).alloc (.cells #[.int .i64 k, .string p, .string t, .int .i64 g, .int .i64 y] 71)).heap.size) (by omega) (by omega)))
 have SS_13 := zaa (SS_12.out.outside ho13 (by omega) (by omega))
 have NS_13 := zaa (NS_12.out.outside ho13 (by omega) (by omega))
 have VS_13 := zaa ((ho13.block _ (by omega) (by omega)).trans VS_12.out)
 have NG_13 := zaa (Row.apart NG_12.out SG_12.out st_mi hg13)
 have VG_13 := zaa (zug SG_12.out.1 VG_12.out an_mi hg13)
 have MG_13 := zaa hr13
 clear ho13 hr13 hg13 he13 B_12 SS_12 NS_12 VS_12 NG_12 SG_12 VG_12
 obtain ⟨f0, f1, f2, -, -, -⟩ := tri VG_13.out
 go_wp2_with fail
 refine (zqt cd vl _ NN _ _ _ w13 NG_13.out (by omega) (by omega) (by omega) (by omega)).mono ?_
 rintro e w14 ⟨rfl, hr14, wq, hb14, hq14, hg14⟩
 clear f0 f1 f2
 have NGq := zaa (NG_13.out.below hb14 (by omega))
 have zq : w13.heap.size ≤ wq.heap.size := hb14.size
 have ho14 := Row.grown_outside NGq.out hg14
 have hz14 : w13.heap.size ≤ w14.heap.size := Nat.le_trans zq ho14.size
 have B_14 := zaa ((zab B_13.out hb14 (by omega)).trans (ho14.below (B := ((w.alloc (.cells #[.slice aW ws.length cW, .slice aP ps.length cP, .slice aS es.length cS, .slice aQ qs.length cQ] 30)).alloc (.cells #[.int .i64 k, .string p, .string t, .int .i64 g, .int .i64 y] 71)).heap.size) (by omega) (by omega)))
 have SS_14 := zaa ((SS_13.out.below hb14 (by omega)).outside ho14 (by omega) (by omega))
 have NS_14 := zaa ((NS_13.out.below hb14 (by omega)).outside ho14 (by omega) (by omega))
 have VS_14 := zaa ((ho14.block _ (by omega) (by omega)).trans ((hb14.block _ (by omega)).trans VS_13.out))
 have MG_14 := zaa (Row.apart (MG_13.out.below hb14 (by omega)) NGq.out (Ne.symm st_mi) hg14)
 have VG_14 := zaa (zug NGq.out.1 ((hb14.block _ (by omega)).trans VG_13.out) an_st hg14)
 have MN_14 := zaa hr14
 clear ho14 hr14 hg14 hb14 NGq B_13 SS_13 NS_13 VS_13 NG_13 MG_13 VG_13
 go_wp2_with fail
 refine (zjb _ L.length 1 w14 (zvg MG_14.out) (by omega) (by decide) (by decide)).mono ?_
 rintro e w' ⟨rfl, hw'⟩
 subst w'
 obtain ⟨f0, f1, f2, -, -, -⟩ := tri VG_14.out
 go_wp2_with fail
 refine (zjc cd vl _ NN.length _ w14 (zvj MN_14.out) (by omega) (by omega) (by omega)).mono ?_
 rintro e w15 ⟨rfl, hb15⟩
 have hz15 : w14.heap.size ≤ w15.heap.size := hb15.size
 have B_15 := zaa (zab B_14.out hb15 (by omega))
 have SS_15 := zaa (SS_14.out.below hb15 (by omega))
 have NS_15 := zaa (NS_14.out.below hb15 (by omega))
 have MG_15 := zaa (MG_14.out.below hb15 (by omega))
 have MN_15 := zaa (MN_14.out.below hb15 (by omega))
 have VS_15 := zaa ((hb15.block _ (by omega)).trans VS_14.out)
 have VG_15 := zaa ((hb15.block _ (by omega)).trans VG_14.out)
 clear B_14 hb15 SS_14 NS_14 MG_14 MN_14 VS_14 VG_14
 clear f0 f1 f2
 have SK : Hid (∀ w', Below w15.heap.size w15 w' → (w'.cell? ⟨w.heap.size, 0, none⟩ = some (.slice aW ws.length cW) ∧ w'.cell? ⟨w.heap.size, 1, none⟩ = some (.slice aP ps.length cP) ∧ w'.cell? ⟨w.heap.size, 2, none⟩ = some (.slice aS es.length cS) ∧ w'.cell? ⟨w.heap.size, 3, none⟩ = some (.slice aQ qs.length cQ)) ∧ (w'.cell? ⟨w.heap.size + 1, 0, none⟩ = some (.int .i64 k) ∧ w'.cell? ⟨w.heap.size + 1, 1, none⟩ = some (.string p) ∧ w'.cell? ⟨w.heap.size + 1, 2, none⟩ = some (.string t) ∧ w'.cell? ⟨w.heap.size + 1, 3, none⟩ = some (.int .i64 g) ∧ w'.cell? ⟨w.heap.size + 1, 4, none⟩ = some (.int .i64 y))) := fun w' hb => ⟨(CA.out w' (zab B_15.out hb (by omega))).1, (CA.out w' (zab B_15.out hb (by omega))).2⟩
 go_upto_region 31 with fail
 go_cut [16, 17, 18] (fun s q c wx => ∃ (aS aN : Option Addr) (cS cN bx : Nat), s = .slice aS L.length cS ∧ q = .pointer (some ⟨bx, 0, none⟩) ∧ c = .int .i64 rc ∧ Hid (CutO w15 wx (.slice aS L.length cS) (.slice aN NN.length cN) bx ⟨L, cd, vl, NN⟩))
 case first =>
  as_aux_lemma =>
   obtain ⟨⟨p0, p1, p2, p3⟩, q0, q1, q2, q3, q4⟩ := SK.out _ (Below.refl _ _)
   go_region_held3 (fun w' => (w'.cell? ⟨w.heap.size, 0, none⟩ = some (.slice aW ws.length cW) ∧ w'.cell? ⟨w.heap.size, 1, none⟩ = some (.slice aP ps.length cP) ∧ w'.cell? ⟨w.heap.size, 2, none⟩ = some (.slice aS es.length cS) ∧ w'.cell? ⟨w.heap.size, 3, none⟩ = some (.slice aQ qs.length cQ)) ∧ (w'.cell? ⟨w.heap.size + 1, 0, none⟩ = some (.int .i64 k) ∧ w'.cell? ⟨w.heap.size + 1, 1, none⟩ = some (.string p) ∧ w'.cell? ⟨w.heap.size + 1, 2, none⟩ = some (.string t) ∧ w'.cell? ⟨w.heap.size + 1, 3, none⟩ = some (.int .i64 g) ∧ w'.cell? ⟨w.heap.size + 1, 4, none⟩ = some (.int .i64 y)))
    (exact SK.out _ (by repeat (first | with_reducible exact BC.out | with_reducible exact BB.out | with_reducible exact BA.out | with_reducible exact Below.refl _ _ | with_reducible refine zak ?_ _ | with_reducible refine Below.drew ?_ | with_reducible refine Below.setCell ?_ (by first | with_reducible exact Nat.le_refl _ | with_reducible exact BA.out.size | with_reducible exact BB.out.size | with_reducible exact BC.out.size | (simp only; omega)) _)))
    (first
     | (go_at_call 10; refine (zei _ ws ps es qs _ (RD.out _ (zab B_15.out (by repeat (first | with_reducible exact BC.out | with_reducible exact BB.out | with_reducible exact BA.out | with_reducible exact Below.refl _ _ | with_reducible refine zak ?_ _ | with_reducible refine Below.drew ?_)) (by omega))) hw hp he hq).mono ?_; rintro e wa ⟨va, rfl, hra, hba⟩; have BA : Hid (Below w15.heap.size w15 wa) := zab (b := _) (by repeat (first | with_reducible exact BC.out | with_reducible exact BB.out | with_reducible exact BA.out | with_reducible exact Below.refl _ _ | with_reducible refine zak ?_ _ | with_reducible refine Below.drew ?_)) hba (Below.size (B := w15.heap.size) (by repeat (first | with_reducible exact BC.out | with_reducible exact BB.out | with_reducible exact BA.out | with_reducible exact Below.refl _ _ | with_reducible refine zak ?_ _ | with_reducible refine Below.drew ?_))); obtain ⟨aWa, cWa, aPa, cPa, aSa, cSa, aQa, cQa, rfl, -, -⟩ := hra.rd.form; have RA := zaa hra.rd; (first | (have VB : Hid (wa.heap[w15.heap.size]? = some (.cells #[.int .i64 0, .int .i64 0, .slice none 0 0] 75 (0, 0))) := zfw hba (by first | with_reducible exact zah rfl | with_reducible exact zhz _ _ | with_reducible exact zhq _ _); have GB : w15.heap.size ≤ w15.heap.size := Nat.le_refl _) | skip); clear hra hba)
     | (go_at_call 30; refine (zst k p t g y _).mono ?_; rintro e wb ⟨rfl, hbb⟩; have BB : Hid (Below w15.heap.size w15 wb) := zab (b := _) (by repeat (first | with_reducible exact BC.out | with_reducible exact BB.out | with_reducible exact BA.out | with_reducible exact Below.refl _ _ | with_reducible refine zak ?_ _ | with_reducible refine Below.drew ?_)) hbb (Below.size (B := w15.heap.size) (by repeat (first | with_reducible exact BC.out | with_reducible exact BB.out | with_reducible exact BA.out | with_reducible exact Below.refl _ _ | with_reducible refine zak ?_ _ | with_reducible refine Below.drew ?_))); have RB := zaa ((RA.out.below (by repeat (first | with_reducible exact Below.refl _ _ | with_reducible refine zak ?_ _ | with_reducible refine Below.drew ?_))).below hbb); (first | (have VB := zaa (zfw hbb (by first | with_reducible exact VB.out | with_reducible exact zbz VB.out))) | (have VB : Hid (wb.heap[wa.heap.size]? = some (.cells #[.int .i64 0, .int .i64 0, .slice none 0 0] 75 (0, 0))) := zfw hbb (by first | with_reducible exact zah rfl | with_reducible exact zhz _ _ | with_reducible exact zhq _ _); have GB : w15.heap.size ≤ wa.heap.size := BA.out.size) | skip); clear hbb)
     | (go_at_call 31; refine (IC.out _ _ (FB.out _ (zab B_15.out (by repeat (first | with_reducible exact BC.out | with_reducible exact BB.out | with_reducible exact BA.out | with_reducible exact Below.refl _ _ | with_reducible refine zak ?_ _ | with_reducible refine Below.drew ?_)) (by omega))) (RB.out.below (by repeat (first | with_reducible exact Below.refl _ _ | with_reducible refine zak ?_ _ | with_reducible refine Below.drew ?_)))).mono ?_; rintro e wc ⟨vS, vN, rfl, hT⟩; have BC : Hid (Below w15.heap.size w15 wc) := zab (b := _) (by repeat (first | with_reducible exact BC.out | with_reducible exact BB.out | with_reducible exact BA.out | with_reducible exact Below.refl _ _ | with_reducible refine zak ?_ _ | with_reducible refine Below.drew ?_)) hT.b (Below.size (B := w15.heap.size) (by repeat (first | with_reducible exact BC.out | with_reducible exact BB.out | with_reducible exact BA.out | with_reducible exact Below.refl _ _ | with_reducible refine zak ?_ _ | with_reducible refine Below.drew ?_))); have TC := zaa (hT.at (w := w15) (by repeat (first | with_reducible exact BC.out | with_reducible exact BB.out | with_reducible exact BA.out | with_reducible exact Below.refl _ _ | with_reducible refine zak ?_ _ | with_reducible refine Below.drew ?_))); obtain ⟨-, aS, cS, hvS, -⟩ := hT.s.rd; subst hvS; obtain ⟨-, aN, cN, hvN, -⟩ := hT.n.rd; subst hvN; (first | (have VB := zaa (zfw hT.b (by first | with_reducible exact VB.out | with_reducible exact zbz VB.out)); obtain ⟨z0, z1, z2, z3, z4, z5⟩ := tri VB.out) | (have VB : Hid (wc.heap[wb.heap.size]? = some (.cells #[.int .i64 0, .int .i64 0, .slice none 0 0] 75 (0, 0))) := zfw hT.b (by first | with_reducible exact zah rfl | with_reducible exact zhz _ _ | with_reducible exact zhq _ _); have GB : w15.heap.size ≤ wb.heap.size := BB.out.size; obtain ⟨z0, z1, z2, z3, z4, z5⟩ := tri VB.out) | skip); clear hT))
   all_goals
    go_wp2_with fail
    go_meet
    first
     | with_reducible exact ⟨aS, aN, cS, cN, _, rfl, rfl, rfl, CutO.new (A := ⟨L, cd, vl, NN⟩) TC.out⟩
     | with_reducible exact ⟨aS, aN, cS, cN, _, rfl, rfl, rfl, (CutO.new (A := ⟨L, cd, vl, NN⟩) TC.out).drew⟩
     | with_reducible exact ⟨aS, aN, cS, cN, _, rfl, rfl, rfl, CutO.new (A := ⟨L, cd, vl, NN⟩) TC.out.drew⟩
     | with_reducible exact ⟨aS, aN, cS, cN, _, rfl, rfl, rfl, (CutO.new (A := ⟨L, cd, vl, NN⟩) TC.out.drew).drew⟩
     | with_reducible exact ⟨aS, aN, cS, cN, _, rfl, rfl, rfl, CutO.old (A := ⟨L, cd, vl, NN⟩) TC.out VB.out GB⟩
     | with_reducible exact ⟨aS, aN, cS, cN, _, rfl, rfl, rfl, (CutO.old (A := ⟨L, cd, vl, NN⟩) TC.out VB.out GB).drew⟩
     | with_reducible exact ⟨aS, aN, cS, cN, _, rfl, rfl, rfl, CutO.old (A := ⟨L, cd, vl, NN⟩) TC.out.drew (zbz VB.out) GB⟩
     | with_reducible exact ⟨aS, aN, cS, cN, _, rfl, rfl, rfl, (CutO.old (A := ⟨L, cd, vl, NN⟩) TC.out.drew (zbz VB.out) GB).drew⟩
     | (refine ⟨aS, aN, cS, cN, _, rfl, rfl, rfl, ?_⟩; unfold Hid; first | with_reducible exact CutO.new (A := ⟨L, cd, vl, NN⟩) TC.out | with_reducible exact (CutO.new (A := ⟨L, cd, vl, NN⟩) TC.out).drew | with_reducible exact CutO.new (A := ⟨L, cd, vl, NN⟩) TC.out.drew | with_reducible exact (CutO.new (A := ⟨L, cd, vl, NN⟩) TC.out.drew).drew | with_reducible exact CutO.old (A := ⟨L, cd, vl, NN⟩) TC.out VB.out GB | with_reducible exact (CutO.old (A := ⟨L, cd, vl, NN⟩) TC.out VB.out GB).drew | with_reducible exact CutO.old (A := ⟨L, cd, vl, NN⟩) TC.out.drew (zbz VB.out) GB | with_reducible exact (CutO.old (A := ⟨L, cd, vl, NN⟩) TC.out.drew (zbz VB.out) GB).drew)
 case rest =>
 obtain ⟨aSH, aNH, cSH, cNH, bH, rfl, rfl, rfl, CU⟩ := hcut
 rename World => w16
 have hb16 := CU.out.t.b
 clear SK
 have ltH : bH < w16.heap.size := (Array.getElem?_eq_some_iff.1 CU.out.box).1
 have geH : w15.heap.size ≤ bH := CU.out.bx0
 have hz16 : w15.heap.size ≤ w16.heap.size := hb16.size
 have B_16 := zaa (zab B_15.out hb16 (by omega))
 have SS_16 := zaa (SS_15.out.below hb16 (by omega))
 have NS_16 := zaa (NS_15.out.below hb16 (by omega))
 have MG_16 := zaa (MG_15.out.below hb16 (by omega))
 have MN_16 := zaa (MN_15.out.below hb16 (by omega))
 have VS_16 := zaa ((hb16.block _ (by omega)).trans VS_15.out)
 have VG_16 := zaa ((hb16.block _ (by omega)).trans VG_15.out)
 clear B_15 hb16 SS_15 NS_15 MG_15 MN_15 VS_15 VG_15
 have SH_16 := zaa CU.out.t.s
 have NH_16 := zaa CU.out.t.n
 have VH_16 := zaa CU.out.box
 simp only at SH_16 NH_16 VH_16
 clear CU
 go_wp2_with fail
 refine (zgv _ _ L w16 SH_16.out.rd SS_16.out.rd (by omega)).mono ?_
 rintro e w17 ⟨rfl, hb17⟩
 have hz17 : w16.heap.size ≤ w17.heap.size := hb17.size
 have B_17 := zaa (zab B_16.out hb17 (by omega))
 have SS_17 := zaa (SS_16.out.below hb17 (by omega))
 have NS_17 := zaa (NS_16.out.below hb17 (by omega))
 have MG_17 := zaa (MG_16.out.below hb17 (by omega))
 have MN_17 := zaa (MN_16.out.below hb17 (by omega))
 have SH_17 := zaa (SH_16.out.below hb17 (by omega))
 have NH_17 := zaa (NH_16.out.below hb17 (by omega))
 have VS_17 := zaa ((hb17.block _ (by omega)).trans VS_16.out)
 have VG_17 := zaa ((hb17.block _ (by omega)).trans VG_16.out)
 have VH_17 := zaa ((hb17.block _ (by omega)).trans VH_16.out)
 clear B_16 hb17 SS_16 NS_16 MG_16 MN_16 SH_16 NH_16 VS_16 VG_16 VH_16
 obtain ⟨f0, f1, f2, -, -, -⟩ := tri VH_17.out
 obtain ⟨h0, h1, h2, -, -, -⟩ := tri VS_17.out
 go_wp2_with fail
 refine (zgp cd vl _ _ NN w17 NH_17.out.rd NS_17.out.rd (by omega)).mono ?_
 rintro e w18 ⟨rfl, hb18⟩
 have hz18 : w17.heap.size ≤ w18.heap.size := hb18.size
 have B_18 := zaa (zab B_17.out hb18 (by omega))
 have SS_18 := zaa (SS_17.out.below hb18 (by omega))
 have NS_18 := zaa (NS_17.out.below hb18 (by omega))
 have MG_18 := zaa (MG_17.out.below hb18 (by omega))
 have MN_18 := zaa (MN_17.out.below hb18 (by omega))
 have SH_18 := zaa (SH_17.out.below hb18 (by omega))
 have NH_18 := zaa (NH_17.out.below hb18 (by omega))
 have VS_18 := zaa ((hb18.block _ (by omega)).trans VS_17.out)
 have VG_18 := zaa ((hb18.block _ (by omega)).trans VG_17.out)
 have VH_18 := zaa ((hb18.block _ (by omega)).trans VH_17.out)
 clear B_17 hb18 SS_17 NS_17 MG_17 MN_17 SH_17 NH_17 VS_17 VG_17 VH_17
 clear f0 f1 f2 h0 h1 h2
 go_wp2_with fail
 refine (zjb _ L.length 1 w18 (zvg MG_18.out) (by omega) (by decide) (by decide)).mono ?_
 rintro e w' ⟨rfl, hw'⟩
 subst w'
 obtain ⟨f0, f1, f2, -, -, -⟩ := tri VG_18.out
 go_wp2_with fail
 refine (zjc cd vl _ NN.length _ w18 (zvj MN_18.out) (by omega) (by omega) (by omega)).mono ?_
 rintro e w19 ⟨rfl, hb19⟩
 have hz19 : w18.heap.size ≤ w19.heap.size := hb19.size
 have B_19 := zaa (zab B_18.out hb19 (by omega))
 have SS_19 := zaa (SS_18.out.below hb19 (by omega))
 have NS_19 := zaa (NS_18.out.below hb19 (by omega))
 have MG_19 := zaa (MG_18.out.below hb19 (by omega))
 have MN_19 := zaa (MN_18.out.below hb19 (by omega))
 have SH_19 := zaa (SH_18.out.below hb19 (by omega))
 have NH_19 := zaa (NH_18.out.below hb19 (by omega))
 have VS_19 := zaa ((hb19.block _ (by omega)).trans VS_18.out)
 have VG_19 := zaa ((hb19.block _ (by omega)).trans VG_18.out)
 have VH_19 := zaa ((hb19.block _ (by omega)).trans VH_18.out)
 clear B_18 hb19 SS_18 NS_18 MG_18 MN_18 SH_18 NH_18 VS_18 VG_18 VH_18
 clear f0 f1 f2
 go_wp2
 go_ret
 exact ⟨rfl, FB.out _ B_19.out⟩
end Go.Proofs.YtcilodgoognmnaaGreatDoor
