/- Several texts laid together: DuI, AnL, OpL, DevC. -/
import Derived.Test.YtcilodgoognmnaaGreatDoorZBG
import Derived.Test.YtcilodgoognmnaaGreatDoorZAI
import Derived.Test.YtcilodgoognmnaaGreatDoorZAC
import Derived.Test.YtcilodgoognmnaaGreatDoorZAQ
import Derived.Test.YtcilodgoognmnaaGreatDoorZAO
import Derived.Test.YtcilodgoognmnaaGreatDoorZAN
import Derived.Test.YtcilodgoognmnaaGreatDoorZAP
import Derived.Deep.RegionWith
import Derived.Deep.DeepCutAuto
import Derived.Deep.RegionLaw
namespace Go.Proofs.YtcilodgoognmnaaGreatDoor
open Go.RowKit
theorem st_so (ns : List Ino) (r : Int × Int) : stA ns r = ⟨[], (soR ns r).2, (soR ns r).1, []⟩ := by
 unfold stA soR
 split <;> rfl
theorem ls_na (ns : List Ino) (ds : List Den) (r : Int × Int) : lsA ns ds r = ⟨[], (naR ns ds r).2, 0, (naR ns ds r).1⟩ := by
 unfold lsA naR
 repeat' split
 all_goals rfl
theorem zwp {ws : List Int} {ps : List St} {es : List Int} {qs : List Se} {p : ByteArray} {g y : Int} (h : p.size ≤ 65536) (d : dvB ws ps es qs = true) : wrR ws ps es qs p g y = wrI (dvN ws ps es qs) (dvD ws ps es qs) p g y := by
 unfold wrR
 rw [if_neg (by omega), if_pos d, (zdi d).2.2.1, (zdi d).2.2.2.1]
theorem rpR_right {ws : List Int} {ps : List St} {es : List Int} {qs : List Se} {p : ByteArray} {g : Int} (h : p.size ≤ 65536) (d : dvB ws ps es qs = true) : rpR ws ps es qs p g = rpI ws ps es qs (dvN ws ps es qs) (dvD ws ps es qs) p g := by
 unfold rpR
 rw [if_neg (by omega), if_pos d, (zdi d).2.2.1, (zdi d).2.2.2.1]
theorem op_os {ws : List Int} {ps : List St} {es : List Int} {qs : List Se} {k : Int} {p t : ByteArray} {g y : Int} (h : p.size ≤ 65536) (d : dvB ws ps es qs = true) (c8 : ¬ k = 8) (c9 : ¬ k = 9) (c10 : ¬ k = 10) : opI ws ps es qs (dvN ws ps es qs) (dvD ws ps es qs) k p t g y = ⟨(osR ws ps es qs (dvN ws ps es qs) (dvD ws ps es qs) k p t g y).1, (osR ws ps es qs (dvN ws ps es qs) (dvD ws ps es qs) k p t g y).2, 0, []⟩ := by
 unfold opI osR
 by_cases c6 : k = 6
 ·rw [if_pos c6, if_pos c6, zwp h d]
 ·rw [if_neg c6, if_neg c6, if_neg c8, if_neg c9, if_neg c10]
set_option maxRecDepth 100000 in
set_option maxHeartbeats 16000000 in
theorem zqi (v : Value) (ws : List Int) (ps : List St) (es : List Int) (qs : List Se) (k : Int) (p t : ByteArray) (g y : Int) (w : World) (h : RdDev w v ws ps es qs) (hw : ws.length ≤ 1048576) (hp : ps.length ≤ 1048576) (he : es.length ≤ 1048576) (hq : qs.length ≤ 1048576) (hT : TS w) (hE : ED w) (hF : FD w) (hN : NW w) :
  Calls Tryz.prog 31 #[v, .agg #[.int .i64 k, .string p, .string t, .int .i64 g, .int .i64 y]] w fun e w' => ∃ vS vA, e = .returned (.tuple #[vS, vA, .int .i64 (opR ws ps es qs k p t g y).2]) ∧ OpOut w w' vS vA (opR ws ps es qs k p t g y).1 := by
 have LI := zaa (fun w1 (hb : Below w.heap.size w w1) => zgr v ws ps es qs w1 (h.below hb) hw hp he hq (hT.below hb) (hE.below hb) (hF.below hb))
 have LK := zaa (fun w1 => zua k p t g y w1)
 have LM := zaa (fun v2 w1 (hb : Below w.heap.size w w1) h2 => zbo v2 (dvN ws ps es qs) (dvD ws ps es qs) w1 h2 (zet ws ps es qs).1 (zet ws ps es qs).2 (hT.below hb) (hE.below hb) (hF.below hb) dv_R zjk)
 rw [zmd] at LM
 have LR : Hid (dvB ws ps es qs = true → p.size ≤ 65536 → ∀ w1, Below w.heap.size w w1 → Calls Tryz.prog 11 #[v, .string p, .int .i64 g] w1 fun e w' => e = .returned (.tuple #[.int .i64 (rpI ws ps es qs (dvN ws ps es qs) (dvD ws ps es qs) p g).1, .int .i64 (rpI ws ps es qs (dvN ws ps es qs) (dvD ws ps es qs) p g).2]) ∧ Below w1.heap.size w1 w') := fun d hl w1 hb => by
  have q := zmr v ws ps es qs p g w1 (h.below hb) hw hp he hq (hT.below hb) (hE.below hb) (hF.below hb) (hN.below hb)
  rw [rpR_right hl d] at q
  exact q
 have LS := zaa (fun (d : dvB ws ps es qs = true) (hl : p.size ≤ 65536) v2 w1 (hb : Below w.heap.size w w1) h2 => statOf_any v2 (dvN ws ps es qs) (dvD ws ps es qs) p w1 h2 ((zmd ws ps es qs).trans d) hl (zet ws ps es qs).1 (zet ws ps es qs).2 (hT.below hb) (hE.below hb) (hF.below hb) dv_R zjk)
 have LN := zaa (fun (d : dvB ws ps es qs = true) (hl : p.size ≤ 65536) v2 w1 (hb : Below w.heap.size w w1) h2 => namesAt_any v2 (dvN ws ps es qs) (dvD ws ps es qs) p w1 h2 ((zmd ws ps es qs).trans d) hl (zet ws ps es qs).1 (zet ws ps es qs).2 (hT.below hb) (hE.below hb) (hF.below hb) dv_R zjk)
 have LP := zaa (fun (d : dvB ws ps es qs = true) (hl : p.size ≤ 65536) (hl2 : t.size ≤ 65536) v2 w1 (hb : Below w.heap.size w w1) h2 => opSteps_any v v2 ws ps es qs (dvN ws ps es qs) (dvD ws ps es qs) k p t g y w1 (h.below hb) h2 ((zmd ws ps es qs).trans d) hl hl2 hw hp he hq (hT.below hb) (hE.below hb) (hF.below hb) (zet ws ps es qs).1 (zet ws ps es qs).2 dv_R zjk)
 have EO := zaa (show opR ws ps es qs k p t g y = if dvB ws ps es qs = true ∧ opB k p t g y = true then (opI ws ps es qs (dvN ws ps es qs) (dvD ws ps es qs) k p t g y, 0) else (⟨[], 0, 0, []⟩, 1) from rfl)
 have E8 : Hid (k = 8 → opI ws ps es qs (dvN ws ps es qs) (dvD ws ps es qs) k p t g y = ⟨[], (rpI ws ps es qs (dvN ws ps es qs) (dvD ws ps es qs) p g).2, (rpI ws ps es qs (dvN ws ps es qs) (dvD ws ps es qs) p g).1, []⟩) := fun c => by unfold opI; rw [if_neg (by omega), if_pos c]
 have E9 : Hid (k = 9 → opI ws ps es qs (dvN ws ps es qs) (dvD ws ps es qs) k p t g y = ⟨[], (soR (dvN ws ps es qs) (lkI (dvN ws ps es qs) (dvD ws ps es qs) p)).2, (soR (dvN ws ps es qs) (lkI (dvN ws ps es qs) (dvD ws ps es qs) p)).1, []⟩) := fun c => by unfold opI; rw [if_neg (by omega), if_neg (by omega), if_pos c, st_so]
 have E10 : Hid (k = 10 → opI ws ps es qs (dvN ws ps es qs) (dvD ws ps es qs) k p t g y = ⟨[], (naR (dvN ws ps es qs) (dvD ws ps es qs) (lkI (dvN ws ps es qs) (dvD ws ps es qs) p)).2, 0, (naR (dvN ws ps es qs) (dvD ws ps es qs) (lkI (dvN ws ps es qs) (dvD ws ps es qs) p)).1⟩) := fun c => by unfold opI; rw [if_neg (by omega), if_neg (by omega), if_neg (by omega), if_pos c, ls_na]
 have EX := zaa (fun (hl : p.size ≤ 65536) (d : dvB ws ps es qs = true) c8 c9 c10 => op_os (ws := ws) (ps := ps) (es := es) (qs := qs) (k := k) (p := p) (t := t) (g := g) (y := y) hl d c8 c9 c10)
 have OP := zaa (fun o => zng (k := k) (p := p) (t := t) (g := g) (y := y) o)
 obtain ⟨dW, eW, dP, eP, dS, eS, dQ, eQ, rfl, -, -⟩ := h.form
 clear h hT hE hF hN
 obtain ⟨W, hW⟩ : ∃ W, W = ((w.alloc (.cells #[.slice dW ws.length eW, .slice dP ps.length eP, .slice dS es.length eS, .slice dQ qs.length eQ] 41)).alloc (.cells #[.int .i64 k, .string p, .string t, .int .i64 g, .int .i64 y] 78)).alloc (.cells #[.int .i64 0, .int .i64 0, .slice none 0 0] 75) := ⟨_, rfl⟩
 have hzW : W.heap.size = w.heap.size + 1 + 1 + 1 := by rw [hW]; simp only [World.size_alloc]
 have BW : Hid (Below w.heap.size w W) := by
  rw [hW]
  repeat (first | exact Below.refl _ _ | refine Below.alloc ?_ (by first | exact Nat.le_refl _ | (simp only [World.size_alloc]; omega)) _)
 have CD : Hid (∀ w', Below W.heap.size W w' → w'.cell? ⟨w.heap.size, 0, none⟩ = some (.slice dW ws.length eW) ∧ w'.cell? ⟨w.heap.size, 1, none⟩ = some (.slice dP ps.length eP) ∧ w'.cell? ⟨w.heap.size, 2, none⟩ = some (.slice dS es.length eS) ∧ w'.cell? ⟨w.heap.size, 3, none⟩ = some (.slice dQ qs.length eQ)) := fun w' hb => by
  have q : w'.heap[w.heap.size]? = some (.cells #[.slice dW ws.length eW, .slice dP ps.length eP, .slice dS es.length eS, .slice dQ qs.length eQ] 41 (0, 0)) := (hb.block _ (by omega)).trans (by rw [hW]; exact zau (zau (zah rfl)))
  obtain ⟨x0, x1, x2, x3, -, -, -, -⟩ := zaw q
  exact ⟨x0, x1, x2, x3⟩
 have CO : Hid (∀ w', Below W.heap.size W w' → w'.cell? ⟨w.heap.size + 1, 0, none⟩ = some (.int .i64 k) ∧ w'.cell? ⟨w.heap.size + 1, 1, none⟩ = some (.string p) ∧ w'.cell? ⟨w.heap.size + 1, 2, none⟩ = some (.string t) ∧ w'.cell? ⟨w.heap.size + 1, 3, none⟩ = some (.int .i64 g) ∧ w'.cell? ⟨w.heap.size + 1, 4, none⟩ = some (.int .i64 y)) := fun w' hb => by
  have q : w'.heap[w.heap.size + 1]? = some (.cells ([.int .i64 k, .string p, .string t, .int .i64 g, .int .i64 y] : List Value).toArray 78 (0, 0)) := (hb.block _ (by omega)).trans (by
   have := zah (w := w.alloc (.cells #[.slice dW ws.length eW, .slice dP ps.length eP, .slice dS es.length eS, .slice dQ qs.length eQ] 41)) (o := .cells #[.int .i64 k, .string p, .string t, .int .i64 g, .int .i64 y] 78) rfl
   simp only [World.size_alloc] at this
   rw [hW]
   exact zau this)
  exact ⟨(zae q 0).1, (zae q 1).1, (zae q 2).1, (zae q 3).1, (zae q 4).1⟩
 have VR : Hid (∀ w', Below W.heap.size W w' → w'.heap[w.heap.size + 1 + 1]? = some (.cells #[.int .i64 0, .int .i64 0, .slice none 0 0] 75 (0, 0))) := fun w' hb => (hb.block _ (by omega)).trans (by
  have := zah (w := (w.alloc (.cells #[.slice dW ws.length eW, .slice dP ps.length eP, .slice dS es.length eS, .slice dQ qs.length eQ] 41)).alloc (.cells #[.int .i64 k, .string p, .string t, .int .i64 g, .int .i64 y] 78)) (o := .cells #[.int .i64 0, .int .i64 0, .slice none 0 0] 75) rfl
  simp only [World.size_alloc] at this
  rw [hW]
  exact this)
 have hz2 : w.heap.size ≤ w.heap.size + 1 + 1 := by omega
 generalize opR ws ps es qs k p t g y = res at *
 generalize osR ws ps es qs (dvN ws ps es qs) (dvD ws ps es qs) k p t g y = OS at *
 generalize rpI ws ps es qs (dvN ws ps es qs) (dvD ws ps es qs) p g = RP at *
 generalize soR (dvN ws ps es qs) (lkI (dvN ws ps es qs) (dvD ws ps es qs) p) = SO at *
 generalize naR (dvN ws ps es qs) (dvD ws ps es qs) (lkI (dvN ws ps es qs) (dvD ws ps es qs) p) = NA at *
 generalize opI ws ps es qs (dvN ws ps es qs) (dvD ws ps es qs) k p t g y = A at *
 generalize dvB ws ps es qs = db at *
 generalize dvN ws ps es qs = dn at *
 generalize dvD ws ps es qs = dd at *
 generalize opB k p t g y = ob at *
 obtain ⟨x0, x1, x2, x3⟩ := CD.out _ (Below.refl _ _)
 rw [hW] at x0 x1 x2 x3
 go_enter Tryz.func31, Tryz.ntmps31
 go_wp2_with fail
 rw [← hW]
 clear hW x0 x1 x2 x3
 refine (LI.out _ BW.out).mono ?_
 rintro e w1 ⟨v1, rfl, hR, hb1⟩
 have HR := zaa hR
 obtain ⟨vI, vD, rfl, hI, hD⟩ := hR
 obtain ⟨-, a1, k1, hv1, -⟩ := hI.rd
 obtain ⟨-, a2, k2, hv2, -⟩ := hD.rd
 subst hv1
 subst hv2
 have BC : Hid (Below w1.heap.size w1 (w1.alloc (.cells #[.slice a1 dn.length k1, .slice a2 dd.length k2] 63))) := (Below.refl _ _).alloc (Nat.le_refl _) _
 have VM : Hid ((w1.alloc (.cells #[.slice a1 dn.length k1, .slice a2 dd.length k2] 63)).heap[w1.heap.size]? = some (.cells #[.slice a1 dn.length k1, .slice a2 dd.length k2] 63 (0, 0))) := zah rfl
 obtain ⟨w2, hw2⟩ : ∃ w2, w2 = w1.alloc (.cells #[.slice a1 dn.length k1, .slice a2 dd.length k2] 63) := ⟨_, rfl⟩
 rw [← hw2] at BC VM
 have A2 := zaa (zfm hb1 BC.out)
 have Bq2 := zaa (zab BW.out A2.out BW.out.size)
 have R2 := zaa (HR.out.below BC.out (Nat.le_refl _)).rd
 have hz12 : w1.heap.size < w2.heap.size := (Array.getElem?_eq_some_iff.1 VM.out).1
 have hzW1 : W.heap.size ≤ w1.heap.size := hb1.size
 have BAD : Hid (∀ w', Below W.heap.size W w' → OpOut w (((w'.setCell ⟨w.heap.size + 1 + 1, 0, none⟩ (.int .i64 0)).setCell ⟨w.heap.size + 1 + 1, 1, none⟩ (.int .i64 0)).setCell ⟨w.heap.size + 1 + 1, 2, none⟩ (.slice none 0 0)) (.slice none 0 0) (.agg #[.int .i64 0, .int .i64 0, .slice none 0 0]) ⟨[], 0, 0, []⟩) := fun w' hb =>
  zdc (A := ⟨[], 0, 0, []⟩) ⟨Row.nil _ _ _ _ _, Row.nil _ _ _ _ _, zab BW.out hb BW.out.size⟩ (VR.out w' hb) hz2 rfl rfl
 clear hb1 HR hI hD LI BC
 obtain ⟨o0, o1, o2, o3, o4⟩ := CO.out _ A2.out
 go_upto_region 2 with fail
 rw [← hw2]
 clear hw2
 go_wp2_with fail
 refine (LK.out _).mono ?_
 rintro e w3 ⟨rfl, hb3⟩
 have A3 := zaa (zfm A2.out hb3)
 have B3w := zaa (zab Bq2.out hb3 Bq2.out.size)
 have R3 := zaa (R2.out.below hb3)
 have VM3 := zaa ((hb3.block _ hz12).trans VM.out)
 have hz23 : w2.heap.size ≤ w3.heap.size := hb3.size
 clear hb3 LK o0 o1 o2 o3 o4 A2 Bq2 R2 VM
 cases ob with
 | false =>
  rw [if_neg (fun q => by cases q.2)] at EO
  obtain rfl := EO.out
  have FIN := zaa (BAD.out _ A3.out)
  obtain ⟨u0, u1, u2, u3, u4, u5⟩ := tri (VR.out _ A3.out)
  clear EO BAD CD CO VR LM LR LS LN LP E8 E9 E10 EX
  go_wp2
  refine bodyPost_ret (v := .tuple #[.slice none 0 0, .agg #[.int .i64 0, .int .i64 0, .slice none 0 0], .int .i64 1]) (by simp [results, Tryz.results31, go_sem, u0, u1, u2]) rfl ⟨_, _, rfl, ?_⟩
  first | exact FIN.out | exact FIN.out.drew
 | true =>
 obtain ⟨-, pl, tl⟩ := OP.out (by first | rfl | trivial)
 obtain ⟨y0, y1, _, _⟩ := zac VM3.out
 go_wp2_with fail
 refine (LM.out _ _ B3w.out R3.out).mono ?_
 rintro e w4 ⟨rfl, hb4⟩
 have A4 := zaa (zfm A3.out hb4)
 have Bw4 := zaa (zab B3w.out hb4 B3w.out.size)
 have R4 := zaa (R3.out.below hb4)
 have VM4 := zaa ((hb4.block _ (by omega)).trans VM3.out)
 have hz34 : w3.heap.size ≤ w4.heap.size := hb4.size
 clear hb4 LM A3 B3w R3 VM3 y0 y1
 cases db with
 | false =>
  rw [if_neg (fun q => by first | cases q.1 | cases q)] at EO
  obtain rfl := EO.out
  have FIN := zaa (BAD.out _ A4.out)
  obtain ⟨u0, u1, u2, u3, u4, u5⟩ := tri (VR.out _ A4.out)
  clear EO BAD CD CO VR LR LS LN LP E8 E9 E10 EX
  go_wp2
  refine bodyPost_ret (v := .tuple #[.slice none 0 0, .agg #[.int .i64 0, .int .i64 0, .slice none 0 0], .int .i64 1]) (by simp [results, Tryz.results31, go_sem, u0, u1, u2]) rfl ⟨_, _, rfl, ?_⟩
  first | exact FIN.out | exact FIN.out.drew
 | true =>
 rw [if_pos (by first | exact ⟨rfl, rfl⟩ | exact ⟨trivial, rfl⟩ | exact ⟨rfl, trivial⟩ | exact ⟨trivial, trivial⟩ | trivial)] at EO
 have LR2 := zaa (LR.out (by first | rfl | trivial) pl)
 have LS2 := zaa (LS.out (by first | rfl | trivial) pl)
 have LN2 := zaa (LN.out (by first | rfl | trivial) pl)
 have LP2 := zaa (LP.out (by first | rfl | trivial) pl tl)
 have EX2 := zaa (fun c8 c9 c10 => EX.out pl (by first | rfl | trivial) c8 c9 c10)
 have n24 : ¬ w.heap.size + 1 + 1 = w4.heap.size := by omega
 have hz4 : w.heap.size ≤ w4.heap.size := Bw4.out.size
 have hb5 : Below w4.heap.size w4 (w4.alloc (.cells #[.int .i64 0, .int .i64 0, .slice none 0 0] 75)) := (Below.refl _ _).alloc (Nat.le_refl _) _
 have VA_5 : Hid ((w4.alloc (.cells #[.int .i64 0, .int .i64 0, .slice none 0 0] 75)).heap[w4.heap.size]? = some (.cells #[.int .i64 0, .int .i64 0, .slice none 0 0] 75 (0, 0))) := zah rfl
 obtain ⟨w5, hw5⟩ : ∃ w5, w5 = w4.alloc (.cells #[.int .i64 0, .int .i64 0, .slice none 0 0] 75) := ⟨_, rfl⟩
 rw [← hw5] at hb5 VA_5
 have A5 := zaa (zfm A4.out hb5)
 have B5w := zaa (zab Bw4.out hb5 Bw4.out.size)
 have R5 := zaa (R4.out.below hb5)
 have VM5 := zaa ((hb5.block _ (by omega)).trans VM4.out)
 have VR_5 := zaa (VR.out _ A5.out)
 have T_5 : Hid (OpT w w5 (.slice none 0 0) (.slice none 0 0) [] []) := ⟨Row.nil _ _ _ _ _, Row.nil _ _ _ _ _, B5w.out⟩
 have hl5 : w4.heap.size < w5.heap.size := (Array.getElem?_eq_some_iff.1 VA_5.out).1
 have hl2 : w.heap.size + 1 + 1 < w5.heap.size := by omega
 clear LR LS LN LP EX BAD VR A4 R4 VM4 hb5 OP
 go_upto_region 6 with fail
 rw [← hw5]
 clear hw5
 obtain ⟨o0, o1, o2, o3, o4⟩ := CO.out _ A5.out
 obtain ⟨x0, x1, x2, x3⟩ := CD.out _ A5.out
 obtain ⟨y0, y1, _, _⟩ := zac VM5.out
 by_cases c8 : k = 8
 case pos =>
  subst c8
  have E := zaa (E8.out rfl)
  obtain rfl := EO.out
  obtain ⟨rv, rc⟩ := RP
  simp only at E LR2
  obtain rfl := E.out
  clear E E8 E9 E10 EX2 LS2 LN2 LP2
  go_wp2_with fail
  refine (LR2.out _ B5w.out).mono ?_
  rintro e w6 ⟨rfl, hb6⟩
  clear o0 o1 o2 o3 o4 x0 x1 x2 x3 y0 y1 A5 R5 VM5
  have T_6 := zaa (T_5.out.below hb6)
  have VR_6 := zaa ((hb6.block _ (by omega)).trans VR_5.out)
  have VA_6 := zaa ((hb6.block _ (by omega)).trans VA_5.out)
  have hs6 : w5.heap.size ≤ w6.heap.size := hb6.size
  clear hb6 T_5 VR_5 VA_5
  obtain ⟨r0, r1, r2, r3, r4, r5⟩ := tri VA_6.out
  obtain ⟨u0, u1, u2, u3, u4, u5⟩ := tri VR_6.out
  obtain ⟨w7, hw7⟩ : ∃ w7, w7 = w6.setCell ⟨w4.heap.size, 1, none⟩ (.int .i64 rv) := ⟨_, rfl⟩
  have T_7 := zaa (T_6.out.set VA_6.out hz4 1 (.int .i64 rv))
  have VR_7 := zaa (zhb (j := 1) VR_6.out n24 (.int .i64 rv))
  have VA_7 := zaa (puB VA_6.out (.int .i64 rv))
  rw [← hw7] at T_7 VR_7 VA_7
  obtain ⟨w8, hw8⟩ : ∃ w8, w8 = w7.setCell ⟨w4.heap.size, 0, none⟩ (.int .i64 rc) := ⟨_, rfl⟩
  have T_8 := zaa (T_7.out.set VA_7.out hz4 0 (.int .i64 rc))
  have VR_8 := zaa (zhb (j := 0) VR_7.out n24 (.int .i64 rc))
  have VA_8 := zaa (puA VA_7.out (.int .i64 rc))
  rw [← hw8] at T_8 VR_8 VA_8
  go_wp2_with fail
  rw [← hw7, ← hw8]
  clear hw7 hw8 T_6 VR_6 VA_6 T_7 VR_7 VA_7
  clear r0 r1 r2 r3 r4 r5 u0 u1 u2 u3 u4 u5
  have FIN := zaa (zdc (A := ⟨[], rc, rv, []⟩) T_8.out VR_8.out hz2 rfl rfl)
  obtain ⟨r0, r1, r2, r3, r4, r5⟩ := tri VA_8.out
  obtain ⟨u0, u1, u2, u3, u4, u5⟩ := tri VR_8.out
  clear T_8 VR_8 VA_8
  go_region
  all_goals
   go_wp2
   refine bodyPost_ret (v := .tuple #[.slice none 0 0, .agg #[.int .i64 rc, .int .i64 rv, .slice none 0 0], .int .i64 0]) (by simp [results, Tryz.results31, go_sem, u0, u1, u2]) rfl ⟨_, _, rfl, ?_⟩
   first | exact FIN.out | exact FIN.out.drew
 by_cases c9 : k = 9
 case pos =>
  subst c9
  have E := zaa (E9.out rfl)
  obtain rfl := EO.out
  obtain ⟨rv, rc⟩ := SO
  simp only at E LS2
  obtain rfl := E.out
  clear E E8 E9 E10 EX2 LR2 LN2 LP2 c8
  go_wp2_with fail
  refine (LS2.out _ _ B5w.out R5.out).mono ?_
  rintro e w6 ⟨rfl, hb6⟩
  clear o0 o1 o2 o3 o4 x0 x1 x2 x3 y0 y1 A5 R5 VM5
  have T_6 := zaa (T_5.out.below hb6)
  have VR_6 := zaa ((hb6.block _ (by omega)).trans VR_5.out)
  have VA_6 := zaa ((hb6.block _ (by omega)).trans VA_5.out)
  have hs6 : w5.heap.size ≤ w6.heap.size := hb6.size
  clear hb6 T_5 VR_5 VA_5
  obtain ⟨r0, r1, r2, r3, r4, r5⟩ := tri VA_6.out
  obtain ⟨u0, u1, u2, u3, u4, u5⟩ := tri VR_6.out
  obtain ⟨w7, hw7⟩ : ∃ w7, w7 = w6.setCell ⟨w4.heap.size, 1, none⟩ (.int .i64 rv) := ⟨_, rfl⟩
  have T_7 := zaa (T_6.out.set VA_6.out hz4 1 (.int .i64 rv))
  have VR_7 := zaa (zhb (j := 1) VR_6.out n24 (.int .i64 rv))
  have VA_7 := zaa (puB VA_6.out (.int .i64 rv))
  rw [← hw7] at T_7 VR_7 VA_7
  obtain ⟨w8, hw8⟩ : ∃ w8, w8 = w7.setCell ⟨w4.heap.size, 0, none⟩ (.int .i64 rc) := ⟨_, rfl⟩
  have T_8 := zaa (T_7.out.set VA_7.out hz4 0 (.int .i64 rc))
  have VR_8 := zaa (zhb (j := 0) VR_7.out n24 (.int .i64 rc))
  have VA_8 := zaa (puA VA_7.out (.int .i64 rc))
  rw [← hw8] at T_8 VR_8 VA_8
  go_wp2_with fail
  rw [← hw7, ← hw8]
  clear hw7 hw8 T_6 VR_6 VA_6 T_7 VR_7 VA_7
  clear r0 r1 r2 r3 r4 r5 u0 u1 u2 u3 u4 u5
  have FIN := zaa (zdc (A := ⟨[], rc, rv, []⟩) T_8.out VR_8.out hz2 rfl rfl)
  obtain ⟨r0, r1, r2, r3, r4, r5⟩ := tri VA_8.out
  obtain ⟨u0, u1, u2, u3, u4, u5⟩ := tri VR_8.out
  clear T_8 VR_8 VA_8
  go_region
  all_goals
   go_wp2
   refine bodyPost_ret (v := .tuple #[.slice none 0 0, .agg #[.int .i64 rc, .int .i64 rv, .slice none 0 0], .int .i64 0]) (by simp [results, Tryz.results31, go_sem, u0, u1, u2]) rfl ⟨_, _, rfl, ?_⟩
   first | exact FIN.out | exact FIN.out.drew
 by_cases c10 : k = 10
 case pos =>
  subst c10
  have E := zaa (E10.out rfl)
  obtain rfl := EO.out
  obtain ⟨NN, rc⟩ := NA
  simp only at E LN2
  obtain rfl := E.out
  clear E E8 E9 E10 EX2 LR2 LS2 LP2 c8 c9
  go_wp2_with fail
  refine (LN2.out _ _ B5w.out R5.out).mono ?_
  rintro e w6 ⟨v6, rfl, hr6, hb6⟩
  obtain ⟨-, aN, cN, hvN, -⟩ := hr6.rd
  subst hvN
  clear o0 o1 o2 o3 o4 x0 x1 x2 x3 y0 y1 A5 R5 VM5
  have T_6 := zaa ((T_5.out.below hb6).names (hr6.wide (lo' := w.heap.size) (hi' := w6.heap.size) B5w.out.size (Nat.le_refl _)))
  have VR_6 := zaa ((hb6.block _ (by omega)).trans VR_5.out)
  have VA_6 := zaa ((hb6.block _ (by omega)).trans VA_5.out)
  have hs6 : w5.heap.size ≤ w6.heap.size := hb6.size
  clear hb6 hr6 T_5 VR_5 VA_5
  obtain ⟨r0, r1, r2, r3, r4, r5⟩ := tri VA_6.out
  obtain ⟨u0, u1, u2, u3, u4, u5⟩ := tri VR_6.out
  obtain ⟨w7, hw7⟩ : ∃ w7, w7 = w6.setCell ⟨w4.heap.size, 2, none⟩ (.slice aN NN.length cN) := ⟨_, rfl⟩
  have T_7 := zaa (T_6.out.set VA_6.out hz4 2 (.slice aN NN.length cN))
  have VR_7 := zaa (zhb (j := 2) VR_6.out n24 (.slice aN NN.length cN))
  have VA_7 := zaa (puC VA_6.out (.slice aN NN.length cN))
  rw [← hw7] at T_7 VR_7 VA_7
  obtain ⟨w8, hw8⟩ : ∃ w8, w8 = w7.setCell ⟨w4.heap.size, 0, none⟩ (.int .i64 rc) := ⟨_, rfl⟩
  have T_8 := zaa (T_7.out.set VA_7.out hz4 0 (.int .i64 rc))
  have VR_8 := zaa (zhb (j := 0) VR_7.out n24 (.int .i64 rc))
  have VA_8 := zaa (puA VA_7.out (.int .i64 rc))
  rw [← hw8] at T_8 VR_8 VA_8
  go_wp2_with fail
  rw [← hw7, ← hw8]
  clear hw7 hw8 T_6 VR_6 VA_6 T_7 VR_7 VA_7
  clear r0 r1 r2 r3 r4 r5 u0 u1 u2 u3 u4 u5
  have FIN := zaa (zdc (A := ⟨[], rc, 0, NN⟩) T_8.out VR_8.out hz2 rfl rfl)
  obtain ⟨r0, r1, r2, r3, r4, r5⟩ := tri VA_8.out
  obtain ⟨u0, u1, u2, u3, u4, u5⟩ := tri VR_8.out
  clear T_8 VR_8 VA_8
  go_region
  all_goals
   go_wp2
   refine bodyPost_ret (v := .tuple #[.slice none 0 0, .agg #[.int .i64 rc, .int .i64 0, .slice aN NN.length cN], .int .i64 0]) (by simp [results, Tryz.results31, go_sem, u0, u1, u2]) rfl ⟨_, _, rfl, ?_⟩
   first | exact FIN.out | exact FIN.out.drew
 have E := zaa (EX2.out c8 c9 c10)
 obtain rfl := EO.out
 obtain ⟨L, rc⟩ := OS
 simp only [MiOut] at E LP2
 obtain rfl := E.out
 have q8 : (k == 8) = false := by rw [beq_eq_false_iff_ne]; exact c8
 have q9 : (k == 9) = false := by rw [beq_eq_false_iff_ne]; exact c9
 have q10 : (k == 10) = false := by rw [beq_eq_false_iff_ne]; exact c10
 clear E E8 E9 E10 EX2 LR2 LS2 LN2 c8 c9 c10
 go_wp2_with fail
 refine (LP2.out _ _ B5w.out R5.out).mono ?_
 rintro e w6 ⟨v6, rfl, hr6, hb6⟩
 obtain ⟨-, aS, cS, hvS, -⟩ := hr6.rd
 subst hvS
 clear o0 o1 o2 o3 o4 x0 x1 x2 x3 y0 y1 A5 R5 VM5
 have T_6 := zaa ((T_5.out.below hb6).steps (hr6.wide (lo' := w.heap.size) (hi' := w6.heap.size) B5w.out.size (Nat.le_refl _)))
 have VR_6 := zaa ((hb6.block _ (by omega)).trans VR_5.out)
 have VA_6 := zaa ((hb6.block _ (by omega)).trans VA_5.out)
 have hs6 : w5.heap.size ≤ w6.heap.size := hb6.size
 clear hb6 hr6 T_5 VR_5 VA_5
 obtain ⟨r0, r1, r2, r3, r4, r5⟩ := tri VA_6.out
 obtain ⟨u0, u1, u2, u3, u4, u5⟩ := tri VR_6.out
 obtain ⟨w7, hw7⟩ : ∃ w7, w7 = w6.setCell ⟨w4.heap.size, 0, none⟩ (.int .i64 rc) := ⟨_, rfl⟩
 have T_7 := zaa (T_6.out.set VA_6.out hz4 0 (.int .i64 rc))
 have VR_7 := zaa (zhb (j := 0) VR_6.out n24 (.int .i64 rc))
 have VA_7 := zaa (puA VA_6.out (.int .i64 rc))
 rw [← hw7] at T_7 VR_7 VA_7
 go_wp2_with fail
 rw [← hw7]
 clear hw7 T_6 VR_6 VA_6
 clear r0 r1 r2 r3 r4 r5 u0 u1 u2 u3 u4 u5
 have FIN := zaa (zdc (A := ⟨L, rc, 0, []⟩) T_7.out VR_7.out hz2 rfl rfl)
 obtain ⟨r0, r1, r2, r3, r4, r5⟩ := tri VA_7.out
 obtain ⟨u0, u1, u2, u3, u4, u5⟩ := tri VR_7.out
 clear T_7 VR_7 VA_7
 go_region
 all_goals
  go_wp2
  refine bodyPost_ret (v := .tuple #[.slice aS L.length cS, .agg #[.int .i64 rc, .int .i64 0, .slice none 0 0], .int .i64 0]) (by simp [results, Tryz.results31, go_sem, u0, u1, u2]) rfl ⟨_, _, rfl, ?_⟩
  first | exact FIN.out | exact FIN.out.drew
end Go.Proofs.YtcilodgoognmnaaGreatDoor

namespace Go.Proofs.YtcilodgoognmnaaGreatDoor
open Go.RowKit
set_option maxRecDepth 100000 in
set_option maxHeartbeats 4000000 in
theorem zgp (c v : Int) (va vb : Value) (ss : List ByteArray) (w : World) (ha : RdT w va ss) (hb : RdT w vb ss) (hn : ss.length ≤ 2147483648) :
  Calls Tryz.prog 32 #[.agg #[.int .i64 c, .int .i64 v, va], .agg #[.int .i64 c, .int .i64 v, vb]] w fun e w' => e = .returned (.bool true) ∧ Below w.heap.size w w' := by
 have LE := zaa (fun w1 (h : Below w.heap.size w w1) => zqd va vb ss w1 (Rd.below ha h) (Rd.below hb h) hn)
 obtain ⟨-, aa, ca, rfl, -⟩ := ha
 obtain ⟨-, ab, cb, rfl, -⟩ := hb
 have BW : Hid (Below w.heap.size w ((w.alloc (.cells #[.int .i64 c, .int .i64 v, .slice aa ss.length ca] 75)).alloc (.cells #[.int .i64 c, .int .i64 v, .slice ab ss.length cb] 75))) := ((Below.refl _ _).alloc (Nat.le_refl _) _).alloc (by simp) _
 go_enter Tryz.func32, Tryz.ntmps32
 go_wp2_with fail
 refine (LE.out _ BW.out).mono ?_
 rintro e w1 ⟨rfl, hb1⟩
 have B1 := zaa (zab BW.out hb1 BW.out.size)
 clear hb1
 go_wp2
 go_ret
 exact ⟨rfl, B1.out⟩
set_option maxRecDepth 100000 in
set_option maxHeartbeats 4000000 in
theorem zqt (c v : Int) (vN : Value) (ss : List ByteArray) (k0 : Int) (lo hi : Nat) (w : World) (h : Row w 9 1 lo hi vN ss.length (zcv ss)) (hz : hi ≤ w.heap.size) (hn : ss.length ≤ 16777216) (h0 : 0 ≤ k0) (h1 : k0 ≤ 1099511627776) :
  Calls Tryz.prog 33 #[.agg #[.int .i64 c, .int .i64 v, vN], .int .i64 k0] w fun e w' => e = .returned (.int .i64 (k0 + ss.length)) ∧ Row w' 9 1 lo hi vN ss.length (zcv (zdk k0 ss.length)) ∧ ∃ wa, Below w.heap.size w wa ∧ hi ≤ wa.heap.size ∧ wa.grownBy w' vN.ownBlock := by
 obtain ⟨-, aa, ca, rfl, -⟩ := h.rd
 have BW : Hid (Below w.heap.size w (w.alloc (.cells #[.int .i64 c, .int .i64 v, .slice aa ss.length ca] 75))) := (Below.refl _ _).alloc (Nat.le_refl _) _
 have LM := zaa (zoc (.slice aa ss.length ca) ss k0 lo hi (w.alloc (.cells #[.int .i64 c, .int .i64 v, .slice aa ss.length ca] 75)) (h.below BW.out hz) (Nat.le_trans hz BW.out.size) hn h0 h1)
 have hz2 : hi ≤ (w.alloc (.cells #[.int .i64 c, .int .i64 v, .slice aa ss.length ca] 75)).heap.size := Nat.le_trans hz BW.out.size
 have Z2 := zaa hz2
 clear h hz hz2
 go_enter Tryz.func33, Tryz.ntmps33
 go_wp2_with fail
 refine LM.out.mono ?_
 rintro e w1 ⟨rfl, hr1, hg1, -⟩
 have R1 := zaa hr1
 have G1 := zaa hg1
 clear hr1 hg1 LM
 go_wp2
 go_ret
 exact ⟨rfl, R1.out, _, BW.out, Z2.out, G1.out⟩
set_option maxRecDepth 100000 in
set_option maxHeartbeats 4000000 in
theorem zjc (c v : Int) (vN : Value) (n : Nat) (k0 : Int) (w : World) (h : RdT w vN (zdk k0 n)) (hn : n ≤ 16777216) (h0 : 0 ≤ k0) (h1 : k0 ≤ 1099511627776) :
  Calls Tryz.prog 34 #[.agg #[.int .i64 c, .int .i64 v, vN], .int .i64 k0] w fun e w' => e = .returned (.int .i64 (k0 + n)) ∧ Below w.heap.size w w' := by
 have LH := zaa (fun w1 (hb : Below w.heap.size w w1) => zpd vN n k0 w1 (Rd.below h hb) hn h0 h1)
 obtain ⟨-, aa, ca, e, -⟩ := h
 rw [zdm] at e
 subst e
 have BW : Hid (Below w.heap.size w (w.alloc (.cells #[.int .i64 c, .int .i64 v, .slice aa n ca] 75))) := (Below.refl _ _).alloc (Nat.le_refl _) _
 have q : ¬ k0 + (n : Int) < 0 := by omega
 go_enter Tryz.func34, Tryz.ntmps34
 go_wp2_with fail
 refine (LH.out _ BW.out).mono ?_
 rintro e w1 ⟨rfl, hb1⟩
 have B1 := zaa (zab BW.out hb1 BW.out.size)
 clear hb1
 go_wp2
 go_ret
 exact ⟨rfl, B1.out⟩
theorem zug {w w' : World} {base : Nat} {e t : TypeId} {size : Nat} {v : Value} {n : Nat} {xs : List Value} {b : Nat} {c : Array Value} {fr : Nat × Nat} (h : w.ownsRow base e size v n xs) (hb : w.heap[b]? = some (.cells c t fr)) (hne : e ≠ t) (hg : w.grownBy w' v.ownBlock) : w'.heap[b]? = some (.cells c t fr) :=
 (hg.block b (Array.getElem?_eq_some_iff.1 hb).1 (fun q => zcc h hb hne q.symm)).trans hb
structure CutO (w0 wx : World) (vS vN : Value) (bx : Nat) (A : OpA) : Prop where
 t : OpT w0 wx vS vN A.steps A.names
 bx0 : w0.heap.size ≤ bx
 box : wx.heap[bx]? = some (.cells #[.int .i64 A.code, .int .i64 A.val, vN] 75 (0, 0))
theorem CutO.new {w0 wf : World} {vS vN : Value} {A : OpA} (h : OpT w0 wf vS vN A.steps A.names) : CutO w0 (wf.alloc (.cells #[.int .i64 A.code, .int .i64 A.val, vN] 75)) vS vN wf.heap.size A :=
 ⟨h.below ((Below.refl _ _).alloc (Nat.le_refl _) _), h.b.size, zah rfl⟩
theorem CutO.old {w0 wf : World} {vS vN : Value} {bx : Nat} {A : OpA} {x y z : Value} (h : OpT w0 wf vS vN A.steps A.names) (hb : wf.heap[bx]? = some (.cells #[x, y, z] 75 (0, 0))) (hx : w0.heap.size ≤ bx) : CutO w0 (((wf.setCell ⟨bx, 0, none⟩ (.int .i64 A.code)).setCell ⟨bx, 1, none⟩ (.int .i64 A.val)).setCell ⟨bx, 2, none⟩ vN) vS vN bx A :=
 ⟨((h.set hb hx 0 _).set (puA hb _) hx 1 _).set (puB (puA hb _) _) hx 2 _, hx, puC (puB (puA hb _) _) _⟩
end Go.Proofs.YtcilodgoognmnaaGreatDoor

namespace Go.Proofs.YtcilodgoognmnaaGreatDoor
open Go.RowKit
set_option maxRecDepth 100000 in
set_option maxHeartbeats 2000000 in
theorem zst (k : Int) (p t : ByteArray) (g x : Int) (w : World) : Calls Tryz.prog 30 #[.agg #[.int .i64 k, .string p, .string t, .int .i64 g, .int .i64 x]] w fun e w' => e = .returned (.agg #[.int .i64 k, .string p, .string t, .int .i64 g, .int .i64 x]) ∧ Below w.heap.size w w' := by
 go_enter Tryz.func30, Tryz.ntmps30
 go_wp2
 refine bodyPost_ret (v := .agg #[.int .i64 k, .string p, .string t, .int .i64 g, .int .i64 x]) (by simp [results, Tryz.results30, go_sem]) rfl ⟨rfl, ?_⟩
 repeat (first | exact Below.refl _ _ | refine Below.setCell ?_ (by simp only; omega) _ | refine Below.alloc ?_ (by simp <;> omega) _)
def opZ (p t : ByteArray) (left : Int) : Int := if left < (p.size : Int) + (t.size : Int) then -1 else left - (p.size : Int) - (t.size : Int)
set_option maxRecDepth 100000 in
set_option maxHeartbeats 2000000 in
theorem szOp_any (k : Int) (p t : ByteArray) (g x left : Int) (w : World) (hp : p.size ≤ maxLen) (ht : t.size ≤ maxLen) (h0 : 0 ≤ left) (h1 : left ≤ 1048576) : Calls Tryz.prog 28 #[.agg #[.int .i64 k, .string p, .string t, .int .i64 g, .int .i64 x], .int .i64 left] w fun e w' => e = .returned (.int .i64 (opZ p t left)) ∧ Below w.heap.size w w' := by
 unfold maxLen at hp ht
 have EO := zaa (show opZ p t left = if left < (p.size : Int) + (t.size : Int) then -1 else left - (p.size : Int) - (t.size : Int) from rfl)
 have BW := zaa ((Below.refl w.heap.size w).alloc (Nat.le_refl _) (.cells #[.int .i64 k, .string p, .string t, .int .i64 g, .int .i64 x] 71))
 generalize opZ p t left = r at *
 by_cases c : left < (p.size : Int)
 ·rw [if_pos (by omega)] at EO
  obtain rfl := EO.out
  have c' : left - (p.size : Int) < 0 := by omega
  go_enter Tryz.func28, Tryz.ntmps28
  go_wp2
  go_ret
  exact ⟨rfl, BW.out⟩
 have c' : ¬ left - (p.size : Int) < 0 := by omega
 by_cases d : left < (p.size : Int) + (t.size : Int)
 ·rw [if_pos d] at EO
  obtain rfl := EO.out
  have d' : left - (p.size : Int) - (t.size : Int) < 0 := by omega
  go_enter Tryz.func28, Tryz.ntmps28
  go_wp2
  go_ret
  exact ⟨rfl, BW.out⟩
 ·rw [if_neg d] at EO
  obtain rfl := EO.out
  have d' : ¬ left - (p.size : Int) - (t.size : Int) < 0 := by omega
  go_enter Tryz.func28, Tryz.ntmps28
  go_wp2
  go_ret
  exact ⟨rfl, BW.out⟩
end Go.Proofs.YtcilodgoognmnaaGreatDoor

namespace Go.Proofs.YtcilodgoognmnaaGreatDoor
open Go.RowKit
theorem zak {a w : World} (h : Below a.heap.size a w) (o : Obj) : Below a.heap.size a (w.alloc o) := h.alloc h.size o
end Go.Proofs.YtcilodgoognmnaaGreatDoor
