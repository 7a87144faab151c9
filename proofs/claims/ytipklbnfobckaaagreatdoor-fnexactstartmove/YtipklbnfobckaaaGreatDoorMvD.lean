/- Moves are planned: by the program. -/
import Derived.Test.YtipklbnfobckaaaGreatDoorZBK
import Derived.Test.YtipklbnfobckaaaGreatDoorZBQ
import Derived.Test.YtipklbnfobckaaaGreatDoorZBJ
namespace Go.Proofs.YtipklbnfobckaaaGreatDoor
open Go.RowKit

theorem ap_one (a e : Int) : apM [⟨a, e⟩] 1 = [⟨1, a, e⟩] := rfl
theorem part_one (a e : Int) (h : 0 ≤ a ∧ a < 336) : ∀ k (h : k < ([[⟨1, a, e⟩]] : List (List Mi)).length), PartOK ([[⟨1, a, e⟩]] : List (List Mi))[k] := fun k hk => by
 obtain rfl : k = 0 := by simp at hk; omega
 refine ⟨by simp, fun j hj => ?_⟩
 obtain rfl : j = 0 := by simp at hj; omega
 exact h
theorem zub {w1 : World} {t : TypeId} {a1 : Option Addr} {n c1 : Nat} {A : List Mi} (hn : A.length = n) (h : RdM w1 (.slice a1 n c1) A) : ∀ k (h : k < [A].length), ∃ a c, (w1.alloc (.cells #[.slice a1 n c1] t)).cell? ⟨w1.heap.size, 0 + k, none⟩ = some (.slice a [A][k].length c) ∧ RdM (w1.alloc (.cells #[.slice a1 n c1] t)) (.slice a [A][k].length c) [A][k] := fun k hk => by
 obtain rfl : k = 0 := by simp at hk; omega
 refine ⟨a1, c1, ?_, ?_⟩
 ·have q : (w1.alloc (.cells #[.slice a1 n c1] t)).heap[w1.heap.size]? = some (.cells ([.slice a1 n c1] : List Value).toArray t (0, 0)) := zah rfl
  rw [(zay q (0 + 0)).1]
  simp [hn]
 ·show RdM _ (.slice a1 A.length c1) A
  rw [hn]
  exact Rd.below h ((Below.refl _ _).alloc (Nat.le_refl _) _)
theorem en_nat (ns : List Ino) (i p : Nat) : enI ns (i : Int) (p : Int) = (zar ns i).map.getD p 0 := by unfold enI; rw [Int.toNat_natCast, Int.toNat_natCast]

set_option maxRecDepth 100000 in
set_option maxHeartbeats 16000000 in
theorem zmu (v : Value) (ws : List Int) (ps : List St) (es : List Int) (qs : List Se) (i p : Int) (w : World) (h : RdDev w v ws ps es qs) (hw : ws.length ≤ 1048576) (hp : ps.length ≤ 1048576) (he : es.length ≤ 1048576) (hq : qs.length ≤ 1048576) (hT : TS w) (hE : ED w) (hF : FD w) (hN : NW w) :
  Calls Tryz.prog 206 #[v, .int .i64 i, .int .i64 p, .int .i64 1, .int .i64 2] w fun e w' => zqn w w' e (deR2 ws ps es qs i p) := by
 have LI := zaa (fun w1 (hb : Below w.heap.size w w1) => zdq v ws ps es qs w1 (h.below hb) hw hp he hq (hT.below hb) (hE.below hb) (hF.below hb))
 have LO := zaa (fun v2 w1 (hb : Below w.heap.size w w1) h2 => zbi v2 (dvN ws ps es qs) (dvD ws ps es qs) w1 h2 (zfq ws ps es qs).1 (zfq ws ps es qs).2 (hT.below hb) (hE.below hb) (hF.below hb) dv_R zha)
 rw [zjv] at LO
 have LFr : Hid (dvB ws ps es qs = true → ∀ v2 w1, Below w.heap.size w w1 → RdIm w1 v2 (dvN ws ps es qs) (dvD ws ps es qs) → Calls Tryz.prog 270 #[v2, .int .i64 2] w1 fun e w' => e = .returned (.tuple #[.int .i64 (zri (fsI (dvN ws ps es qs))), .int .i64 (zsv (fsI (dvN ws ps es qs)))]) ∧ Below w1.heap.size w1 w') := fun d v2 w1 hb h2 => by
  have q := zfr v2 (dvN ws ps es qs) (dvD ws ps es qs) 2 32 w1 h2 (zfq ws ps es qs).1 (zfq ws ps es qs).2 (hT.below hb) (hE.below hb) (hF.below hb) dv_R zha (by omega)
  rw [zjv, d] at q
  exact q
 have LT := zaa (fun z w1 (hb : Below w.heap.size w w1) (z0 : 0 ≤ z) (z1 : z ≤ 1048576) => zbm z w1 (hT.below hb) (by omega) (by omega))
 have LE := zaa (fun t a w1 (hb : Below w.heap.size w w1) => zeu t a w1 (hT.below hb))
 have LV := zaa (fun (d : dvB ws ps es qs = true) z (te : zdl z = true) w1 (hb : Below w.heap.size w w1) => zle v ws ps es qs z w1 (h.below hb) (zjp d).1 (zjp d).2.1 te (hT.below hb) (hN.below hb))
 have IM := zaa (fun (d : dvB ws ps es qs = true) => show zdm (dvN ws ps es qs) (dvD ws ps es qs) = true by rw [zjv]; exact d)
 have EL := zaa (show deR2 ws ps es qs i p = if mvC (dvB ws ps es qs) i p = 0 then deF (dvN ws ps es qs) (enI (dvN ws ps es qs) i p) (pgV ws ps es qs (enI (dvN ws ps es qs) i p)) i p else ([], mvC (dvB ws ps es qs) i p) from rfl)
 have EC := zaa (show mvC (dvB ws ps es qs) i p = if dvB ws ps es qs = true then (if (0 ≤ i ∧ i ≤ 15) ∧ (0 ≤ p ∧ p ≤ 7) then 0 else 4) else 1 from rfl)
 have PGV := zaa (fun z => show pgV ws ps es qs z = pgV ws ps es qs z from rfl)
 obtain ⟨dW, eW, dP, eP, dS, eS, dQ, eQ, rfl, -, -⟩ := h.form
 clear h hT hE hF hN
 obtain ⟨W, hW⟩ : ∃ W, W = w.alloc (.cells #[.slice dW ws.length eW, .slice dP ps.length eP, .slice dS es.length eS, .slice dQ qs.length eQ] 46) := ⟨_, rfl⟩
 have CD : Hid (∀ w', Below W.heap.size W w' → w'.cell? ⟨w.heap.size, 0, none⟩ = some (.slice dW ws.length eW) ∧ w'.cell? ⟨w.heap.size, 1, none⟩ = some (.slice dP ps.length eP) ∧ w'.cell? ⟨w.heap.size, 2, none⟩ = some (.slice dS es.length eS) ∧ w'.cell? ⟨w.heap.size, 3, none⟩ = some (.slice dQ qs.length eQ)) := fun w' hb => by
  have : w'.heap[w.heap.size]? = some (.cells #[.slice dW ws.length eW, .slice dP ps.length eP, .slice dS es.length eS, .slice dQ qs.length eQ] 46 (0, 0)) := (hb.block _ (by rw [hW]; simp)).trans (by rw [hW]; exact zah rfl)
  obtain ⟨x0, x1, x2, x3, -, -, -, -⟩ := zan this
  exact ⟨x0, x1, x2, x3⟩
 have BW : Hid (Below w.heap.size w W) := by rw [hW]; exact (Below.refl _ _).alloc (Nat.le_refl _) _
 obtain ⟨x0, x1, x2, x3⟩ := CD.out _ (Below.refl _ _)
 clear PGV
 generalize hres : deR2 ws ps es qs i p = res at *
 generalize mvC (dvB ws ps es qs) i p = mc at *
 generalize dvB ws ps es qs = db at *
 generalize dvN ws ps es qs = dn at *
 generalize dvD ws ps es qs = dd at *
 clear hres
 go_enter Tryz.func206, Tryz.ntmps206
 go_wp2_with fail
 rw [← hW]
 clear hW
 refine (LI.out _ BW.out).mono ?_
 rintro e w1 ⟨v1, rfl, hR, hb1⟩
 have HR := zaa hR
 obtain ⟨vI, vD, rfl, hI, hD⟩ := hR
 obtain ⟨-, a1, k1, hv1, -⟩ := hI.rd
 obtain ⟨-, a2, k2, hv2, -⟩ := hD.rd
 subst hv1
 subst hv2
 have A1 := zaa hb1
 have B1 := zaa (zab BW.out hb1 BW.out.size)
 clear hI hD hb1 x0 x1 x2 x3 LI
 obtain ⟨V, hV⟩ : ∃ V, V = w1.alloc (.cells #[.slice a1 dn.length k1, .slice a2 dd.length k2] 83) := ⟨_, rfl⟩
 have BC : Hid (Below w1.heap.size w1 V) := by rw [hV]; exact (Below.refl _ _).alloc (Nat.le_refl _) _
 have CM : Hid (∀ w', Below V.heap.size V w' → w'.cell? ⟨w1.heap.size, 0, none⟩ = some (.slice a1 dn.length k1) ∧ w'.cell? ⟨w1.heap.size, 1, none⟩ = some (.slice a2 dd.length k2)) := fun w' hb => by
  have : w'.heap[w1.heap.size]? = some (.cells #[.slice a1 dn.length k1, .slice a2 dd.length k2] 83 (0, 0)) := (hb.block _ (by rw [hV]; simp)).trans (by rw [hV]; exact zah rfl)
  exact ⟨(zad this).1, (zad this).2.1⟩
 have AV := zaa (zab A1.out BC.out A1.out.size)
 have BV := zaa (zab B1.out BC.out B1.out.size)
 have RM : Hid (∀ w', Below V.heap.size V w' → RdIm w' (.agg #[.slice a1 dn.length k1, .slice a2 dd.length k2]) dn dd) := fun w' hb => (HR.out.below (zab BC.out hb BC.out.size) (Nat.le_refl _)).rd
 obtain ⟨y0, y1⟩ := CM.out _ (Below.refl _ _)
 rw [hV] at y0 y1
 clear HR A1 B1
 go_wp2_with fail
 rw [← hV]
 clear hV y0 y1
 refine (LO.out _ _ BV.out (RM.out _ (Below.refl _ _))).mono ?_
 rintro e w2 ⟨rfl, hb2⟩
 have V2 := zaa hb2
 have B2 := zaa (zab BV.out hb2 BV.out.size)
 clear hb2 LO
 cases db with
 | false =>
  rw [if_neg (fun q => by cases q)] at EC
  obtain rfl := EC.out
  rw [if_neg (by decide)] at EL
  obtain rfl := EL.out
  clear EL EC LFr LV IM
  go_wp2
  go_ret2
  exact zka B2.out
 | true =>
 rw [if_pos rfl] at EC
 by_cases c : (0 ≤ i ∧ i < 16) ∧ (0 ≤ p ∧ p < 8)
 case neg =>
  rw [if_neg (by omega)] at EC
  obtain rfl := EC.out
  rw [if_neg (by decide)] at EL
  obtain rfl := EL.out
  clear EL EC LFr LV IM
  go_wp2_with fail
  refine (zsr _ _ _ c).mono ?_
  rintro e w' ⟨rfl, hw'⟩
  subst w'
  go_wp2
  go_ret2
  exact zka B2.out
 rw [if_pos (by omega)] at EC
 obtain rfl := EC.out
 rw [if_pos rfl] at EL
 have IMG := IM.out rfl
 have LFr1 := zaa (LFr.out rfl)
 have LV1 := zaa (LV.out rfl)
 obtain ⟨a, rfl⟩ : ∃ a : Nat, i = (a : Int) := ⟨i.toNat, by omega⟩
 obtain ⟨b, rfl⟩ : ∃ b : Nat, p = (b : Int) := ⟨p.toNat, by omega⟩
 have a16 : a < 16 := by omega
 have b8 : b < 8 := by omega
 have TE := zaa (zon IMG a16 b)
 have EN := zaa (en_nat dn a b)
 rw [EN.out] at EL
 obtain ⟨l16, -⟩ := zdr IMG
 have L16 := zaa l16
 obtain ⟨z0, z1⟩ := zcd TE.out
 have TI := zaa (zvh TE.out (t := 1) (.inl rfl))
 have HM : Hid (∃ bW oW, a1 = some ⟨bW, oW, none⟩ ∧ ∀ w', Below V.heap.size V w' → w'.cell? ⟨bW, oW + a * 11 + 3 + b, none⟩ = some (.int .i64 ((zar dn a).map.getD b 0))) := by
  obtain ⟨_, _, e1, h1, _⟩ := RM.out V (Below.refl _ _)
  simp only [Value.agg.injEq, Array.mk.injEq, List.cons.injEq, and_true] at e1
  obtain ⟨rfl, rfl⟩ := e1
  obtain ⟨aW, cW, e2, _, hcW⟩ := h1.shape
  obtain ⟨rfl, -, rfl⟩ := Value.slice.inj e2
  obtain ⟨bW, oW, rfl, hblW, hcellW⟩ := hcW (by have := L16.out; omega)
  refine ⟨bW, oW, rfl, fun w' hb => ?_⟩
  rw [zbr (by have := L16.out; omega : a < dn.length)]
  obtain ⟨a0, a1, a2, a3, a4, a5, a6, a7, a8, a9, a10⟩ := hcellW a (by have := L16.out; omega)
  rcases (show b = 0 ∨ b = 1 ∨ b = 2 ∨ b = 3 ∨ b = 4 ∨ b = 5 ∨ b = 6 ∨ b = 7 by omega) with rfl | rfl | rfl | rfl | rfl | rfl | rfl | rfl
  ·exact (hb.cell (p := ⟨bW, oW + a * 11 + 3, none⟩) hblW).trans a3
  ·exact (hb.cell (p := ⟨bW, oW + a * 11 + 4, none⟩) hblW).trans a4
  ·exact (hb.cell (p := ⟨bW, oW + a * 11 + 5, none⟩) hblW).trans a5
  ·exact (hb.cell (p := ⟨bW, oW + a * 11 + 6, none⟩) hblW).trans a6
  ·exact (hb.cell (p := ⟨bW, oW + a * 11 + 7, none⟩) hblW).trans a7
  ·exact (hb.cell (p := ⟨bW, oW + a * 11 + 8, none⟩) hblW).trans a8
  ·exact (hb.cell (p := ⟨bW, oW + a * 11 + 9, none⟩) hblW).trans a9
  ·exact (hb.cell (p := ⟨bW, oW + a * 11 + 10, none⟩) hblW).trans a10
 obtain ⟨bW, oW, ea, HC0⟩ := HM.out
 have HC := zaa HC0
 subst ea
 have i0 : (0 : Int) ≤ (a : Int) := by omega
 have i1 : (a : Int) < (dn.length : Int) := by have := L16.out; omega
 have p0 : (0 : Int) ≤ (b : Int) := by omega
 have p1 : (b : Int) < 8 := by omega
 clear HM HC0 EN L16 l16 IMG IM LFr LV EC
 generalize (zar dn a).map.getD b 0 = z at *
 have LV2 := zaa (fun w1 hb => LV1.out z TE.out w1 hb)
 generalize pgV ws ps es qs z = x at *
 have EF := zaa (show deF dn z x (a : Int) (b : Int) = if z = 0 ∨ ¬ z % 4 = 1 then ([], 5) else if fsI dn < 0 then ([], 7) else (deS dn x ++ swL (a : Int) (b : Int) (4 * fsI dn + 2), 0) from rfl)
 rw [EF.out] at EL
 clear EF LV1
 go_wp2_with fail
 refine (znw _ _ _ c).mono ?_
 rintro e w' ⟨rfl, hw'⟩
 subst w'
 obtain ⟨y0, y1⟩ := CM.out _ V2.out
 have e0 := HC.out _ V2.out
 have LT1 := zaa (LT.out z _ B2.out z0 z1)
 clear LT HC c
 go_wp2_with fail
 refine LT1.out.mono ?_
 rintro e w' ⟨rfl, hw'⟩
 subst w'
 clear e0 LT1
 by_cases q : z = 0 ∨ ¬ z % 4 = 1
 ·rw [if_pos q] at EL
  have q' : (zos z != 1) = true := by
   rw [bne_iff_ne]
   intro e
   exact TI.out.1 (beq_iff_eq.2 e) q
  obtain rfl := EL.out
  generalize zos z = tz at *
  generalize tieA z = ta at *
  generalize tieC z = tc at *
  clear EL q TI LFr1 LV2 TE y0 y1
  go_wp2
  go_ret2
  exact zka B2.out
 rw [if_neg q] at EL
 have q' : (zos z != 1) = false := by rw [bne_eq_false_iff_eq]; exact beq_iff_eq.1 (TI.out.2 q)
 generalize zos z = tz at *
 generalize tieA z = ta at *
 generalize tieC z = tc at *
 clear q TI TE
 go_wp2_with fail
 refine (LFr1.out _ _ B2.out (RM.out _ V2.out)).mono ?_
 rintro e w3 ⟨rfl, hb3⟩
 have V3 := zaa (zab V2.out hb3 V2.out.size)
 have B3 := zaa (zab B2.out hb3 B2.out.size)
 clear hb3 LFr1 y0 y1 V2 B2
 by_cases c : fsI dn < 0
 ·rw [if_pos c] at EL
  rw [show zri (fsI dn) = 0 from if_pos c, show zsv (fsI dn) = 7 from if_pos c]
  obtain rfl := EL.out
  clear EL LV2 c
  go_wp2
  go_ret2
  exact zka B3.out
 rw [if_neg c] at EL
 rw [show zri (fsI dn) = fsI dn from if_neg c, show zsv (fsI dn) = 0 from if_neg c]
 have fb := fs_bound dn
 have ES := zaa (show deS dn x = [⟨4, fsI dn, x⟩, ⟨5, 0, 0⟩] from rfl)
 rw [ES.out] at EL
 clear ES
 generalize fsI dn = f at *
 have f0 : 0 ≤ f := by omega
 have EE := zaa (show entV 2 f = 4 * f + 2 by unfold entV zdx; rw [if_pos (by simp; omega)])
 have ff : 0 ≤ 3 + (b : Int) ∧ 3 + (b : Int) < 11 := by omega
 have wf : IntKind.i64.wrap (3 + (b : Int)) = 3 + (b : Int) := by rw [IntKind.wrap_i64]; omega
 have ar : 0 ≤ 48 + 12 * (a : Int) + (3 + (b : Int)) ∧ 48 + 12 * (a : Int) + (3 + (b : Int)) < 336 := by omega
 have ESW := zaa (show swL (a : Int) (b : Int) (4 * f + 2) = zci [[⟨1, 48 + 12 * (a : Int) + (3 + (b : Int)), 4 * f + 2⟩]] 1 from (zpm _).symm)
 have l7 := zls (a : Int) (b : Int) (4 * f + 2)
 rw [ESW.out] at l7 EL
 clear ESW c
 have LE1 := zaa (LE.out 2 f _ B3.out)
 rw [EE.out] at LE1
 clear LE EE
 generalize entC 2 f = ec at *
 go_wp2_with fail
 refine LE1.out.mono ?_
 rintro e w' ⟨rfl, hw'⟩
 subst w'
 clear LE1
 have LU := zaa (fun w1 => zfz (a : Int) (3 + (b : Int)) (4 * f + 2) w1 ⟨i0, by omega⟩ ff)
 go_wp2_with fail
 refine (LU.out _).mono ?_
 rintro e w4 ⟨rfl, hb4⟩
 have V4 := zaa (zab V3.out hb4 V3.out.size)
 have B4 := zaa (zab B3.out hb4 B3.out.size)
 clear hb4 LU V3 B3
 generalize 48 + 12 * (a : Int) + (3 + (b : Int)) = at_ at *
 generalize hE : 4 * f + 2 = E at *
 obtain ⟨U, hU⟩ : ∃ U, U = w4.alloc (.cells #[.int .i64 at_, .int .i64 E] 244) := ⟨_, rfl⟩
 have BU : Hid (Below w4.heap.size w4 U) := by rw [hU]; exact (Below.refl _ _).alloc (Nat.le_refl _) _
 have RU : Hid (RdE U (.slice (some ⟨w4.heap.size, 0, none⟩) 1 1) [⟨at_, E⟩]) := by rw [hU]; exact rd_upd w4 at_ E
 have V5 := zaa (zab V4.out BU.out V4.out.size)
 have B5 := zaa (zab B4.out BU.out B4.out.size)
 obtain ⟨x0, x1, x2, x3⟩ := CD.out _ (zab AV.out V5.out AV.out.size)
 rw [hU] at x0 x1 x2 x3
 go_wp2_with fail
 rw [← hU]
 clear hU x0 x1 x2 x3 V4 B4 CM
 refine (LV2.out _ B5.out).mono ?_
 rintro e w6 ⟨rfl, hb6⟩
 have B6 := zaa (zab B5.out hb6 B5.out.size)
 have RU6 : Hid (RdE w6 (.slice (some ⟨w4.heap.size, 0, none⟩) 1 1) [⟨at_, E⟩]) := Rd.below RU.out hb6
 clear hb6 RU LV2 V5 B5
 go_wp2_with fail
 refine (zta f x _).mono ?_
 rintro e w7 ⟨v7, rfl, hr7, hb7⟩
 have M7 : Hid (MiI w w7 v7 ([⟨4, f, x⟩, ⟨5, 0, 0⟩])) := ⟨(hr7.wide B6.out.size (Nat.le_refl _)).1, zab B6.out hb7 B6.out.size⟩
 have RU7 : Hid (RdE w7 (.slice (some ⟨w4.heap.size, 0, none⟩) 1 1) [⟨at_, E⟩]) := Rd.below RU6.out hb7
 obtain ⟨-, a7, c7, hv7, -⟩ := hr7.rd
 subst hv7
 have l8 : ([⟨4, f, x⟩, ⟨5, 0, 0⟩] : List Mi).length ≤ 3 := by simp
 clear hr7 hb7 RU6 B6
 generalize ([⟨4, f, x⟩, ⟨5, 0, 0⟩] : List Mi) = PL at *
 go_wp2_with fail
 refine (zop _ [⟨at_, E⟩] _ RU7.out (by simp)).mono ?_
 rw [show ([⟨at_, E⟩] : List Se).length = 1 from rfl, ap_one]
 rintro e w8 ⟨v8, rfl, hr8, hb8⟩
 obtain ⟨a8, c8, e8⟩ := RdM.form hr8.rd (n := 1) rfl
 subst e8
 have M8 := zaa (M7.out.below hb8)
 have PT := zaa (zub (t := 47) (A := [⟨1, at_, E⟩]) (n := 1) rfl hr8.rd)
 have PK := zaa (part_one at_ E ar)
 have M9 := zaa (M8.out.below ((Below.refl _ _).alloc (Nat.le_refl _) (.cells #[.slice a8 1 c8] 47)))
 clear hr8 hb8 M7 RU7 M8
 go_wp2_with fail
 refine (zfo w8.heap.size 0 1 [[⟨1, at_, E⟩]] _ (by simp) (by simp) PT.out PK.out).mono ?_
 rw [show ([[⟨1, at_, E⟩]] : List (List Mi)).length = 1 from rfl]
 generalize zci [[(⟨1, at_, E⟩ : Mi)]] 1 = SL at *
 rintro e w9 ⟨v9, rfl, hr9, hb9⟩
 have MA := zaa (M9.out.below hb9)
 have RA := zaa hr9.rd
 have hzA := MA.out.z
 clear hr9 hb9 M9 PT PK
 go_wp2_with (at_builtin; refine zai _ rfl (.tmp 74) (.tmp 78) 47 rfl w.heap.size 79 (.agg #[.int .i64 0, .int .i64 0, .int .i64 0]) 3 24 Tryz.underlying47 zcb rfl (by decide) _ _ _ rfl MA.out.l _ _ _ rfl RA.out (zdn _) (by first | omega | (simp [maxLen]; done) | (simp [maxLen]; omega)) (by first | omega | (simp; done) | (simp; omega)) hzA ?_)
 intro vT wT hownT hgrT
 have M := zaa (MA.out.grow SL hownT hgrT)
 obtain ⟨-, aT, cT, hvT, -⟩ := (zaf hownT).rd
 subst hvT
 obtain rfl := EL.out
 clear hownT hgrT MA RA EL
 go_wp2
 go_ret2
 exact ⟨_, rfl, zaf M.out.l, M.out.b⟩

set_option maxRecDepth 100000 in
set_option maxHeartbeats 8000000 in
theorem zhz (v : Value) (ws : List Int) (ps : List St) (es : List Int) (qs : List Se) (i p : Int) (w : World) (h : RdDev w v ws ps es qs) (hw : ws.length ≤ 1048576) (hp : ps.length ≤ 1048576) (he : es.length ≤ 1048576) (hq : qs.length ≤ 1048576) (hT : TS w) (hE : ED w) (hF : FD w) (hN : NW w) :
  Calls Tryz.prog 136 #[v, .int .i64 i, .int .i64 p] w fun e w' => zqn w w' e (deR2 ws ps es qs i p) := by
 have LI := zaa (fun w1 (hb : Below w.heap.size w w1) => zmu v ws ps es qs i p w1 (h.below hb) hw hp he hq (hT.below hb) (hE.below hb) (hF.below hb) (hN.below hb))
 obtain ⟨dW, eW, dP, eP, dS, eS, dQ, eQ, rfl, -, -⟩ := h.form
 clear h hT hE hF hN
 obtain ⟨W, hW⟩ : ∃ W, W = w.alloc (.cells #[.slice dW ws.length eW, .slice dP ps.length eP, .slice dS es.length eS, .slice dQ qs.length eQ] 46) := ⟨_, rfl⟩
 have BW : Hid (Below w.heap.size w W) := by rw [hW]; exact (Below.refl _ _).alloc (Nat.le_refl _) _
 obtain ⟨x0, x1, x2, x3, -, -, -, -⟩ := zan (zah (w := w) (o := .cells #[.slice dW ws.length eW, .slice dP ps.length eP, .slice dS es.length eS, .slice dQ qs.length eQ] 46) rfl)
 generalize deR2 ws ps es qs i p = res at *
 go_enter Tryz.func136, Tryz.ntmps136
 go_wp2_with fail
 rw [← hW]
 clear hW x0 x1 x2 x3
 refine (LI.out _ BW.out).mono ?_
 rintro e w3 ⟨v3, rfl, hr3, hb3⟩
 have B3 := zaa (zab BW.out hb3 BW.out.size)
 have R3 := zaa (hr3.wide BW.out.size (Nat.le_refl _))
 obtain ⟨-, a3, k3, hv3, -⟩ := hr3.rd
 subst hv3
 clear hr3 hb3
 go_wp2
 go_ret2
 exact ⟨_, rfl, R3.out, B3.out⟩

set_option maxRecDepth 100000 in
set_option maxHeartbeats 16000000 in
theorem zlr (v : Value) (ws : List Int) (ps : List St) (es : List Int) (qs : List Se) (i p : Int) (w : World) (h : RdDev w v ws ps es qs) (hw : ws.length ≤ 1048576) (hp : ps.length ≤ 1048576) (he : es.length ≤ 1048576) (hq : qs.length ≤ 1048576) (hT : TS w) (hE : ED w) (hF : FD w) (hN : NW w) :
  Calls Tryz.prog 206 #[v, .int .i64 i, .int .i64 p, .int .i64 2, .int .i64 1] w fun e w' => zqn w w' e (prR2 ws ps es qs i p) := by
 have LI := zaa (fun w1 (hb : Below w.heap.size w w1) => zdq v ws ps es qs w1 (h.below hb) hw hp he hq (hT.below hb) (hE.below hb) (hF.below hb))
 have LO := zaa (fun v2 w1 (hb : Below w.heap.size w w1) h2 => zbi v2 (dvN ws ps es qs) (dvD ws ps es qs) w1 h2 (zfq ws ps es qs).1 (zfq ws ps es qs).2 (hT.below hb) (hE.below hb) (hF.below hb) dv_R zha)
 rw [zjv] at LO
 have LFr : Hid (dvB ws ps es qs = true → ∀ v2 w1, Below w.heap.size w w1 → RdIm w1 v2 (dvN ws ps es qs) (dvD ws ps es qs) → Calls Tryz.prog 270 #[v2, .int .i64 1] w1 fun e w' => e = .returned (.tuple #[.int .i64 (zri (fpI (dvN ws ps es qs))), .int .i64 (zsv (fpI (dvN ws ps es qs)))]) ∧ Below w1.heap.size w1 w') := fun d v2 w1 hb h2 => by
  have q := zfr v2 (dvN ws ps es qs) (dvD ws ps es qs) 1 24 w1 h2 (zfq ws ps es qs).1 (zfq ws ps es qs).2 (hT.below hb) (hE.below hb) (hF.below hb) dv_R zha (by omega)
  rw [zjv, d] at q
  exact q
 have LT := zaa (fun z w1 (hb : Below w.heap.size w w1) (z0 : 0 ≤ z) (z1 : z ≤ 1048576) => zbm z w1 (hT.below hb) (by omega) (by omega))
 have LE := zaa (fun t a w1 (hb : Below w.heap.size w w1) => zeu t a w1 (hT.below hb))
 have LV := zaa (fun (d : dvB ws ps es qs = true) z (te : zdl z = true) w1 (hb : Below w.heap.size w w1) => zle v ws ps es qs z w1 (h.below hb) (zjp d).1 (zjp d).2.1 te (hT.below hb) (hN.below hb))
 have IM := zaa (fun (d : dvB ws ps es qs = true) => show zdm (dvN ws ps es qs) (dvD ws ps es qs) = true by rw [zjv]; exact d)
 have EL := zaa (show prR2 ws ps es qs i p = if mvC (dvB ws ps es qs) i p = 0 then prF (dvN ws ps es qs) (enI (dvN ws ps es qs) i p) (pgV ws ps es qs (enI (dvN ws ps es qs) i p)) i p else ([], mvC (dvB ws ps es qs) i p) from rfl)
 have EC := zaa (show mvC (dvB ws ps es qs) i p = if dvB ws ps es qs = true then (if (0 ≤ i ∧ i ≤ 15) ∧ (0 ≤ p ∧ p ≤ 7) then 0 else 4) else 1 from rfl)
 have PGV := zaa (fun z => show pgV ws ps es qs z = pgV ws ps es qs z from rfl)
 obtain ⟨dW, eW, dP, eP, dS, eS, dQ, eQ, rfl, -, -⟩ := h.form
 clear h hT hE hF hN
 obtain ⟨W, hW⟩ : ∃ W, W = w.alloc (.cells #[.slice dW ws.length eW, .slice dP ps.length eP, .slice dS es.length eS, .slice dQ qs.length eQ] 46) := ⟨_, rfl⟩
 have CD : Hid (∀ w', Below W.heap.size W w' → w'.cell? ⟨w.heap.size, 0, none⟩ = some (.slice dW ws.length eW) ∧ w'.cell? ⟨w.heap.size, 1, none⟩ = some (.slice dP ps.length eP) ∧ w'.cell? ⟨w.heap.size, 2, none⟩ = some (.slice dS es.length eS) ∧ w'.cell? ⟨w.heap.size, 3, none⟩ = some (.slice dQ qs.length eQ)) := fun w' hb => by
  have : w'.heap[w.heap.size]? = some (.cells #[.slice dW ws.length eW, .slice dP ps.length eP, .slice dS es.length eS, .slice dQ qs.length eQ] 46 (0, 0)) := (hb.block _ (by rw [hW]; simp)).trans (by rw [hW]; exact zah rfl)
  obtain ⟨x0, x1, x2, x3, -, -, -, -⟩ := zan this
  exact ⟨x0, x1, x2, x3⟩
 have BW : Hid (Below w.heap.size w W) := by rw [hW]; exact (Below.refl _ _).alloc (Nat.le_refl _) _
 obtain ⟨x0, x1, x2, x3⟩ := CD.out _ (Below.refl _ _)
 clear PGV
 generalize hres : prR2 ws ps es qs i p = res at *
 generalize mvC (dvB ws ps es qs) i p = mc at *
 generalize dvB ws ps es qs = db at *
 generalize dvN ws ps es qs = dn at *
 generalize dvD ws ps es qs = dd at *
 clear hres
 go_enter Tryz.func206, Tryz.ntmps206
 go_wp2_with fail
 rw [← hW]
 clear hW
 refine (LI.out _ BW.out).mono ?_
 rintro e w1 ⟨v1, rfl, hR, hb1⟩
 have HR := zaa hR
 obtain ⟨vI, vD, rfl, hI, hD⟩ := hR
 obtain ⟨-, a1, k1, hv1, -⟩ := hI.rd
 obtain ⟨-, a2, k2, hv2, -⟩ := hD.rd
 subst hv1
 subst hv2
 have A1 := zaa hb1
 have B1 := zaa (zab BW.out hb1 BW.out.size)
 clear hI hD hb1 x0 x1 x2 x3 LI
 obtain ⟨V, hV⟩ : ∃ V, V = w1.alloc (.cells #[.slice a1 dn.length k1, .slice a2 dd.length k2] 83) := ⟨_, rfl⟩
 have BC : Hid (Below w1.heap.size w1 V) := by rw [hV]; exact (Below.refl _ _).alloc (Nat.le_refl _) _
 have CM : Hid (∀ w', Below V.heap.size V w' → w'.cell? ⟨w1.heap.size, 0, none⟩ = some (.slice a1 dn.length k1) ∧ w'.cell? ⟨w1.heap.size, 1, none⟩ = some (.slice a2 dd.length k2)) := fun w' hb => by
  have : w'.heap[w1.heap.size]? = some (.cells #[.slice a1 dn.length k1, .slice a2 dd.length k2] 83 (0, 0)) := (hb.block _ (by rw [hV]; simp)).trans (by rw [hV]; exact zah rfl)
  exact ⟨(zad this).1, (zad this).2.1⟩
 have AV := zaa (zab A1.out BC.out A1.out.size)
 have BV := zaa (zab B1.out BC.out B1.out.size)
 have RM : Hid (∀ w', Below V.heap.size V w' → RdIm w' (.agg #[.slice a1 dn.length k1, .slice a2 dd.length k2]) dn dd) := fun w' hb => (HR.out.below (zab BC.out hb BC.out.size) (Nat.le_refl _)).rd
 obtain ⟨y0, y1⟩ := CM.out _ (Below.refl _ _)
 rw [hV] at y0 y1
 clear HR A1 B1
 go_wp2_with fail
 rw [← hV]
 clear hV y0 y1
 refine (LO.out _ _ BV.out (RM.out _ (Below.refl _ _))).mono ?_
 rintro e w2 ⟨rfl, hb2⟩
 have V2 := zaa hb2
 have B2 := zaa (zab BV.out hb2 BV.out.size)
 clear hb2 LO
 cases db with
 | false =>
  rw [if_neg (fun q => by cases q)] at EC
  obtain rfl := EC.out
  rw [if_neg (by decide)] at EL
  obtain rfl := EL.out
  clear EL EC LFr LV IM
  go_wp2
  go_ret2
  exact zka B2.out
 | true =>
 rw [if_pos rfl] at EC
 by_cases c : (0 ≤ i ∧ i < 16) ∧ (0 ≤ p ∧ p < 8)
 case neg =>
  rw [if_neg (by omega)] at EC
  obtain rfl := EC.out
  rw [if_neg (by decide)] at EL
  obtain rfl := EL.out
  clear EL EC LFr LV IM
  go_wp2_with fail
  refine (zsr _ _ _ c).mono ?_
  rintro e w' ⟨rfl, hw'⟩
  subst w'
  go_wp2
  go_ret2
  exact zka B2.out
 rw [if_pos (by omega)] at EC
 obtain rfl := EC.out
 rw [if_pos rfl] at EL
 have IMG := IM.out rfl
 have LFr1 := zaa (LFr.out rfl)
 have LV1 := zaa (LV.out rfl)
 obtain ⟨a, rfl⟩ : ∃ a : Nat, i = (a : Int) := ⟨i.toNat, by omega⟩
 obtain ⟨b, rfl⟩ : ∃ b : Nat, p = (b : Int) := ⟨p.toNat, by omega⟩
 have a16 : a < 16 := by omega
 have b8 : b < 8 := by omega
 have TE := zaa (zon IMG a16 b)
 have EN := zaa (en_nat dn a b)
 rw [EN.out] at EL
 obtain ⟨l16, -⟩ := zdr IMG
 have L16 := zaa l16
 obtain ⟨z0, z1⟩ := zcd TE.out
 have TI := zaa (zvh TE.out (t := 2) (.inr rfl))
 have HM : Hid (∃ bW oW, a1 = some ⟨bW, oW, none⟩ ∧ ∀ w', Below V.heap.size V w' → w'.cell? ⟨bW, oW + a * 11 + 3 + b, none⟩ = some (.int .i64 ((zar dn a).map.getD b 0))) := by
  obtain ⟨_, _, e1, h1, _⟩ := RM.out V (Below.refl _ _)
  simp only [Value.agg.injEq, Array.mk.injEq, List.cons.injEq, and_true] at e1
  obtain ⟨rfl, rfl⟩ := e1
  obtain ⟨aW, cW, e2, _, hcW⟩ := h1.shape
  obtain ⟨rfl, -, rfl⟩ := Value.slice.inj e2
  obtain ⟨bW, oW, rfl, hblW, hcellW⟩ := hcW (by have := L16.out; omega)
  refine ⟨bW, oW, rfl, fun w' hb => ?_⟩
  rw [zbr (by have := L16.out; omega : a < dn.length)]
  obtain ⟨a0, a1, a2, a3, a4, a5, a6, a7, a8, a9, a10⟩ := hcellW a (by have := L16.out; omega)
  rcases (show b = 0 ∨ b = 1 ∨ b = 2 ∨ b = 3 ∨ b = 4 ∨ b = 5 ∨ b = 6 ∨ b = 7 by omega) with rfl | rfl | rfl | rfl | rfl | rfl | rfl | rfl
  ·exact (hb.cell (p := ⟨bW, oW + a * 11 + 3, none⟩) hblW).trans a3
  ·exact (hb.cell (p := ⟨bW, oW + a * 11 + 4, none⟩) hblW).trans a4
  ·exact (hb.cell (p := ⟨bW, oW + a * 11 + 5, none⟩) hblW).trans a5
  ·exact (hb.cell (p := ⟨bW, oW + a * 11 + 6, none⟩) hblW).trans a6
  ·exact (hb.cell (p := ⟨bW, oW + a * 11 + 7, none⟩) hblW).trans a7
  ·exact (hb.cell (p := ⟨bW, oW + a * 11 + 8, none⟩) hblW).trans a8
  ·exact (hb.cell (p := ⟨bW, oW + a * 11 + 9, none⟩) hblW).trans a9
  ·exact (hb.cell (p := ⟨bW, oW + a * 11 + 10, none⟩) hblW).trans a10
 obtain ⟨bW, oW, ea, HC0⟩ := HM.out
 have HC := zaa HC0
 subst ea
 have i0 : (0 : Int) ≤ (a : Int) := by omega
 have i1 : (a : Int) < (dn.length : Int) := by have := L16.out; omega
 have p0 : (0 : Int) ≤ (b : Int) := by omega
 have p1 : (b : Int) < 8 := by omega
 clear HM HC0 EN L16 l16 IMG IM LFr LV EC
 generalize (zar dn a).map.getD b 0 = z at *
 have LV2 := zaa (fun w1 hb => LV1.out z TE.out w1 hb)
 generalize pgV ws ps es qs z = x at *
 have EF := zaa (show prF dn z x (a : Int) (b : Int) = if z = 0 ∨ ¬ z % 4 = 2 then ([], 5) else if fpI dn < 0 then ([], 7) else (prS dn x ++ swL (a : Int) (b : Int) (4 * fpI dn + 1), 0) from rfl)
 rw [EF.out] at EL
 clear EF LV1
 go_wp2_with fail
 refine (znw _ _ _ c).mono ?_
 rintro e w' ⟨rfl, hw'⟩
 subst w'
 obtain ⟨y0, y1⟩ := CM.out _ V2.out
 have e0 := HC.out _ V2.out
 have LT1 := zaa (LT.out z _ B2.out z0 z1)
 clear LT HC c
 go_wp2_with fail
 refine LT1.out.mono ?_
 rintro e w' ⟨rfl, hw'⟩
 subst w'
 clear e0 LT1
 by_cases q : z = 0 ∨ ¬ z % 4 = 2
 ·rw [if_pos q] at EL
  have q' : (zos z != 2) = true := by
   rw [bne_iff_ne]
   intro e
   exact TI.out.1 (beq_iff_eq.2 e) q
  obtain rfl := EL.out
  generalize zos z = tz at *
  generalize tieA z = ta at *
  generalize tieC z = tc at *
  clear EL q TI LFr1 LV2 TE y0 y1
  go_wp2
  go_ret2
  exact zka B2.out
 rw [if_neg q] at EL
 have q' : (zos z != 2) = false := by rw [bne_eq_false_iff_eq]; exact beq_iff_eq.1 (TI.out.2 q)
 generalize zos z = tz at *
 generalize tieA z = ta at *
 generalize tieC z = tc at *
 clear q TI TE
 go_wp2_with fail
 refine (LFr1.out _ _ B2.out (RM.out _ V2.out)).mono ?_
 rintro e w3 ⟨rfl, hb3⟩
 have V3 := zaa (zab V2.out hb3 V2.out.size)
 have B3 := zaa (zab B2.out hb3 B2.out.size)
 clear hb3 LFr1 y0 y1 V2 B2
 by_cases c : fpI dn < 0
 ·rw [if_pos c] at EL
  rw [show zri (fpI dn) = 0 from if_pos c, show zsv (fpI dn) = 7 from if_pos c]
  obtain rfl := EL.out
  clear EL LV2 c
  go_wp2
  go_ret2
  exact zka B3.out
 rw [if_neg c] at EL
 rw [show zri (fpI dn) = fpI dn from if_neg c, show zsv (fpI dn) = 0 from if_neg c]
 have fb := fp_bound dn
 have ES := zaa (show prS dn x = ⟨1, 312 + fpI dn, x⟩ :: zaw [312 + fpI dn] from rfl)
 rw [ES.out] at EL
 clear ES
 generalize fpI dn = f at *
 have f0 : 0 ≤ f := by omega
 have EE := zaa (show entV 1 f = 4 * f + 1 by unfold entV zdx; rw [if_pos (by simp; omega)])
 have ff : 0 ≤ 3 + (b : Int) ∧ 3 + (b : Int) < 11 := by omega
 have wf : IntKind.i64.wrap (3 + (b : Int)) = 3 + (b : Int) := by rw [IntKind.wrap_i64]; omega
 have ar : 0 ≤ 48 + 12 * (a : Int) + (3 + (b : Int)) ∧ 48 + 12 * (a : Int) + (3 + (b : Int)) < 336 := by omega
 have ESW := zaa (show swL (a : Int) (b : Int) (4 * f + 1) = zci [[⟨1, 48 + 12 * (a : Int) + (3 + (b : Int)), 4 * f + 1⟩]] 1 from (zpm _).symm)
 have l7 := zls (a : Int) (b : Int) (4 * f + 1)
 rw [ESW.out] at l7 EL
 clear ESW c
 have LE1 := zaa (LE.out 1 f _ B3.out)
 rw [EE.out] at LE1
 clear LE EE
 generalize entC 1 f = ec at *
 go_wp2_with fail
 refine LE1.out.mono ?_
 rintro e w' ⟨rfl, hw'⟩
 subst w'
 clear LE1
 have LU := zaa (fun w1 => zfz (a : Int) (3 + (b : Int)) (4 * f + 1) w1 ⟨i0, by omega⟩ ff)
 go_wp2_with fail
 refine (LU.out _).mono ?_
 rintro e w4 ⟨rfl, hb4⟩
 have V4 := zaa (zab V3.out hb4 V3.out.size)
 have B4 := zaa (zab B3.out hb4 B3.out.size)
 clear hb4 LU V3 B3
 generalize 48 + 12 * (a : Int) + (3 + (b : Int)) = at_ at *
 generalize hE : 4 * f + 1 = E at *
 obtain ⟨U, hU⟩ : ∃ U, U = w4.alloc (.cells #[.int .i64 at_, .int .i64 E] 244) := ⟨_, rfl⟩
 have BU : Hid (Below w4.heap.size w4 U) := by rw [hU]; exact (Below.refl _ _).alloc (Nat.le_refl _) _
 have RU : Hid (RdE U (.slice (some ⟨w4.heap.size, 0, none⟩) 1 1) [⟨at_, E⟩]) := by rw [hU]; exact rd_upd w4 at_ E
 have V5 := zaa (zab V4.out BU.out V4.out.size)
 have B5 := zaa (zab B4.out BU.out B4.out.size)
 obtain ⟨x0, x1, x2, x3⟩ := CD.out _ (zab AV.out V5.out AV.out.size)
 rw [hU] at x0 x1 x2 x3
 go_wp2_with fail
 rw [← hU]
 clear hU x0 x1 x2 x3 V4 B4 CM
 refine (LV2.out _ B5.out).mono ?_
 rintro e w6 ⟨rfl, hb6⟩
 have B6 := zaa (zab B5.out hb6 B5.out.size)
 have RU6 : Hid (RdE w6 (.slice (some ⟨w4.heap.size, 0, none⟩) 1 1) [⟨at_, E⟩]) := Rd.below RU.out hb6
 clear hb6 RU LV2 V5 B5
 go_wp2_with fail
 refine (zrb f x _ ⟨f0, fb⟩).mono ?_
 rintro e w7 ⟨v7, rfl, hr7, hb7⟩
 have M7 : Hid (MiI w w7 v7 (⟨1, 312 + f, x⟩ :: zaw [312 + f])) := ⟨(hr7.wide B6.out.size (Nat.le_refl _)).1, zab B6.out hb7 B6.out.size⟩
 have RU7 : Hid (RdE w7 (.slice (some ⟨w4.heap.size, 0, none⟩) 1 1) [⟨at_, E⟩]) := Rd.below RU6.out hb7
 obtain ⟨-, a7, c7, hv7, -⟩ := hr7.rd
 subst hv7
 have l8 : (⟨1, 312 + f, x⟩ :: zaw [312 + f] : List Mi).length ≤ 3 := by have := zcy [312 + f]; simp only [List.length_cons, List.length_nil] at this ⊢; omega
 clear hr7 hb7 RU6 B6
 generalize (⟨1, 312 + f, x⟩ :: zaw [312 + f] : List Mi) = PL at *
 go_wp2_with fail
 refine (zop _ [⟨at_, E⟩] _ RU7.out (by simp)).mono ?_
 rw [show ([⟨at_, E⟩] : List Se).length = 1 from rfl, ap_one]
 rintro e w8 ⟨v8, rfl, hr8, hb8⟩
 obtain ⟨a8, c8, e8⟩ := RdM.form hr8.rd (n := 1) rfl
 subst e8
 have M8 := zaa (M7.out.below hb8)
 have PT := zaa (zub (t := 47) (A := [⟨1, at_, E⟩]) (n := 1) rfl hr8.rd)
 have PK := zaa (part_one at_ E ar)
 have M9 := zaa (M8.out.below ((Below.refl _ _).alloc (Nat.le_refl _) (.cells #[.slice a8 1 c8] 47)))
 clear hr8 hb8 M7 RU7 M8
 go_wp2_with fail
 refine (zfo w8.heap.size 0 1 [[⟨1, at_, E⟩]] _ (by simp) (by simp) PT.out PK.out).mono ?_
 rw [show ([[⟨1, at_, E⟩]] : List (List Mi)).length = 1 from rfl]
 generalize zci [[(⟨1, at_, E⟩ : Mi)]] 1 = SL at *
 rintro e w9 ⟨v9, rfl, hr9, hb9⟩
 have MA := zaa (M9.out.below hb9)
 have RA := zaa hr9.rd
 have hzA := MA.out.z
 clear hr9 hb9 M9 PT PK
 go_wp2_with (at_builtin; refine zai _ rfl (.tmp 74) (.tmp 78) 47 rfl w.heap.size 79 (.agg #[.int .i64 0, .int .i64 0, .int .i64 0]) 3 24 Tryz.underlying47 zcb rfl (by decide) _ _ _ rfl MA.out.l _ _ _ rfl RA.out (zdn _) (by first | omega | (simp [maxLen]; done) | (simp [maxLen]; omega)) (by first | omega | (simp; done) | (simp; omega)) hzA ?_)
 intro vT wT hownT hgrT
 have M := zaa (MA.out.grow SL hownT hgrT)
 obtain ⟨-, aT, cT, hvT, -⟩ := (zaf hownT).rd
 subst hvT
 obtain rfl := EL.out
 clear hownT hgrT MA RA EL
 go_wp2
 go_ret2
 exact ⟨_, rfl, zaf M.out.l, M.out.b⟩

set_option maxRecDepth 100000 in
set_option maxHeartbeats 8000000 in
theorem zhe (v : Value) (ws : List Int) (ps : List St) (es : List Int) (qs : List Se) (i p : Int) (w : World) (h : RdDev w v ws ps es qs) (hw : ws.length ≤ 1048576) (hp : ps.length ≤ 1048576) (he : es.length ≤ 1048576) (hq : qs.length ≤ 1048576) (hT : TS w) (hE : ED w) (hF : FD w) (hN : NW w) :
  Calls Tryz.prog 138 #[v, .int .i64 i, .int .i64 p] w fun e w' => zqn w w' e (prR2 ws ps es qs i p) := by
 have LI := zaa (fun w1 (hb : Below w.heap.size w w1) => zlr v ws ps es qs i p w1 (h.below hb) hw hp he hq (hT.below hb) (hE.below hb) (hF.below hb) (hN.below hb))
 obtain ⟨dW, eW, dP, eP, dS, eS, dQ, eQ, rfl, -, -⟩ := h.form
 clear h hT hE hF hN
 obtain ⟨W, hW⟩ : ∃ W, W = w.alloc (.cells #[.slice dW ws.length eW, .slice dP ps.length eP, .slice dS es.length eS, .slice dQ qs.length eQ] 46) := ⟨_, rfl⟩
 have BW : Hid (Below w.heap.size w W) := by rw [hW]; exact (Below.refl _ _).alloc (Nat.le_refl _) _
 obtain ⟨x0, x1, x2, x3, -, -, -, -⟩ := zan (zah (w := w) (o := .cells #[.slice dW ws.length eW, .slice dP ps.length eP, .slice dS es.length eS, .slice dQ qs.length eQ] 46) rfl)
 generalize prR2 ws ps es qs i p = res at *
 go_enter Tryz.func138, Tryz.ntmps138
 go_wp2_with fail
 rw [← hW]
 clear hW x0 x1 x2 x3
 refine (LI.out _ BW.out).mono ?_
 rintro e w3 ⟨v3, rfl, hr3, hb3⟩
 have B3 := zaa (zab BW.out hb3 BW.out.size)
 have R3 := zaa (hr3.wide BW.out.size (Nat.le_refl _))
 obtain ⟨-, a3, k3, hv3, -⟩ := hr3.rd
 subst hv3
 clear hr3 hb3
 go_wp2
 go_ret2
 exact ⟨_, rfl, R3.out, B3.out⟩
end Go.Proofs.YtipklbnfobckaaaGreatDoor
