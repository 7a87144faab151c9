/- The law of Recover: the walk. -/
import Derived.Test.YtlkmnpanddchdaaGreatDoorZBK
import Derived.Test.YtlkmnpanddchdaaGreatDoorZAM
import Derived.Deep.DeepCutAuto
import Derived.Deep.RegionHeld3
namespace Go.Proofs.YtlkmnpanddchdaaGreatDoor
open Go.RowKit
theorem recover_sm (ws:List Int) (ps:List St) (es:List Int) (qs:List Se):SmF (recR ws ps es qs).1:=by
 unfold recR
 split
 ·rename_i c
  exact yaqo c
 ·exact yaex
set_option maxRecDepth 100000 in
set_option maxHeartbeats 16000000 in
theorem recover_law (v:Value) (ws:List Int) (ps:List St) (es:List Int) (qs:List Se) (w:World) (h:RdDev w v ws ps es qs) (hB:ws.length ≤ maxLen ∧ ps.length ≤ maxLen ∧ es.length ≤ maxLen ∧ qs.length ≤ maxLen) (ic:(ws.length ≤ 1048576 ∧ ps.length ≤ 1048576 ∧ es.length ≤ 1048576 ∧ qs.length ≤ 1048576) → ∀ v1 w1,Below w.heap.size w w1 → RdDev w1 v1 ws ps es qs → Calls Tryz.prog 21 #[v1] w1 fun e w' => zjo w1 w' e (recR ws ps es qs)) :
  Calls Tryz.prog 4 #[v] w fun e w' => e = .returned (.bool true) ∧ Below w.heap.size w w':=by
 obtain ⟨aW,cW,aP,cP,aS,cS,aQ,cQ,rfl,-,-⟩:=id h.form
 obtain ⟨W,hW⟩:∃ W,W = w.alloc (.cells #[.slice aW ws.length cW,.slice aP ps.length cP,.slice aS es.length cS,.slice aQ qs.length cQ] 30):=⟨_,rfl⟩
 have BW:Hid (Below w.heap.size w W):=by rw [hW]; exact (Below.refl _ _).alloc (Nat.le_refl _) _
 have VA_0:Hid (W.heap[w.heap.size]? = some (.cells #[.slice aW ws.length cW,.slice aP ps.length cP,.slice aS es.length cS,.slice aQ qs.length cQ] 30 (0,0))):=by rw [hW]; exact zag rfl
 have ltA:w.heap.size < W.heap.size:=zah VA_0.out
 have B_0:Hid (Below W.heap.size W W):=Below.refl _ _
 have RDA:Hid (∀ w',Below W.heap.size W w' → RdDev w' (.agg #[.slice aW ws.length cW,.slice aP ps.length cP,.slice aS es.length cS,.slice aQ qs.length cQ]) ws ps es qs):=fun w' hb => RdDev.below h (zab BW.out hb BW.out.size)
 have FB:Hid (∀ w',Below W.heap.size W w' → Below w.heap.size w w'):=fun w' hb => zab BW.out hb BW.out.size
 clear h
 go_enter Tryz.func4,Tryz.ntmps4
 go_upto_region 2 with fail
 rw [← hW]
 clear hW
 obtain ⟨a0,a1,a2,a3,-⟩:=zaf VA_0.out
 have SZ:=zaa (zvf aW aP aS aQ ws.length ps.length es.length qs.length cW cP cS cQ W hB.1 hB.2.1 hB.2.2.1 hB.2.2.2)
 clear hB
 by_cases c0:1048576 < ws.length + ps.length + es.length + qs.length
 case pos =>
  rw [if_pos c0] at SZ
  clear RDA ic
  go_wp2_with fail
  refine SZ.out.mono ?_
  rintro e w1 ⟨rfl,hb1⟩
  have B1:=zaa (zab BW.out hb1 BW.out.size)
  clear hb1 a0 a1 a2 a3
  go_wp2
  go_ret
  exact ⟨rfl,B1.out⟩
 rw [if_neg c0] at SZ
 have hws:ws.length ≤ 1048576:=by omega
 have hps:ps.length ≤ 1048576:=by omega
 have hes:es.length ≤ 1048576:=by omega
 have hqs:qs.length ≤ 1048576:=by omega
 have cq:¬ ((1048576 - ws.length - ps.length - es.length - qs.length:Int)) < 0:=by omega
 go_wp2_with fail
 refine (SZ.out).mono ?_
 rintro e w1 ⟨rfl,hb⟩
 clear a0 a1 a2 a3
 have z1:W.heap.size ≤ w1.heap.size:=hb.size
 have B_1:=zaa (zab B_0.out hb B_0.out.size)
 have VA_1:=zaa (zac VA_0.out hb (zah VA_0.out))
 clear B_0 VA_0 hb
 clear SZ
 have SM:=zaa (recover_sm ws ps es qs)
 have SC:=zaa (fun v1 w1 (h1:RdDev w1 v1 ws ps es qs) => zow v1 ws ps es qs w1 h1 hws hps hes hqs)
 have IC:=zaa (ic ⟨hws,hps,hes,hqs⟩)
 clear ic
 generalize recR ws ps es qs = R at *
 obtain ⟨⟨ws2,ps2,es2,qs2,hs2,td2,cd2,vl2,nm2,fr2⟩,rc⟩:=R
 simp only [zjo] at SM SC IC
 obtain ⟨m1,m2,m3,m4,m5,m6,m7⟩:=SM.out
 clear SM
 obtain ⟨kx,ekx⟩:∃ kx:Int,kx = 1 + ws.length + 3 * ps.length + es.length + 2 * qs.length:=⟨_,rfl⟩
 have kx0:¬ kx < 0:=by rw [ekx]; omega
 obtain ⟨km,ekm⟩:∃ km:Int,km = kD 1 ws2.length ps2.length es2.length qs2.length + hs2.length + 3 * td2.length + nm2.length:=⟨_,rfl⟩
 have km0:¬ km < 0:=by rw [ekm]; unfold kD; omega
 replace ekx:=zaa ekx
 replace ekm:=zaa ekm
 obtain ⟨a0,a1,a2,a3,-⟩:=zaf VA_1.out
 go_wp2_with fail
 refine (zvl _ ws ps es qs w1 (RDA.out w1 B_1.out) hws hps hes hqs).mono ?_
 rintro e w2 ⟨v2,rfl,hr,hb⟩
 clear a0 a1 a2 a3
 obtain ⟨TaW,TcW,TaP,TcP,TaS,TcS,TaQ,TcQ,eq,-,-⟩:=hr.rd.form
 subst eq
 have z2:w1.heap.size ≤ w2.heap.size:=hb.size
 have B_2:=zaa (zab B_1.out hb B_1.out.size)
 have VA_2:=zaa (zac VA_1.out hb (zah VA_1.out))
 clear B_1 VA_1 hb
 have QT_2:Hid (RowDev w2 w1.heap.size w2.heap.size _ ws ps es qs):=hr
 clear hr
 go_wp2_with fail
 refine (SC.out _ w2 QT_2.out.rd).mono ?_
 rintro e w3 ⟨v3,rfl,hr,hb⟩
 obtain ⟨SaW,ScW,SaP,ScP,SaS,ScS,SaQ,ScQ,SaH,ScH,SaT,ScT,SaN,ScN,eq⟩:=hr.form
 subst eq
 have z3:w2.heap.size ≤ w3.heap.size:=hb.size
 have B_3:=zaa (zab B_2.out hb B_2.out.size)
 have VA_3:=zaa (zac VA_2.out hb (zah VA_2.out))
 have QT_3:=zaa (QT_2.out.below hb (by omega))
 clear B_2 VA_2 QT_2 hb
 have QS_3:Hid (RowF w3 w2.heap.size w3.heap.size _ ws2 ps2 es2 qs2 hs2 td2 cd2 vl2 nm2 fr2):=hr
 clear hr
 obtain ⟨w4,hw4⟩:∃ w4,w4 = w3.alloc (.cells #[.slice SaW ws2.length ScW,.slice SaP ps2.length ScP,.slice SaS es2.length ScS,.slice SaQ qs2.length ScQ,.slice SaH hs2.length ScH,.slice SaT td2.length ScT,.int .i64 cd2,.int .i64 vl2,.slice SaN nm2.length ScN,.bool fr2] 51):=⟨_,rfl⟩
 have hb:Below w3.heap.size w3 w4:=by rw [hw4]; exact (Below.refl _ _).alloc (Nat.le_refl _) _
 obtain ⟨bS,hbS⟩:∃ bS:Nat,bS = w3.heap.size:=⟨_,rfl⟩
 have VS_4:Hid (w4.heap[bS]? = some (.cells #[.slice SaW ws2.length ScW,.slice SaP ps2.length ScP,.slice SaS es2.length ScS,.slice SaQ qs2.length ScQ,.slice SaH hs2.length ScH,.slice SaT td2.length ScT,.int .i64 cd2,.int .i64 vl2,.slice SaN nm2.length ScN,.bool fr2] 51 (0,0))):=by rw [hw4,hbS]; exact zag rfl
 have pS:w3.heap.size ≤ bS ∧ bS ≤ w3.heap.size ∧ bS < w4.heap.size:=⟨Nat.le_of_eq hbS.symm,Nat.le_of_eq hbS,zah VS_4.out⟩
 have z4:w3.heap.size ≤ w4.heap.size:=hb.size
 have B_4:=zaa (zab B_3.out hb B_3.out.size)
 have VA_4:=zaa (zac VA_3.out hb (zah VA_3.out))
 have QT_4:=zaa (QT_3.out.below hb (by omega))
 have QS_4:=zaa (QS_3.out.below hb (by omega))
 clear B_3 VA_3 QT_3 QS_3 hb
 go_upto_region 6 with fail
 rw [← hw4,← hbS]
 clear hw4 hbS
 clear SC
 clear QT_4
 obtain ⟨a0,a1,a2,a3,-⟩:=zaf VA_4.out
 go_wp2_with fail
 refine (zvl _ ws ps es qs w4 (RDA.out w4 B_4.out) hws hps hes hqs).mono ?_
 rintro e w5 ⟨v5,rfl,hr,hb⟩
 clear a0 a1 a2 a3
 obtain ⟨XaW,XcW,XaP,XcP,XaS,XcS,XaQ,XcQ,eq,-,-⟩:=hr.rd.form
 subst eq
 have z5:w4.heap.size ≤ w5.heap.size:=hb.size
 have B_5:=zaa (zab B_4.out hb B_4.out.size)
 have VA_5:=zaa (zac VA_4.out hb (zah VA_4.out))
 have VS_5:=zaa (zac VS_4.out hb (zah VS_4.out))
 have QS_5:=zaa (QS_4.out.below hb (by omega))
 clear B_4 VA_4 VS_4 QS_4 hb
 have QX_5:Hid (RowDev w5 w4.heap.size w5.heap.size _ ws ps es qs):=hr
 clear hr
 obtain ⟨w6,hw6⟩:∃ w6,w6 = w5.alloc (.cells #[.slice XaW ws.length XcW,.slice XaP ps.length XcP,.slice XaS es.length XcS,.slice XaQ qs.length XcQ] 45):=⟨_,rfl⟩
 have hb:Below w5.heap.size w5 w6:=by rw [hw6]; exact (Below.refl _ _).alloc (Nat.le_refl _) _
 obtain ⟨bX,hbX⟩:∃ bX:Nat,bX = w5.heap.size:=⟨_,rfl⟩
 have VX_6:Hid (w6.heap[bX]? = some (.cells #[.slice XaW ws.length XcW,.slice XaP ps.length XcP,.slice XaS es.length XcS,.slice XaQ qs.length XcQ] 45 (0,0))):=by rw [hw6,hbX]; exact zag rfl
 have pX:w5.heap.size ≤ bX ∧ bX ≤ w5.heap.size ∧ bX < w6.heap.size:=⟨Nat.le_of_eq hbX.symm,Nat.le_of_eq hbX,zah VX_6.out⟩
 have z6:w5.heap.size ≤ w6.heap.size:=hb.size
 have B_6:=zaa (zab B_5.out hb B_5.out.size)
 have VA_6:=zaa (zac VA_5.out hb (zah VA_5.out))
 have VS_6:=zaa (zac VS_5.out hb (zah VS_5.out))
 have QS_6:=zaa (QS_5.out.below hb (by omega))
 have QX_6:=zaa (QX_5.out.below hb (by omega))
 clear B_5 VA_5 VS_5 QS_5 QX_5 hb
 go_upto_region 7 with fail
 rw [← hw6,← hbX]
 clear hw6 hbX
 obtain ⟨x0,x1,x2,x3,-⟩:=zaf VX_6.out
 go_wp2_with fail
 refine (IC.out _ w6 (FB.out w6 B_6.out) QX_6.out.rd).mono ?_
 rintro e w7 ⟨v7,rfl,hr,hb⟩
 clear x0 x1 x2 x3
 obtain ⟨GaW,GcW,GaP,GcP,GaS,GcS,GaQ,GcQ,GaH,GcH,GaT,GcT,GaN,GcN,eq⟩:=hr.form
 subst eq
 have z7:w6.heap.size ≤ w7.heap.size:=hb.size
 have B_7:=zaa (zab B_6.out hb B_6.out.size)
 have VA_7:=zaa (zac VA_6.out hb (zah VA_6.out))
 have VS_7:=zaa (zac VS_6.out hb (zah VS_6.out))
 have VX_7:=zaa (zac VX_6.out hb (zah VX_6.out))
 have QS_7:=zaa (QS_6.out.below hb (by omega))
 have QX_7:=zaa (QX_6.out.below hb (by omega))
 clear B_6 VA_6 VS_6 VX_6 QS_6 QX_6 hb
 have QG_7:Hid (RowF w7 w6.heap.size w7.heap.size _ ws2 ps2 es2 qs2 hs2 td2 cd2 vl2 nm2 fr2):=hr
 clear hr
 obtain ⟨w8,hw8⟩:∃ w8,w8 = w7.alloc (.cells #[.slice GaW ws2.length GcW,.slice GaP ps2.length GcP,.slice GaS es2.length GcS,.slice GaQ qs2.length GcQ,.slice GaH hs2.length GcH,.slice GaT td2.length GcT,.int .i64 cd2,.int .i64 vl2,.slice GaN nm2.length GcN,.bool fr2] 51):=⟨_,rfl⟩
 have hb:Below w7.heap.size w7 w8:=by rw [hw8]; exact (Below.refl _ _).alloc (Nat.le_refl _) _
 obtain ⟨bG,hbG⟩:∃ bG:Nat,bG = w7.heap.size:=⟨_,rfl⟩
 have VG_8:Hid (w8.heap[bG]? = some (.cells #[.slice GaW ws2.length GcW,.slice GaP ps2.length GcP,.slice GaS es2.length GcS,.slice GaQ qs2.length GcQ,.slice GaH hs2.length GcH,.slice GaT td2.length GcT,.int .i64 cd2,.int .i64 vl2,.slice GaN nm2.length GcN,.bool fr2] 51 (0,0))):=by rw [hw8,hbG]; exact zag rfl
 have pG:w7.heap.size ≤ bG ∧ bG ≤ w7.heap.size ∧ bG < w8.heap.size:=⟨Nat.le_of_eq hbG.symm,Nat.le_of_eq hbG,zah VG_8.out⟩
 have z8:w7.heap.size ≤ w8.heap.size:=hb.size
 have B_8:=zaa (zab B_7.out hb B_7.out.size)
 have VA_8:=zaa (zac VA_7.out hb (zah VA_7.out))
 have VS_8:=zaa (zac VS_7.out hb (zah VS_7.out))
 have VX_8:=zaa (zac VX_7.out hb (zah VX_7.out))
 have QS_8:=zaa (QS_7.out.below hb (by omega))
 have QX_8:=zaa (QX_7.out.below hb (by omega))
 have QG_8:=zaa (QG_7.out.below hb (by omega))
 clear B_7 VA_7 VS_7 VX_7 QS_7 QX_7 QG_7 hb
 go_upto_region 8 with fail
 rw [← hw8,← hbG]
 clear hw8 hbG
 obtain ⟨g0,g1,g2,g3,g4,g5,g6,g7,g8,g9,-⟩:=zam VG_8.out
 obtain ⟨s0,s1,s2,s3,s4,s5,s6,s7,s8,s9,-⟩:=zam VS_8.out
 go_wp2_with fail
 refine (zli _ _ ws2 ps2 es2 qs2 hs2 td2 cd2 vl2 nm2 fr2 w8 QG_8.out.rd QS_8.out.rd (by omega) (by omega) (by omega) (by omega) (by omega) (by omega) (by omega)).mono ?_
 rintro e w9 ⟨rfl,hb⟩
 clear g0 g1 g2 g3 g4 g5 g6 g7 g8 g9 s0 s1 s2 s3 s4 s5 s6 s7 s8 s9
 have z9:w8.heap.size ≤ w9.heap.size:=hb.size
 have B_9:=zaa (zab B_8.out hb B_8.out.size)
 have VA_9:=zaa (zac VA_8.out hb (zah VA_8.out))
 have VS_9:=zaa (zac VS_8.out hb (zah VS_8.out))
 have VX_9:=zaa (zac VX_8.out hb (zah VX_8.out))
 have VG_9:=zaa (zac VG_8.out hb (zah VG_8.out))
 have QS_9:=zaa (QS_8.out.below hb (by omega))
 have QX_9:=zaa (QX_8.out.below hb (by omega))
 have QG_9:=zaa (QG_8.out.below hb (by omega))
 clear B_8 VA_8 VS_8 VX_8 VG_8 QS_8 QX_8 QG_8 hb
 have RX_9:=zaa QX_9.out.rd
 have SK:Hid (∀ w',Below w9.heap.size w9 w' → (w'.cell? ⟨bX,0,none⟩ = some (.slice XaW ws.length XcW) ∧ w'.cell? ⟨bX,1,none⟩ = some (.slice XaP ps.length XcP) ∧ w'.cell? ⟨bX,2,none⟩ = some (.slice XaS es.length XcS) ∧ w'.cell? ⟨bX,3,none⟩ = some (.slice XaQ qs.length XcQ)) ∧ (w'.cell? ⟨w.heap.size,0,none⟩ = some (.slice aW ws.length cW) ∧ w'.cell? ⟨w.heap.size,1,none⟩ = some (.slice aP ps.length cP) ∧ w'.cell? ⟨w.heap.size,2,none⟩ = some (.slice aS es.length cS) ∧ w'.cell? ⟨w.heap.size,3,none⟩ = some (.slice aQ qs.length cQ))):=fun w' hb => by
  obtain ⟨x0,x1,x2,x3,-⟩:=zaf (zac VX_9.out hb (zah VX_9.out))
  obtain ⟨a0,a1,a2,a3,-⟩:=zaf (zac VA_9.out hb (zah VA_9.out))
  exact ⟨⟨x0,x1,x2,x3⟩,a0,a1,a2,a3⟩
 go_upto_region 10 with fail
 go_cut [45] (fun s wx => s = .bool false ∧ Hid (Below w9.heap.size w9 wx))
 case first =>
  as_aux_lemma =>
   obtain ⟨⟨x0,x1,x2,x3⟩,a0,a1,a2,a3⟩:=SK.out _ (Below.refl _ _)
   go_region_held3 (fun w' => (w'.cell? ⟨bX,0,none⟩ = some (.slice XaW ws.length XcW) ∧ w'.cell? ⟨bX,1,none⟩ = some (.slice XaP ps.length XcP) ∧ w'.cell? ⟨bX,2,none⟩ = some (.slice XaS es.length XcS) ∧ w'.cell? ⟨bX,3,none⟩ = some (.slice XaQ qs.length XcQ)) ∧ (w'.cell? ⟨w.heap.size,0,none⟩ = some (.slice aW ws.length cW) ∧ w'.cell? ⟨w.heap.size,1,none⟩ = some (.slice aP ps.length cP) ∧ w'.cell? ⟨w.heap.size,2,none⟩ = some (.slice aS es.length cS) ∧ w'.cell? ⟨w.heap.size,3,none⟩ = some (.slice aQ qs.length cQ)))
    (exact SK.out _ (by repeat (first | with_reducible exact BE.out | with_reducible exact BF.out | with_reducible exact Below.refl _ _ | with_reducible refine Below.drew ?_)))
    (first
     | (go_at_call 20; refine (zvl _ ws ps es qs _ (RDA.out _ (zab B_9.out (by repeat (first | with_reducible exact Below.refl _ _ | with_reducible refine Below.drew ?_)) B_9.out.size)) hws hps hes hqs).mono ?_; rintro e wt ⟨vt,rfl,hrt,hbt⟩; have BF:Hid (Below w9.heap.size w9 wt):=belY (by repeat (first | with_reducible exact Below.refl _ _ | with_reducible refine Below.drew ?_)) hbt; have RT:=zaa hrt.rd; obtain ⟨taW,tcW,taP,tcP,taS,tcS,taQ,tcQ,eqt,-,-⟩:=hrt.rd.form; subst eqt; clear hrt hbt)
     | (go_at_call 11; refine (zqw _ _ ws ps es qs _ (RX_9.out.below (belY BF.out (by repeat (first | with_reducible exact Below.refl _ _ | with_reducible refine Below.drew ?_)))) (RT.out.below (by repeat (first | with_reducible exact Below.refl _ _ | with_reducible refine Below.drew ?_))) (by omega) (by omega) (by omega) (by omega)).mono ?_; rintro e wu ⟨rfl,hbu⟩; have BE:Hid (Below w9.heap.size w9 wu):=belY BF.out (belY (by repeat (first | with_reducible exact Below.refl _ _ | with_reducible refine Below.drew ?_)) hbu); clear hbu))
   all_goals
    go_wp2_with fail
    go_meet
    exact ⟨rfl,(by unfold Hid; repeat (first | with_reducible exact BE.out | with_reducible refine Below.drew ?_))⟩
 case rest =>
 obtain ⟨rfl,hbH⟩:=hcut
 rename World => w10
 clear SK
 have hb:=hbH.out
 clear hbH
 have z10:w9.heap.size ≤ w10.heap.size:=hb.size
 have B_10:=zaa (zab B_9.out hb B_9.out.size)
 have VA_10:=zaa (zac VA_9.out hb (zah VA_9.out))
 have VS_10:=zaa (zac VS_9.out hb (zah VS_9.out))
 have VX_10:=zaa (zac VX_9.out hb (zah VX_9.out))
 have VG_10:=zaa (zac VG_9.out hb (zah VG_9.out))
 have RX_10:=zaa (RX_9.out.below hb)
 have QS_10:=zaa (QS_9.out.below hb (by omega))
 have QX_10:=zaa (QX_9.out.below hb (by omega))
 have QG_10:=zaa (QG_9.out.below hb (by omega))
 clear B_9 VA_9 VS_9 VX_9 VG_9 RX_9 QS_9 QX_9 QG_9 hb
 clear RX_10
 obtain ⟨x0,x1,x2,x3,-⟩:=zaf VX_10.out
 go_wp2_with fail
 refine (zpd _ ws ps es qs 1 _ _ w10 QX_10.out (by omega) (by omega) (by omega) (by omega) (by omega) (by decide) (by decide)).mono ?_
 rw [← ekx.out]
 rintro e w11 ⟨rfl,-,ho⟩
 clear x0 x1 x2 x3
 clear QX_10
 have z11:w10.heap.size ≤ w11.heap.size:=ho.size
 have B_11:=zaa (B_10.out.trans (ho.below (B:=W.heap.size) (by omega) B_10.out.size))
 have VA_11:=zaa ((ho.block _ (zah VA_10.out) (by omega)).trans VA_10.out)
 have VS_11:=zaa ((ho.block _ (zah VS_10.out) (by omega)).trans VS_10.out)
 have VX_11:=zaa ((ho.block _ (zah VX_10.out) (by omega)).trans VX_10.out)
 have VG_11:=zaa ((ho.block _ (zah VG_10.out) (by omega)).trans VG_10.out)
 have QS_11:=zaa (QS_10.out.outside ho (by omega) (by omega))
 have QG_11:=zaa (QG_10.out.outside ho (by omega) (by omega))
 clear B_10 VA_10 VS_10 VX_10 VG_10 QS_10 QG_10 ho
 clear VX_11
 obtain ⟨g0,g1,g2,g3,g4,g5,g6,g7,g8,g9,-⟩:=zam VG_11.out
 obtain ⟨s0,s1,s2,s3,s4,s5,s6,s7,s8,s9,-⟩:=zam VS_11.out
 go_wp2_with fail
 refine (zli _ _ ws2 ps2 es2 qs2 hs2 td2 cd2 vl2 nm2 fr2 w11 QG_11.out.rd QS_11.out.rd (by omega) (by omega) (by omega) (by omega) (by omega) (by omega) (by omega)).mono ?_
 rintro e w12 ⟨rfl,hb⟩
 clear g0 g1 g2 g3 g4 g5 g6 g7 g8 g9 s0 s1 s2 s3 s4 s5 s6 s7 s8 s9
 have z12:w11.heap.size ≤ w12.heap.size:=hb.size
 have B_12:=zaa (zab B_11.out hb B_11.out.size)
 have VA_12:=zaa (zac VA_11.out hb (zah VA_11.out))
 have VS_12:=zaa (zac VS_11.out hb (zah VS_11.out))
 have VG_12:=zaa (zac VG_11.out hb (zah VG_11.out))
 have QS_12:=zaa (QS_11.out.below hb (by omega))
 have QG_12:=zaa (QG_11.out.below hb (by omega))
 clear B_11 VA_11 VS_11 VG_11 QS_11 QG_11 hb
 obtain ⟨g0,g1,g2,g3,g4,g5,g6,g7,g8,g9,-⟩:=zam VG_12.out
 go_wp2_with fail
 refine (ztg _ ws2 ps2 es2 qs2 hs2 td2 cd2 vl2 nm2 fr2 1 _ _ w12 QG_12.out (by omega) (by omega) (by omega) (by omega) (by omega) (by omega) (by omega) (by omega) (by decide) (by decide)).mono ?_
 rw [← ekm.out]
 rintro e w13 ⟨rfl,hk,ho⟩
 clear g0 g1 g2 g3 g4 g5 g6 g7 g8 g9
 have QG_12_:=QG_12
 clear QG_12_
 have z13:w12.heap.size ≤ w13.heap.size:=ho.size
 have B_13:=zaa (B_12.out.trans (ho.below (B:=W.heap.size) (by omega) B_12.out.size))
 have VA_13:=zaa ((ho.block _ (zah VA_12.out) (by omega)).trans VA_12.out)
 have VS_13:=zaa ((ho.block _ (zah VS_12.out) (by omega)).trans VS_12.out)
 have VG_13:=zaa ((ho.block _ (zah VG_12.out) (by omega)).trans VG_12.out)
 have QS_13:=zaa (QS_12.out.outside ho (by omega) (by omega))
 clear B_12 VA_12 VS_12 VG_12 QS_12 ho
 have RK_13:=zaa hk
 clear hk
 obtain ⟨g0,g1,g2,g3,g4,g5,g6,g7,g8,g9,-⟩:=zam VG_13.out
 go_wp2_with fail
 refine (zsi _ 1 ws2.length ps2.length es2.length qs2.length hs2.length td2.length cd2 vl2 nm2.length fr2 w13 RK_13.out (by omega) (by omega) (by omega) (by omega) (by omega) (by omega) (by omega) (by decide) (by decide)).mono ?_
 rw [← ekm.out]
 rintro e w14 ⟨rfl,hb⟩
 clear g0 g1 g2 g3 g4 g5 g6 g7 g8 g9
 have z14:w13.heap.size ≤ w14.heap.size:=hb.size
 have B_14:=zaa (zab B_13.out hb B_13.out.size)
 have VA_14:=zaa (zac VA_13.out hb (zah VA_13.out))
 have VS_14:=zaa (zac VS_13.out hb (zah VS_13.out))
 have VG_14:=zaa (zac VG_13.out hb (zah VG_13.out))
 have RK_14:=zaa (RK_13.out.below hb)
 have QS_14:=zaa (QS_13.out.below hb (by omega))
 clear B_13 VA_13 VS_13 VG_13 RK_13 QS_13 hb
 obtain ⟨a0,a1,a2,a3,-⟩:=zaf VA_14.out
 go_wp2_with fail
 refine (zvl _ ws ps es qs w14 (RDA.out w14 B_14.out) hws hps hes hqs).mono ?_
 rintro e w15 ⟨v15,rfl,hr,hb⟩
 clear a0 a1 a2 a3
 obtain ⟨TaW,TcW,TaP,TcP,TaS,TcS,TaQ,TcQ,eq,-,-⟩:=hr.rd.form
 subst eq
 have z15:w14.heap.size ≤ w15.heap.size:=hb.size
 have B_15:=zaa (zab B_14.out hb B_14.out.size)
 have VA_15:=zaa (zac VA_14.out hb (zah VA_14.out))
 have VS_15:=zaa (zac VS_14.out hb (zah VS_14.out))
 have VG_15:=zaa (zac VG_14.out hb (zah VG_14.out))
 have RK_15:=zaa (RK_14.out.below hb)
 have QS_15:=zaa (QS_14.out.below hb (by omega))
 clear B_14 VA_14 VS_14 VG_14 RK_14 QS_14 hb
 have QT_15:Hid (RowDev w15 w14.heap.size w15.heap.size _ ws ps es qs):=hr
 clear hr
 go_wp2_with fail
 refine (IC.out _ w15 (FB.out w15 B_15.out) QT_15.out.rd).mono ?_
 rintro e w16 ⟨v16,rfl,hr,hb⟩
 obtain ⟨HaW,HcW,HaP,HcP,HaS,HcS,HaQ,HcQ,HaH,HcH,HaT,HcT,HaN,HcN,eq⟩:=hr.form
 subst eq
 have z16:w15.heap.size ≤ w16.heap.size:=hb.size
 have B_16:=zaa (zab B_15.out hb B_15.out.size)
 have VA_16:=zaa (zac VA_15.out hb (zah VA_15.out))
 have VS_16:=zaa (zac VS_15.out hb (zah VS_15.out))
 have VG_16:=zaa (zac VG_15.out hb (zah VG_15.out))
 have RK_16:=zaa (RK_15.out.below hb)
 have QS_16:=zaa (QS_15.out.below hb (by omega))
 have QT_16:=zaa (QT_15.out.below hb (by omega))
 clear B_15 VA_15 VS_15 VG_15 RK_15 QS_15 QT_15 hb
 have QH_16:Hid (RowF w16 w15.heap.size w16.heap.size _ ws2 ps2 es2 qs2 hs2 td2 cd2 vl2 nm2 fr2):=hr
 clear hr
 obtain ⟨w17,hw17⟩:∃ w17,w17 = w16.alloc (.cells #[.slice HaW ws2.length HcW,.slice HaP ps2.length HcP,.slice HaS es2.length HcS,.slice HaQ qs2.length HcQ,.slice HaH hs2.length HcH,.slice HaT td2.length HcT,.int .i64 cd2,.int .i64 vl2,.slice HaN nm2.length HcN,.bool fr2] 51):=⟨_,rfl⟩
 have hb:Below w16.heap.size w16 w17:=by rw [hw17]; exact (Below.refl _ _).alloc (Nat.le_refl _) _
 obtain ⟨bH,hbH⟩:∃ bH:Nat,bH = w16.heap.size:=⟨_,rfl⟩
 have VH_17:Hid (w17.heap[bH]? = some (.cells #[.slice HaW ws2.length HcW,.slice HaP ps2.length HcP,.slice HaS es2.length HcS,.slice HaQ qs2.length HcQ,.slice HaH hs2.length HcH,.slice HaT td2.length HcT,.int .i64 cd2,.int .i64 vl2,.slice HaN nm2.length HcN,.bool fr2] 51 (0,0))):=by rw [hw17,hbH]; exact zag rfl
 have pH:w16.heap.size ≤ bH ∧ bH ≤ w16.heap.size ∧ bH < w17.heap.size:=⟨Nat.le_of_eq hbH.symm,Nat.le_of_eq hbH,zah VH_17.out⟩
 have z17:w16.heap.size ≤ w17.heap.size:=hb.size
 have B_17:=zaa (zab B_16.out hb B_16.out.size)
 have VA_17:=zaa (zac VA_16.out hb (zah VA_16.out))
 have VS_17:=zaa (zac VS_16.out hb (zah VS_16.out))
 have VG_17:=zaa (zac VG_16.out hb (zah VG_16.out))
 have RK_17:=zaa (RK_16.out.below hb)
 have QS_17:=zaa (QS_16.out.below hb (by omega))
 have QT_17:=zaa (QT_16.out.below hb (by omega))
 have QH_17:=zaa (QH_16.out.below hb (by omega))
 clear B_16 VA_16 VS_16 VG_16 RK_16 QS_16 QT_16 QH_16 hb
 go_upto_region 25 with fail
 rw [← hw17,← hbH]
 clear hw17 hbH
 clear IC
 clear QT_17
 obtain ⟨h0,h1,h2,h3,h4,h5,h6,h7,h8,h9,-⟩:=zam VH_17.out
 obtain ⟨s0,s1,s2,s3,s4,s5,s6,s7,s8,s9,-⟩:=zam VS_17.out
 go_wp2_with fail
 refine (zli _ _ ws2 ps2 es2 qs2 hs2 td2 cd2 vl2 nm2 fr2 w17 QH_17.out.rd QS_17.out.rd (by omega) (by omega) (by omega) (by omega) (by omega) (by omega) (by omega)).mono ?_
 rintro e w18 ⟨rfl,hb⟩
 clear h0 h1 h2 h3 h4 h5 h6 h7 h8 h9 s0 s1 s2 s3 s4 s5 s6 s7 s8 s9
 have z18:w17.heap.size ≤ w18.heap.size:=hb.size
 have B_18:=zaa (zab B_17.out hb B_17.out.size)
 have VA_18:=zaa (zac VA_17.out hb (zah VA_17.out))
 have VS_18:=zaa (zac VS_17.out hb (zah VS_17.out))
 have VG_18:=zaa (zac VG_17.out hb (zah VG_17.out))
 have VH_18:=zaa (zac VH_17.out hb (zah VH_17.out))
 have RK_18:=zaa (RK_17.out.below hb)
 have QS_18:=zaa (QS_17.out.below hb (by omega))
 have QH_18:=zaa (QH_17.out.below hb (by omega))
 clear B_17 VA_17 VS_17 VG_17 VH_17 RK_17 QS_17 QH_17 hb
 obtain ⟨g0,g1,g2,g3,g4,g5,g6,g7,g8,g9,-⟩:=zam VG_18.out
 go_wp2_with fail
 refine (zsi _ 1 ws2.length ps2.length es2.length qs2.length hs2.length td2.length cd2 vl2 nm2.length fr2 w18 RK_18.out (by omega) (by omega) (by omega) (by omega) (by omega) (by omega) (by omega) (by decide) (by decide)).mono ?_
 rw [← ekm.out]
 rintro e w19 ⟨rfl,hb⟩
 clear g0 g1 g2 g3 g4 g5 g6 g7 g8 g9
 have z19:w18.heap.size ≤ w19.heap.size:=hb.size
 have B_19:=zaa (zab B_18.out hb B_18.out.size)
 have VA_19:=zaa (zac VA_18.out hb (zah VA_18.out))
 have VS_19:=zaa (zac VS_18.out hb (zah VS_18.out))
 have VG_19:=zaa (zac VG_18.out hb (zah VG_18.out))
 have VH_19:=zaa (zac VH_18.out hb (zah VH_18.out))
 have RK_19:=zaa (RK_18.out.below hb)
 have QS_19:=zaa (QS_18.out.below hb (by omega))
 have QH_19:=zaa (QH_18.out.below hb (by omega))
 clear B_18 VA_18 VS_18 VG_18 VH_18 RK_18 QS_18 QH_18 hb
 go_wp2
 go_ret
 exact ⟨rfl,FB.out _ B_19.out⟩
end Go.Proofs.YtlkmnpanddchdaaGreatDoor
