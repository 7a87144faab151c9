/- The law of CrashFs: the walk. -/
import Derived.Test.YtlkmnpanddchdaaGreatDoorCrD
import Derived.Test.YtlkmnpanddchdaaGreatDoorZAM
import Derived.Test.YtlkmnpanddchdaaGreatDoorZAA
import Derived.Deep.DeepCutAuto
import Derived.Deep.RegionHeld3
namespace Go.Proofs.YtlkmnpanddchdaaGreatDoor
open Go.RowKit
theorem ints_num (zs:List Int):∀ u ∈ zav zs,∃ z,u = Value.int .i64 z:=fun u hu => by
 obtain ⟨z,-,rfl⟩:=List.mem_map.1 (show u ∈ zs.map (Value.int .i64) from hu)
 exact ⟨z,rfl⟩
theorem crashFs_sm (ws:List Int) (ps:List St) (es:List Int) (qs:List Se) (hs:List Int) (td:List Mi) (cd vl:Int) (nm:List ByteArray) (fr:Bool) (zs:List Int) (hws:ws.length ≤ 1048576) (_hps:ps.length ≤ 1048576) (hes:es.length ≤ 1048576) (_hqs:qs.length ≤ 1048576) (_hhs:hs.length ≤ 1048576) (_htd:td.length ≤ 1048576) (_hnm:nm.length ≤ 1048576) (_hz:zs.length ≤ 1048576):(crfR ws ps es qs hs td cd vl nm fr zs).1.W.length ≤ 1048576 ∧ (crfR ws ps es qs hs td cd vl nm fr zs).1.P.length ≤ 1048576 ∧ (crfR ws ps es qs hs td cd vl nm fr zs).1.E.length ≤ 1048576 ∧ (crfR ws ps es qs hs td cd vl nm fr zs).1.Q.length ≤ 1048576:=by
 unfold crfR
 split
 ·simp [d0]
 ·split
  ·split
   ·exact ⟨by simp only; rw [yalm]; exact hws,by simp,by simp only; rw [yakx]; exact hes,by simp⟩
   ·simp [d0]
  ·simp [d0]
set_option maxRecDepth 100000 in
set_option maxHeartbeats 16000000 in
theorem crashFs_law (v:Value) (ws:List Int) (ps:List St) (es:List Int) (qs:List Se) (hs:List Int) (td:List Mi) (cd vl:Int) (nm:List ByteArray) (fr:Bool) (vZ:Value) (zs:List Int) (w:World) (h:RdF w v ws ps es qs hs td cd vl nm fr) (hZ:RdI w vZ zs) (hB:ws.length ≤ maxLen ∧ ps.length ≤ maxLen ∧ es.length ≤ maxLen ∧ qs.length ≤ maxLen ∧ hs.length ≤ maxLen ∧ td.length ≤ maxLen ∧ nm.length ≤ maxLen) (hz:∀ k (hk:k < nm.length),nm[k].size ≤ maxLen) (ic:(ws.length ≤ 1048576 ∧ ps.length ≤ 1048576 ∧ es.length ≤ 1048576 ∧ qs.length ≤ 1048576 ∧ hs.length ≤ 1048576 ∧ td.length ≤ 1048576 ∧ nm.length ≤ 1048576) → (zs.length ≤ 1048576) → ∀ v1 uZ w1,Below w.heap.size w w1 → RdF w1 v1 ws ps es qs hs td cd vl nm fr → RdI w1 uZ zs → Calls Tryz.prog 10 #[v1,uZ] w1 fun e w' => yauz w1 w' e (crfR ws ps es qs hs td cd vl nm fr zs)) :
  Calls Tryz.prog 3 #[v,vZ] w fun e w' => e = .returned (.bool true) ∧ Below w.heap.size w w':=by
 obtain ⟨aZ,cZ,rfl,-⟩:=hZ.shape
 by_cases zsl:zs.length ≤ 1048576
 case neg =>
  have cq:(1048576:Int) < (zs.length:Int):=by omega
  obtain ⟨aW,cW,aP,cP,aS,cS,aQ,cQ,aH,cH,aT,cT,aN,cN,rfl,-,-,-,-⟩:=id h
  clear hB hz ic
  go_enter Tryz.func3,Tryz.ntmps3
  go_wp2
  go_ret
  exact ⟨rfl,(Below.refl _ _).alloc (Nat.le_refl _) _⟩
 have zsc:¬ (1048576:Int) < (zs.length:Int):=by omega
 obtain ⟨aW,cW,aP,cP,aS,cS,aQ,cQ,aH,cH,aT,cT,aN,cN,rfl,-,-,-,n1⟩:=id h
 obtain ⟨W,hW⟩:∃ W,W = (w.alloc (.cells #[.slice aW ws.length cW,.slice aP ps.length cP,.slice aS es.length cS,.slice aQ qs.length cQ,.slice aH hs.length cH,.slice aT td.length cT,.int .i64 cd,.int .i64 vl,.slice aN nm.length cN,.bool fr] 36)):=⟨_,rfl⟩
 have BW:Hid (Below w.heap.size w W):=by rw [hW]; exact ((Below.refl _ _).alloc (Nat.le_refl _) _)
 have VA_0:Hid (W.heap[w.heap.size]? = some (.cells #[.slice aW ws.length cW,.slice aP ps.length cP,.slice aS es.length cS,.slice aQ qs.length cQ,.slice aH hs.length cH,.slice aT td.length cT,.int .i64 cd,.int .i64 vl,.slice aN nm.length cN,.bool fr] 36 (0,0))):=by rw [hW]; exact (zag rfl)
 have ltA:w.heap.size < W.heap.size:=zah VA_0.out
 have B_0:Hid (Below W.heap.size W W):=Below.refl _ _
 have RDA:Hid (∀ w',Below W.heap.size W w' → RdF w' (.agg #[.slice aW ws.length cW,.slice aP ps.length cP,.slice aS es.length cS,.slice aQ qs.length cQ,.slice aH hs.length cH,.slice aT td.length cT,.int .i64 cd,.int .i64 vl,.slice aN nm.length cN,.bool fr]) ws ps es qs hs td cd vl nm fr):=fun w' hb => RdF.below h (zab BW.out hb BW.out.size)
 have FB:Hid (∀ w',Below W.heap.size W w' → Below w.heap.size w w'):=fun w' hb => zab BW.out hb BW.out.size
 have SZ:Hid (∀ w1,Below W.heap.size W w1 → Calls Tryz.prog 6 #[.agg #[.slice aW ws.length cW,.slice aP ps.length cP,.slice aS es.length cS,.slice aQ qs.length cQ,.slice aH hs.length cH,.slice aT td.length cT,.int .i64 cd,.int .i64 vl,.slice aN nm.length cN,.bool fr],.int .i64 1048576] w1 fun e w' => ∃ r:Int,e = .returned (.int .i64 r) ∧ (0 ≤ r → (ws.length ≤ 1048576 ∧ ps.length ≤ 1048576 ∧ es.length ≤ 1048576 ∧ qs.length ≤ 1048576 ∧ hs.length ≤ 1048576 ∧ td.length ≤ 1048576 ∧ nm.length ≤ 1048576) ∧ r ≤ 1048576) ∧ -1 ≤ r ∧ Below w1.heap.size w1 w'):=fun w1 hb => yaph aW aP aS aQ aH aT aN cW cP cS cQ cH cT cN ws ps es qs hs td cd vl nm fr w1 hB.1 hB.2.1 hB.2.2.1 hB.2.2.2.1 hB.2.2.2.2.1 hB.2.2.2.2.2.1 hB.2.2.2.2.2.2 (Rd.below n1 (zab BW.out hb BW.out.size)) hz
 clear hB hz n1
 have RZ0:Hid (∀ w',Below W.heap.size W w' → RdI w' (.slice aZ zs.length cZ) zs):=fun w' hb => Rd.below hZ (zab BW.out hb BW.out.size)
 clear hZ
 go_enter Tryz.func3,Tryz.ntmps3
 go_upto_region 4 with fail
 rw [← hW]
 clear hW
 clear zsc
 obtain ⟨a0,a1,a2,a3,a4,a5,a6,a7,a8,a9,-⟩:=zam VA_0.out
 go_wp2_with fail
 refine (SZ.out W B_0.out).mono ?_
 rintro e w1 ⟨r,rfl,hr,hr1,hb⟩
 clear a0 a1 a2 a3 a4 a5 a6 a7 a8 a9
 have z1:W.heap.size ≤ w1.heap.size:=hb.size
 have B_1:=zaa (zab B_0.out hb B_0.out.size)
 have VA_1:=zaa (zac VA_0.out hb (zah VA_0.out))
 clear B_0 VA_0 hb
 by_cases cr:r < 0
 ·clear  SZ RDA ic RZ0
  go_wp2
  go_ret
  exact ⟨rfl,FB.out _ B_1.out⟩
 obtain ⟨⟨hws,hps,hes,hqs,hhs,htd,hnm⟩,hr2⟩:=hr (by omega)
 clear SZ hr hr1
 have SM:=zaa (crashFs_sm ws ps es qs hs td cd vl nm fr zs hws hps hes hqs hhs htd hnm zsl)
 have SC:=zaa (fun v1 uZ w1 (h1:RdF w1 v1 ws ps es qs hs td cd vl nm fr) (hZ:RdI w1 uZ zs) => yamg v1 ws ps es qs hs td cd vl nm fr uZ zs w1 h1 hZ hws hps hes hqs hhs htd hnm zsl)
 have IC:=zaa (ic ⟨hws,hps,hes,hqs,hhs,htd,hnm⟩ zsl)
 clear ic
 generalize crfR ws ps es qs hs td cd vl nm fr zs = R at *
 obtain ⟨⟨W2,P2,E2,Q2⟩,rc⟩:=R
 simp only [yauz] at SM SC IC
 obtain ⟨m1,m2,m3,m4⟩:=SM.out
 clear SM
 obtain ⟨kx,ekx⟩:∃ kx:Int,kx = kD 1 ws.length ps.length es.length qs.length + hs.length + 3 * td.length + nm.length:=⟨_,rfl⟩
 have kx0:¬ kx < 0 ∧ kx ≤ 268435456:=by rw [ekx]; unfold kD; omega
 obtain ⟨kx1,kx2⟩:=kx0
 have kz0:¬ kx + (zs.length:Int) < 0:=by omega
 obtain ⟨km,ekm⟩:∃ km:Int,km = 1 + W2.length + 3 * P2.length + E2.length + 2 * Q2.length:=⟨_,rfl⟩
 have km0:¬ km < 0:=by rw [ekm]; omega
 replace ekx:=zaa ekx
 replace ekm:=zaa ekm
 obtain ⟨a0,a1,a2,a3,a4,a5,a6,a7,a8,a9,-⟩:=zam VA_1.out
 go_wp2_with fail
 refine (zom _ ws ps es qs hs td cd vl nm fr w1 (RDA.out w1 B_1.out) hws hps hes hqs hhs htd hnm).mono ?_
 rintro e w2 ⟨v2,rfl,hr,hb⟩
 clear a0 a1 a2 a3 a4 a5 a6 a7 a8 a9
 have hq:=hr.form
 obtain ⟨TaW,TcW,TaP,TcP,TaS,TcS,TaQ,TcQ,TaH,TcH,TaT,TcT,TaN,TcN,eq⟩:=hq
 subst eq
 have z2:w1.heap.size ≤ w2.heap.size:=hb.size
 have B_2:=zaa (zab B_1.out hb B_1.out.size)
 have VA_2:=zaa (zac VA_1.out hb (zah VA_1.out))
 clear B_1 VA_1 hb
 have QT_2:Hid (RowF w2 w1.heap.size w2.heap.size _ ws ps es qs hs td cd vl nm fr):=hr
 clear hr
 go_wp2_with fail
 refine (zcm _ zs w2 (RZ0.out w2 B_2.out) zsl).mono ?_
 rintro e w3 ⟨v3,rfl,hr,hb⟩
 obtain ⟨-,Z0a,Z0c,rfl,-⟩:=hr.rd
 have z3:w2.heap.size ≤ w3.heap.size:=hb.size
 have B_3:=zaa (zab B_2.out hb B_2.out.size)
 have VA_3:=zaa (zac VA_2.out hb (zah VA_2.out))
 have QT_3:=zaa (QT_2.out.below hb (by omega))
 clear B_2 VA_2 QT_2 hb
 have QZ0_3:Hid (Row w3 3 1 w2.heap.size w3.heap.size _ zs.length (zav zs)):=hr
 clear hr
 go_wp2_with fail
 refine (SC.out _ _ w3 QT_3.out.rd QZ0_3.out.rd).mono ?_
 rintro e w4 ⟨v4,rfl,hr,hb⟩
 obtain ⟨SaW,ScW,SaP,ScP,SaS,ScS,SaQ,ScQ,eq,-,-⟩:=hr.rd.form
 subst eq
 have z4:w3.heap.size ≤ w4.heap.size:=hb.size
 have B_4:=zaa (zab B_3.out hb B_3.out.size)
 have VA_4:=zaa (zac VA_3.out hb (zah VA_3.out))
 have QT_4:=zaa (QT_3.out.below hb (by omega))
 have QZ0_4:=zaa (QZ0_3.out.below hb (by omega))
 clear B_3 VA_3 QT_3 QZ0_3 hb
 have QS_4:Hid (RowDev w4 w3.heap.size w4.heap.size _ W2 P2 E2 Q2):=hr
 clear hr
 obtain ⟨w5,hw5⟩:∃ w5,w5 = w4.alloc (.cells #[.slice SaW W2.length ScW,.slice SaP P2.length ScP,.slice SaS E2.length ScS,.slice SaQ Q2.length ScQ] 45):=⟨_,rfl⟩
 have hb:Below w4.heap.size w4 w5:=by rw [hw5]; exact (Below.refl _ _).alloc (Nat.le_refl _) _
 obtain ⟨bS,hbS⟩:∃ bS:Nat,bS = w4.heap.size:=⟨_,rfl⟩
 have VS_5:Hid (w5.heap[bS]? = some (.cells #[.slice SaW W2.length ScW,.slice SaP P2.length ScP,.slice SaS E2.length ScS,.slice SaQ Q2.length ScQ] 45 (0,0))):=by rw [hw5,hbS]; exact zag rfl
 have pS:w4.heap.size ≤ bS ∧ bS ≤ w4.heap.size ∧ bS < w5.heap.size:=⟨Nat.le_of_eq hbS.symm,Nat.le_of_eq hbS,zah VS_5.out⟩
 have z5:w4.heap.size ≤ w5.heap.size:=hb.size
 have B_5:=zaa (zab B_4.out hb B_4.out.size)
 have VA_5:=zaa (zac VA_4.out hb (zah VA_4.out))
 have QT_5:=zaa (QT_4.out.below hb (by omega))
 have QZ0_5:=zaa (QZ0_4.out.below hb (by omega))
 have QS_5:=zaa (QS_4.out.below hb (by omega))
 clear B_4 VA_4 QT_4 QZ0_4 QS_4 hb
 go_upto_region 8 with fail
 rw [← hw5,← hbS]
 clear hw5 hbS
 clear SC
 clear QT_5
 clear QZ0_5
 obtain ⟨a0,a1,a2,a3,a4,a5,a6,a7,a8,a9,-⟩:=zam VA_5.out
 go_wp2_with fail
 refine (zom _ ws ps es qs hs td cd vl nm fr w5 (RDA.out w5 B_5.out) hws hps hes hqs hhs htd hnm).mono ?_
 rintro e w6 ⟨v6,rfl,hr,hb⟩
 clear a0 a1 a2 a3 a4 a5 a6 a7 a8 a9
 have hq:=hr.form
 obtain ⟨XaW,XcW,XaP,XcP,XaS,XcS,XaQ,XcQ,XaH,XcH,XaT,XcT,XaN,XcN,eq⟩:=hq
 subst eq
 have z6:w5.heap.size ≤ w6.heap.size:=hb.size
 have B_6:=zaa (zab B_5.out hb B_5.out.size)
 have VA_6:=zaa (zac VA_5.out hb (zah VA_5.out))
 have VS_6:=zaa (zac VS_5.out hb (zah VS_5.out))
 have QS_6:=zaa (QS_5.out.below hb (by omega))
 clear B_5 VA_5 VS_5 QS_5 hb
 have QX_6:Hid (RowF w6 w5.heap.size w6.heap.size _ ws ps es qs hs td cd vl nm fr):=hr
 clear hr
 obtain ⟨w7,hw7⟩:∃ w7,w7 = w6.alloc (.cells #[.slice XaW ws.length XcW,.slice XaP ps.length XcP,.slice XaS es.length XcS,.slice XaQ qs.length XcQ,.slice XaH hs.length XcH,.slice XaT td.length XcT,.int .i64 cd,.int .i64 vl,.slice XaN nm.length XcN,.bool fr] 51):=⟨_,rfl⟩
 have hb:Below w6.heap.size w6 w7:=by rw [hw7]; exact (Below.refl _ _).alloc (Nat.le_refl _) _
 obtain ⟨bX,hbX⟩:∃ bX:Nat,bX = w6.heap.size:=⟨_,rfl⟩
 have VX_7:Hid (w7.heap[bX]? = some (.cells #[.slice XaW ws.length XcW,.slice XaP ps.length XcP,.slice XaS es.length XcS,.slice XaQ qs.length XcQ,.slice XaH hs.length XcH,.slice XaT td.length XcT,.int .i64 cd,.int .i64 vl,.slice XaN nm.length XcN,.bool fr] 51 (0,0))):=by rw [hw7,hbX]; exact zag rfl
 have pX:w6.heap.size ≤ bX ∧ bX ≤ w6.heap.size ∧ bX < w7.heap.size:=⟨Nat.le_of_eq hbX.symm,Nat.le_of_eq hbX,zah VX_7.out⟩
 have z7:w6.heap.size ≤ w7.heap.size:=hb.size
 have B_7:=zaa (zab B_6.out hb B_6.out.size)
 have VA_7:=zaa (zac VA_6.out hb (zah VA_6.out))
 have VS_7:=zaa (zac VS_6.out hb (zah VS_6.out))
 have QS_7:=zaa (QS_6.out.below hb (by omega))
 have QX_7:=zaa (QX_6.out.below hb (by omega))
 clear B_6 VA_6 VS_6 QS_6 QX_6 hb
 go_upto_region 9 with fail
 rw [← hw7,← hbX]
 clear hw7 hbX
 go_wp2_with fail
 refine (zcm _ zs w7 (RZ0.out w7 B_7.out) zsl).mono ?_
 rintro e w8 ⟨v8,rfl,hr,hb⟩
 obtain ⟨-,Y0a,Y0c,rfl,-⟩:=hr.rd
 have z8:w7.heap.size ≤ w8.heap.size:=hb.size
 have B_8:=zaa (zab B_7.out hb B_7.out.size)
 have VA_8:=zaa (zac VA_7.out hb (zah VA_7.out))
 have VS_8:=zaa (zac VS_7.out hb (zah VS_7.out))
 have VX_8:=zaa (zac VX_7.out hb (zah VX_7.out))
 have QS_8:=zaa (QS_7.out.below hb (by omega))
 have QX_8:=zaa (QX_7.out.below hb (by omega))
 clear B_7 VA_7 VS_7 VX_7 QS_7 QX_7 hb
 have QY0_8:Hid (Row w8 3 1 w7.heap.size w8.heap.size _ zs.length (zav zs)):=hr
 clear hr
 obtain ⟨x0,x1,x2,x3,x4,x5,x6,x7,x8,x9,-⟩:=zam VX_8.out
 go_wp2_with fail
 refine (IC.out _ _ w8 (FB.out w8 B_8.out) QX_8.out.rd QY0_8.out.rd).mono ?_
 rintro e w9 ⟨v9,rfl,hr,hb⟩
 clear x0 x1 x2 x3 x4 x5 x6 x7 x8 x9
 obtain ⟨GaW,GcW,GaP,GcP,GaS,GcS,GaQ,GcQ,eq,-,-⟩:=hr.rd.form
 subst eq
 have z9:w8.heap.size ≤ w9.heap.size:=hb.size
 have B_9:=zaa (zab B_8.out hb B_8.out.size)
 have VA_9:=zaa (zac VA_8.out hb (zah VA_8.out))
 have VS_9:=zaa (zac VS_8.out hb (zah VS_8.out))
 have VX_9:=zaa (zac VX_8.out hb (zah VX_8.out))
 have QS_9:=zaa (QS_8.out.below hb (by omega))
 have QX_9:=zaa (QX_8.out.below hb (by omega))
 have QY0_9:=zaa (QY0_8.out.below hb (by omega))
 clear B_8 VA_8 VS_8 VX_8 QS_8 QX_8 QY0_8 hb
 have QG_9:Hid (RowDev w9 w8.heap.size w9.heap.size _ W2 P2 E2 Q2):=hr
 clear hr
 obtain ⟨w10,hw10⟩:∃ w10,w10 = w9.alloc (.cells #[.slice GaW W2.length GcW,.slice GaP P2.length GcP,.slice GaS E2.length GcS,.slice GaQ Q2.length GcQ] 45):=⟨_,rfl⟩
 have hb:Below w9.heap.size w9 w10:=by rw [hw10]; exact (Below.refl _ _).alloc (Nat.le_refl _) _
 obtain ⟨bG,hbG⟩:∃ bG:Nat,bG = w9.heap.size:=⟨_,rfl⟩
 have VG_10:Hid (w10.heap[bG]? = some (.cells #[.slice GaW W2.length GcW,.slice GaP P2.length GcP,.slice GaS E2.length GcS,.slice GaQ Q2.length GcQ] 45 (0,0))):=by rw [hw10,hbG]; exact zag rfl
 have pG:w9.heap.size ≤ bG ∧ bG ≤ w9.heap.size ∧ bG < w10.heap.size:=⟨Nat.le_of_eq hbG.symm,Nat.le_of_eq hbG,zah VG_10.out⟩
 have z10:w9.heap.size ≤ w10.heap.size:=hb.size
 have B_10:=zaa (zab B_9.out hb B_9.out.size)
 have VA_10:=zaa (zac VA_9.out hb (zah VA_9.out))
 have VS_10:=zaa (zac VS_9.out hb (zah VS_9.out))
 have VX_10:=zaa (zac VX_9.out hb (zah VX_9.out))
 have QS_10:=zaa (QS_9.out.below hb (by omega))
 have QX_10:=zaa (QX_9.out.below hb (by omega))
 have QY0_10:=zaa (QY0_9.out.below hb (by omega))
 have QG_10:=zaa (QG_9.out.below hb (by omega))
 clear B_9 VA_9 VS_9 VX_9 QS_9 QX_9 QY0_9 QG_9 hb
 go_upto_region 11 with fail
 rw [← hw10,← hbG]
 clear hw10 hbG
 obtain ⟨g0,g1,g2,g3,-⟩:=zaf VG_10.out
 obtain ⟨s0,s1,s2,s3,-⟩:=zaf VS_10.out
 go_wp2_with fail
 refine (zqw _ _ W2 P2 E2 Q2 w10 QG_10.out.rd QS_10.out.rd (by omega) (by omega) (by omega) (by omega)).mono ?_
 rintro e w11 ⟨rfl,hb⟩
 clear g0 g1 g2 g3 s0 s1 s2 s3
 have z11:w10.heap.size ≤ w11.heap.size:=hb.size
 have B_11:=zaa (zab B_10.out hb B_10.out.size)
 have VA_11:=zaa (zac VA_10.out hb (zah VA_10.out))
 have VS_11:=zaa (zac VS_10.out hb (zah VS_10.out))
 have VX_11:=zaa (zac VX_10.out hb (zah VX_10.out))
 have VG_11:=zaa (zac VG_10.out hb (zah VG_10.out))
 have QS_11:=zaa (QS_10.out.below hb (by omega))
 have QX_11:=zaa (QX_10.out.below hb (by omega))
 have QY0_11:=zaa (QY0_10.out.below hb (by omega))
 have QG_11:=zaa (QG_10.out.below hb (by omega))
 clear B_10 VA_10 VS_10 VX_10 VG_10 QS_10 QX_10 QY0_10 QG_10 hb
 have RX_11:=zaa QX_11.out.rd
 have SK:Hid (∀ w',Below w11.heap.size w11 w' → (w'.cell? ⟨bX,0,none⟩ = some (.slice XaW ws.length XcW) ∧ w'.cell? ⟨bX,1,none⟩ = some (.slice XaP ps.length XcP) ∧ w'.cell? ⟨bX,2,none⟩ = some (.slice XaS es.length XcS) ∧ w'.cell? ⟨bX,3,none⟩ = some (.slice XaQ qs.length XcQ) ∧ w'.cell? ⟨bX,4,none⟩ = some (.slice XaH hs.length XcH) ∧ w'.cell? ⟨bX,5,none⟩ = some (.slice XaT td.length XcT) ∧ w'.cell? ⟨bX,6,none⟩ = some (.int .i64 cd) ∧ w'.cell? ⟨bX,7,none⟩ = some (.int .i64 vl) ∧ w'.cell? ⟨bX,8,none⟩ = some (.slice XaN nm.length XcN) ∧ w'.cell? ⟨bX,9,none⟩ = some (.bool fr)) ∧ (w'.cell? ⟨w.heap.size,0,none⟩ = some (.slice aW ws.length cW) ∧ w'.cell? ⟨w.heap.size,1,none⟩ = some (.slice aP ps.length cP) ∧ w'.cell? ⟨w.heap.size,2,none⟩ = some (.slice aS es.length cS) ∧ w'.cell? ⟨w.heap.size,3,none⟩ = some (.slice aQ qs.length cQ) ∧ w'.cell? ⟨w.heap.size,4,none⟩ = some (.slice aH hs.length cH) ∧ w'.cell? ⟨w.heap.size,5,none⟩ = some (.slice aT td.length cT) ∧ w'.cell? ⟨w.heap.size,6,none⟩ = some (.int .i64 cd) ∧ w'.cell? ⟨w.heap.size,7,none⟩ = some (.int .i64 vl) ∧ w'.cell? ⟨w.heap.size,8,none⟩ = some (.slice aN nm.length cN) ∧ w'.cell? ⟨w.heap.size,9,none⟩ = some (.bool fr))):=fun w' hb => by
  obtain ⟨x0,x1,x2,x3,x4,x5,x6,x7,x8,x9,-⟩:=zam (zac VX_11.out hb (zah VX_11.out))
  obtain ⟨a0,a1,a2,a3,a4,a5,a6,a7,a8,a9,-⟩:=zam (zac VA_11.out hb (zah VA_11.out))
  exact ⟨⟨x0,x1,x2,x3,x4,x5,x6,x7,x8,x9⟩,a0,a1,a2,a3,a4,a5,a6,a7,a8,a9⟩
 go_upto_region 13 with fail
 go_cut [56] (fun s wx => s = .bool false ∧ Hid (Below w11.heap.size w11 wx))
 case first =>
  as_aux_lemma =>
   obtain ⟨⟨x0,x1,x2,x3,x4,x5,x6,x7,x8,x9⟩,a0,a1,a2,a3,a4,a5,a6,a7,a8,a9⟩:=SK.out _ (Below.refl _ _)
   go_region_held3 (fun w' => (w'.cell? ⟨bX,0,none⟩ = some (.slice XaW ws.length XcW) ∧ w'.cell? ⟨bX,1,none⟩ = some (.slice XaP ps.length XcP) ∧ w'.cell? ⟨bX,2,none⟩ = some (.slice XaS es.length XcS) ∧ w'.cell? ⟨bX,3,none⟩ = some (.slice XaQ qs.length XcQ) ∧ w'.cell? ⟨bX,4,none⟩ = some (.slice XaH hs.length XcH) ∧ w'.cell? ⟨bX,5,none⟩ = some (.slice XaT td.length XcT) ∧ w'.cell? ⟨bX,6,none⟩ = some (.int .i64 cd) ∧ w'.cell? ⟨bX,7,none⟩ = some (.int .i64 vl) ∧ w'.cell? ⟨bX,8,none⟩ = some (.slice XaN nm.length XcN) ∧ w'.cell? ⟨bX,9,none⟩ = some (.bool fr)) ∧ (w'.cell? ⟨w.heap.size,0,none⟩ = some (.slice aW ws.length cW) ∧ w'.cell? ⟨w.heap.size,1,none⟩ = some (.slice aP ps.length cP) ∧ w'.cell? ⟨w.heap.size,2,none⟩ = some (.slice aS es.length cS) ∧ w'.cell? ⟨w.heap.size,3,none⟩ = some (.slice aQ qs.length cQ) ∧ w'.cell? ⟨w.heap.size,4,none⟩ = some (.slice aH hs.length cH) ∧ w'.cell? ⟨w.heap.size,5,none⟩ = some (.slice aT td.length cT) ∧ w'.cell? ⟨w.heap.size,6,none⟩ = some (.int .i64 cd) ∧ w'.cell? ⟨w.heap.size,7,none⟩ = some (.int .i64 vl) ∧ w'.cell? ⟨w.heap.size,8,none⟩ = some (.slice aN nm.length cN) ∧ w'.cell? ⟨w.heap.size,9,none⟩ = some (.bool fr)))
    (exact SK.out _ (by repeat (first | with_reducible exact BE.out | with_reducible exact BF.out | with_reducible exact Below.refl _ _ | with_reducible refine Below.drew ?_)))
    (first
     | (go_at_call 8; refine (zom _ ws ps es qs hs td cd vl nm fr _ (RDA.out _ (zab B_11.out (by repeat (first | with_reducible exact Below.refl _ _ | with_reducible refine Below.drew ?_)) B_11.out.size)) hws hps hes hqs hhs htd hnm).mono ?_; rintro e wt ⟨vt,rfl,hrt,hbt⟩; have BF:Hid (Below w11.heap.size w11 wt):=belY (by repeat (first | with_reducible exact Below.refl _ _ | with_reducible refine Below.drew ?_)) hbt; have RT:=zaa hrt.rd; obtain ⟨taW,tcW,taP,tcP,taS,tcS,taQ,tcQ,taH,tcH,taT,tcT,taN,tcN,eqt⟩:=hrt.form; subst eqt; clear hrt hbt)
     | (go_at_call 12; refine (zli _ _ ws ps es qs hs td cd vl nm fr _ (RX_11.out.below (belY BF.out (by repeat (first | with_reducible exact Below.refl _ _ | with_reducible refine Below.drew ?_)))) (RT.out.below (by repeat (first | with_reducible exact Below.refl _ _ | with_reducible refine Below.drew ?_))) (by omega) (by omega) (by omega) (by omega) (by omega) (by omega) (by omega)).mono ?_; rintro e wu ⟨rfl,hbu⟩; have BE:Hid (Below w11.heap.size w11 wu):=belY BF.out (belY (by repeat (first | with_reducible exact Below.refl _ _ | with_reducible refine Below.drew ?_)) hbu); clear hbu))
   all_goals
    go_wp2_with fail
    go_meet
    exact ⟨rfl,(by unfold Hid; repeat (first | with_reducible exact BE.out | with_reducible refine Below.drew ?_))⟩
 case rest =>
 obtain ⟨rfl,hbH⟩:=hcut
 rename World => w12
 clear SK
 have hb:=hbH.out
 clear hbH
 have z12:w11.heap.size ≤ w12.heap.size:=hb.size
 have B_12:=zaa (zab B_11.out hb B_11.out.size)
 have VA_12:=zaa (zac VA_11.out hb (zah VA_11.out))
 have VS_12:=zaa (zac VS_11.out hb (zah VS_11.out))
 have VX_12:=zaa (zac VX_11.out hb (zah VX_11.out))
 have VG_12:=zaa (zac VG_11.out hb (zah VG_11.out))
 have RX_12:=zaa (RX_11.out.below hb)
 have QS_12:=zaa (QS_11.out.below hb (by omega))
 have QX_12:=zaa (QX_11.out.below hb (by omega))
 have QY0_12:=zaa (QY0_11.out.below hb (by omega))
 have QG_12:=zaa (QG_11.out.below hb (by omega))
 clear B_11 VA_11 VS_11 VX_11 VG_11 RX_11 QS_11 QX_11 QY0_11 QG_11 hb
 clear RX_12
 go_wp2_with fail
 refine (zcm _ zs w12 (RZ0.out w12 B_12.out) zsl).mono ?_
 rintro e w13 ⟨v13,rfl,hr,hb⟩
 obtain ⟨-,Ea,Ec,rfl,-⟩:=hr.rd
 have z13:w12.heap.size ≤ w13.heap.size:=hb.size
 have B_13:=zaa (zab B_12.out hb B_12.out.size)
 have VA_13:=zaa (zac VA_12.out hb (zah VA_12.out))
 have VS_13:=zaa (zac VS_12.out hb (zah VS_12.out))
 have VX_13:=zaa (zac VX_12.out hb (zah VX_12.out))
 have VG_13:=zaa (zac VG_12.out hb (zah VG_12.out))
 have QS_13:=zaa (QS_12.out.below hb (by omega))
 have QX_13:=zaa (QX_12.out.below hb (by omega))
 have QY0_13:=zaa (QY0_12.out.below hb (by omega))
 have QG_13:=zaa (QG_12.out.below hb (by omega))
 clear B_12 VA_12 VS_12 VX_12 VG_12 QS_12 QX_12 QY0_12 QG_12 hb
 have QE_13:Hid (Row w13 3 1 w12.heap.size w13.heap.size _ zs.length (zav zs)):=hr
 clear hr
 go_wp2_with fail
 refine (zft _ _ zs w13 QY0_13.out.rd QE_13.out.rd (by omega)).mono ?_
 rintro e w14 ⟨rfl,hb⟩
 have z14:w13.heap.size ≤ w14.heap.size:=hb.size
 have B_14:=zaa (zab B_13.out hb B_13.out.size)
 have VA_14:=zaa (zac VA_13.out hb (zah VA_13.out))
 have VS_14:=zaa (zac VS_13.out hb (zah VS_13.out))
 have VX_14:=zaa (zac VX_13.out hb (zah VX_13.out))
 have VG_14:=zaa (zac VG_13.out hb (zah VG_13.out))
 have QS_14:=zaa (QS_13.out.below hb (by omega))
 have QX_14:=zaa (QX_13.out.below hb (by omega))
 have QY0_14:=zaa (QY0_13.out.below hb (by omega))
 have QG_14:=zaa (QG_13.out.below hb (by omega))
 have QE_14:=zaa (QE_13.out.below hb (by omega))
 clear B_13 VA_13 VS_13 VX_13 VG_13 QS_13 QX_13 QY0_13 QG_13 QE_13 hb
 clear QE_14
 obtain ⟨x0,x1,x2,x3,x4,x5,x6,x7,x8,x9,-⟩:=zam VX_14.out
 go_wp2_with fail
 refine (ztg _ ws ps es qs hs td cd vl nm fr 1 _ _ w14 QX_14.out (by omega) (by omega) (by omega) (by omega) (by omega) (by omega) (by omega) (by omega) (by decide) (by decide)).mono ?_
 rw [← ekx.out]
 rintro e w15 ⟨rfl,hk,ho⟩
 clear x0 x1 x2 x3 x4 x5 x6 x7 x8 x9
 have QX_14_:=QX_14
 clear QX_14_
 have z15:w14.heap.size ≤ w15.heap.size:=ho.size
 have B_15:=zaa (B_14.out.trans (ho.below (B:=W.heap.size) (by omega) B_14.out.size))
 have VA_15:=zaa ((ho.block _ (zah VA_14.out) (by omega)).trans VA_14.out)
 have VS_15:=zaa ((ho.block _ (zah VS_14.out) (by omega)).trans VS_14.out)
 have VX_15:=zaa ((ho.block _ (zah VX_14.out) (by omega)).trans VX_14.out)
 have VG_15:=zaa ((ho.block _ (zah VG_14.out) (by omega)).trans VG_14.out)
 have QS_15:=zaa (QS_14.out.outside ho (by omega) (by omega))
 have QY0_15:=zaa (QY0_14.out.outside ho (by omega) (by omega))
 have QG_15:=zaa (QG_14.out.outside ho (by omega) (by omega))
 clear B_14 VA_14 VS_14 VX_14 VG_14 QS_14 QY0_14 QG_14 ho
 clear hk
 clear VX_15
 go_wp2_with fail
 refine (zeu _ zs.length (zav zs) (kx) _ _ w15 QY0_15.out (ints_num zs) (by omega) (by omega) (by omega)).mono ?_
 rintro e w16 ⟨rfl,-,hgq,hzq⟩
 have ho:=Row.grown_outside QY0_15.out hgq
 clear hgq hzq QY0_15
 have z16:w15.heap.size ≤ w16.heap.size:=ho.size
 have B_16:=zaa (B_15.out.trans (ho.below (B:=W.heap.size) (by omega) B_15.out.size))
 have VA_16:=zaa ((ho.block _ (zah VA_15.out) (by omega)).trans VA_15.out)
 have VS_16:=zaa ((ho.block _ (zah VS_15.out) (by omega)).trans VS_15.out)
 have VG_16:=zaa ((ho.block _ (zah VG_15.out) (by omega)).trans VG_15.out)
 have QS_16:=zaa (QS_15.out.outside ho (by omega) (by omega))
 have QG_16:=zaa (QG_15.out.outside ho (by omega) (by omega))
 clear B_15 VA_15 VS_15 VG_15 QS_15 QG_15 ho
 obtain ⟨g0,g1,g2,g3,-⟩:=zaf VG_16.out
 obtain ⟨s0,s1,s2,s3,-⟩:=zaf VS_16.out
 go_wp2_with fail
 refine (zqw _ _ W2 P2 E2 Q2 w16 QG_16.out.rd QS_16.out.rd (by omega) (by omega) (by omega) (by omega)).mono ?_
 rintro e w17 ⟨rfl,hb⟩
 clear g0 g1 g2 g3 s0 s1 s2 s3
 have z17:w16.heap.size ≤ w17.heap.size:=hb.size
 have B_17:=zaa (zab B_16.out hb B_16.out.size)
 have VA_17:=zaa (zac VA_16.out hb (zah VA_16.out))
 have VS_17:=zaa (zac VS_16.out hb (zah VS_16.out))
 have VG_17:=zaa (zac VG_16.out hb (zah VG_16.out))
 have QS_17:=zaa (QS_16.out.below hb (by omega))
 have QG_17:=zaa (QG_16.out.below hb (by omega))
 clear B_16 VA_16 VS_16 VG_16 QS_16 QG_16 hb
 obtain ⟨g0,g1,g2,g3,-⟩:=zaf VG_17.out
 go_wp2_with fail
 refine (zpd _ W2 P2 E2 Q2 1 _ _ w17 QG_17.out (by omega) (by omega) (by omega) (by omega) (by omega) (by decide) (by decide)).mono ?_
 rw [← ekm.out]
 rintro e w18 ⟨rfl,hk,ho⟩
 clear g0 g1 g2 g3
 clear QG_17
 have z18:w17.heap.size ≤ w18.heap.size:=ho.size
 have B_18:=zaa (B_17.out.trans (ho.below (B:=W.heap.size) (by omega) B_17.out.size))
 have VA_18:=zaa ((ho.block _ (zah VA_17.out) (by omega)).trans VA_17.out)
 have VS_18:=zaa ((ho.block _ (zah VS_17.out) (by omega)).trans VS_17.out)
 have VG_18:=zaa ((ho.block _ (zah VG_17.out) (by omega)).trans VG_17.out)
 have QS_18:=zaa (QS_17.out.outside ho (by omega) (by omega))
 clear B_17 VA_17 VS_17 VG_17 QS_17 ho
 have QK_18:=zaa hk
 clear hk
 obtain ⟨g0,g1,g2,g3,-⟩:=zaf VG_18.out
 go_wp2_with fail
 refine (zpa _ W2.length P2.length E2.length Q2.length 1 w18 QK_18.out.rd (by omega) (by omega) (by omega) (by omega) (by decide) (by decide)).mono ?_
 rw [← ekm.out]
 rintro e w19 ⟨rfl,hb⟩
 clear g0 g1 g2 g3
 have z19:w18.heap.size ≤ w19.heap.size:=hb.size
 have B_19:=zaa (zab B_18.out hb B_18.out.size)
 have VA_19:=zaa (zac VA_18.out hb (zah VA_18.out))
 have VS_19:=zaa (zac VS_18.out hb (zah VS_18.out))
 have VG_19:=zaa (zac VG_18.out hb (zah VG_18.out))
 have QS_19:=zaa (QS_18.out.below hb (by omega))
 have QK_19:=zaa (QK_18.out.below hb (by omega))
 clear B_18 VA_18 VS_18 VG_18 QS_18 QK_18 hb
 obtain ⟨a0,a1,a2,a3,a4,a5,a6,a7,a8,a9,-⟩:=zam VA_19.out
 go_wp2_with fail
 refine (zom _ ws ps es qs hs td cd vl nm fr w19 (RDA.out w19 B_19.out) hws hps hes hqs hhs htd hnm).mono ?_
 rintro e w20 ⟨v20,rfl,hr,hb⟩
 clear a0 a1 a2 a3 a4 a5 a6 a7 a8 a9
 have hq:=hr.form
 obtain ⟨TaW,TcW,TaP,TcP,TaS,TcS,TaQ,TcQ,TaH,TcH,TaT,TcT,TaN,TcN,eq⟩:=hq
 subst eq
 have z20:w19.heap.size ≤ w20.heap.size:=hb.size
 have B_20:=zaa (zab B_19.out hb B_19.out.size)
 have VA_20:=zaa (zac VA_19.out hb (zah VA_19.out))
 have VS_20:=zaa (zac VS_19.out hb (zah VS_19.out))
 have VG_20:=zaa (zac VG_19.out hb (zah VG_19.out))
 have QS_20:=zaa (QS_19.out.below hb (by omega))
 have QK_20:=zaa (QK_19.out.below hb (by omega))
 clear B_19 VA_19 VS_19 VG_19 QS_19 QK_19 hb
 have QT_20:Hid (RowF w20 w19.heap.size w20.heap.size _ ws ps es qs hs td cd vl nm fr):=hr
 clear hr
 go_wp2_with fail
 refine (zcm _ zs w20 (RZ0.out w20 B_20.out) zsl).mono ?_
 rintro e w21 ⟨v21,rfl,hr,hb⟩
 obtain ⟨-,Z0a,Z0c,rfl,-⟩:=hr.rd
 have z21:w20.heap.size ≤ w21.heap.size:=hb.size
 have B_21:=zaa (zab B_20.out hb B_20.out.size)
 have VA_21:=zaa (zac VA_20.out hb (zah VA_20.out))
 have VS_21:=zaa (zac VS_20.out hb (zah VS_20.out))
 have VG_21:=zaa (zac VG_20.out hb (zah VG_20.out))
 have QS_21:=zaa (QS_20.out.below hb (by omega))
 have QK_21:=zaa (QK_20.out.below hb (by omega))
 have QT_21:=zaa (QT_20.out.below hb (by omega))
 clear B_20 VA_20 VS_20 VG_20 QS_20 QK_20 QT_20 hb
 have QZ0_21:Hid (Row w21 3 1 w20.heap.size w21.heap.size _ zs.length (zav zs)):=hr
 clear hr
 go_wp2_with fail
 refine (IC.out _ _ w21 (FB.out w21 B_21.out) QT_21.out.rd QZ0_21.out.rd).mono ?_
 rintro e w22 ⟨v22,rfl,hr,hb⟩
 obtain ⟨HaW,HcW,HaP,HcP,HaS,HcS,HaQ,HcQ,eq,-,-⟩:=hr.rd.form
 subst eq
 have z22:w21.heap.size ≤ w22.heap.size:=hb.size
 have B_22:=zaa (zab B_21.out hb B_21.out.size)
 have VA_22:=zaa (zac VA_21.out hb (zah VA_21.out))
 have VS_22:=zaa (zac VS_21.out hb (zah VS_21.out))
 have VG_22:=zaa (zac VG_21.out hb (zah VG_21.out))
 have QS_22:=zaa (QS_21.out.below hb (by omega))
 have QK_22:=zaa (QK_21.out.below hb (by omega))
 have QT_22:=zaa (QT_21.out.below hb (by omega))
 have QZ0_22:=zaa (QZ0_21.out.below hb (by omega))
 clear B_21 VA_21 VS_21 VG_21 QS_21 QK_21 QT_21 QZ0_21 hb
 have QH_22:Hid (RowDev w22 w21.heap.size w22.heap.size _ W2 P2 E2 Q2):=hr
 clear hr
 obtain ⟨w23,hw23⟩:∃ w23,w23 = w22.alloc (.cells #[.slice HaW W2.length HcW,.slice HaP P2.length HcP,.slice HaS E2.length HcS,.slice HaQ Q2.length HcQ] 45):=⟨_,rfl⟩
 have hb:Below w22.heap.size w22 w23:=by rw [hw23]; exact (Below.refl _ _).alloc (Nat.le_refl _) _
 obtain ⟨bH,hbH⟩:∃ bH:Nat,bH = w22.heap.size:=⟨_,rfl⟩
 have VH_23:Hid (w23.heap[bH]? = some (.cells #[.slice HaW W2.length HcW,.slice HaP P2.length HcP,.slice HaS E2.length HcS,.slice HaQ Q2.length HcQ] 45 (0,0))):=by rw [hw23,hbH]; exact zag rfl
 have pH:w22.heap.size ≤ bH ∧ bH ≤ w22.heap.size ∧ bH < w23.heap.size:=⟨Nat.le_of_eq hbH.symm,Nat.le_of_eq hbH,zah VH_23.out⟩
 have z23:w22.heap.size ≤ w23.heap.size:=hb.size
 have B_23:=zaa (zab B_22.out hb B_22.out.size)
 have VA_23:=zaa (zac VA_22.out hb (zah VA_22.out))
 have VS_23:=zaa (zac VS_22.out hb (zah VS_22.out))
 have VG_23:=zaa (zac VG_22.out hb (zah VG_22.out))
 have QS_23:=zaa (QS_22.out.below hb (by omega))
 have QK_23:=zaa (QK_22.out.below hb (by omega))
 have QT_23:=zaa (QT_22.out.below hb (by omega))
 have QZ0_23:=zaa (QZ0_22.out.below hb (by omega))
 have QH_23:=zaa (QH_22.out.below hb (by omega))
 clear B_22 VA_22 VS_22 VG_22 QS_22 QK_22 QT_22 QZ0_22 QH_22 hb
 go_upto_region 31 with fail
 rw [← hw23,← hbH]
 clear hw23 hbH
 clear IC
 clear QT_23
 clear QZ0_23
 obtain ⟨h0,h1,h2,h3,-⟩:=zaf VH_23.out
 obtain ⟨s0,s1,s2,s3,-⟩:=zaf VS_23.out
 go_wp2_with fail
 refine (zqw _ _ W2 P2 E2 Q2 w23 QH_23.out.rd QS_23.out.rd (by omega) (by omega) (by omega) (by omega)).mono ?_
 rintro e w24 ⟨rfl,hb⟩
 clear h0 h1 h2 h3 s0 s1 s2 s3
 have z24:w23.heap.size ≤ w24.heap.size:=hb.size
 have B_24:=zaa (zab B_23.out hb B_23.out.size)
 have VA_24:=zaa (zac VA_23.out hb (zah VA_23.out))
 have VS_24:=zaa (zac VS_23.out hb (zah VS_23.out))
 have VG_24:=zaa (zac VG_23.out hb (zah VG_23.out))
 have VH_24:=zaa (zac VH_23.out hb (zah VH_23.out))
 have QS_24:=zaa (QS_23.out.below hb (by omega))
 have QK_24:=zaa (QK_23.out.below hb (by omega))
 have QH_24:=zaa (QH_23.out.below hb (by omega))
 clear B_23 VA_23 VS_23 VG_23 VH_23 QS_23 QK_23 QH_23 hb
 obtain ⟨g0,g1,g2,g3,-⟩:=zaf VG_24.out
 go_wp2_with fail
 refine (zpa _ W2.length P2.length E2.length Q2.length 1 w24 QK_24.out.rd (by omega) (by omega) (by omega) (by omega) (by decide) (by decide)).mono ?_
 rw [← ekm.out]
 rintro e w25 ⟨rfl,hb⟩
 clear g0 g1 g2 g3
 have z25:w24.heap.size ≤ w25.heap.size:=hb.size
 have B_25:=zaa (zab B_24.out hb B_24.out.size)
 have VA_25:=zaa (zac VA_24.out hb (zah VA_24.out))
 have VS_25:=zaa (zac VS_24.out hb (zah VS_24.out))
 have VG_25:=zaa (zac VG_24.out hb (zah VG_24.out))
 have VH_25:=zaa (zac VH_24.out hb (zah VH_24.out))
 have QS_25:=zaa (QS_24.out.below hb (by omega))
 have QK_25:=zaa (QK_24.out.below hb (by omega))
 have QH_25:=zaa (QH_24.out.below hb (by omega))
 clear B_24 VA_24 VS_24 VG_24 VH_24 QS_24 QK_24 QH_24 hb
 go_wp2
 go_ret
 exact ⟨rfl,FB.out _ B_25.out⟩
end Go.Proofs.YtlkmnpanddchdaaGreatDoor
