/- The law of CrashTwice: the walk. -/
import Derived.Test.YtlkmnpanddchdaaGreatDoorCrD
import Derived.Test.YtlkmnpanddchdaaGreatDoorZAM
import Derived.Test.YtlkmnpanddchdaaGreatDoorZAA
import Derived.Deep.DeepCutAuto
import Derived.Deep.RegionHeld3
namespace Go.Proofs.YtlkmnpanddchdaaGreatDoor
open Go.RowKit
theorem zxm (zs:List Int):∀ u ∈ zav zs,∃ z,u = Value.int .i64 z:=fun u hu => by
 obtain ⟨z,-,rfl⟩:=List.mem_map.1 (show u ∈ zs.map (Value.int .i64) from hu)
 exact ⟨z,rfl⟩
theorem yaus (ws:List Int) (ps:List St) (es:List Int) (qs:List Se):SmF (recR ws ps es qs).1:=by
 unfold recR
 split
 ·rename_i c
  exact yaqo c
 ·exact yaex
theorem zuw (ws:List Int) (ps:List St) (es:List Int) (qs:List Se) (hs:List Int) (td:List Mi) (cd vl:Int) (nm:List ByteArray) (fr:Bool) (zs:List Int) (st:Int) (gs:List Int) (_hws:ws.length ≤ 1048576) (_hps:ps.length ≤ 1048576) (_hes:es.length ≤ 1048576) (_hqs:qs.length ≤ 1048576) (_hhs:hs.length ≤ 1048576) (_htd:td.length ≤ 1048576) (_hnm:nm.length ≤ 1048576) (_hz:zs.length ≤ 1048576) (_hg:gs.length ≤ 1048576):SmF (zog ws ps es qs hs td cd vl nm fr zs st gs).1:=by
 unfold zog ctD
 split
 ·exact yaex
 ·split
  ·split
   ·split
    ·exact yaus _ _ _ _
    ·exact yaex
   ·exact yaex
  ·exact yaex
set_option maxRecDepth 100000 in
set_option maxHeartbeats 16000000 in
theorem zrm (v:Value) (ws:List Int) (ps:List St) (es:List Int) (qs:List Se) (hs:List Int) (td:List Mi) (cd vl:Int) (nm:List ByteArray) (fr:Bool) (vZ:Value) (zs:List Int) (vA:Value) (gs:List Int) (st:Int) (w:World) (h:RdF w v ws ps es qs hs td cd vl nm fr) (hZ:RdI w vZ zs) (hA:RdI w vA gs) (hB:ws.length ≤ maxLen ∧ ps.length ≤ maxLen ∧ es.length ≤ maxLen ∧ qs.length ≤ maxLen ∧ hs.length ≤ maxLen ∧ td.length ≤ maxLen ∧ nm.length ≤ maxLen) (hz:∀ k (hk:k < nm.length),nm[k].size ≤ maxLen) (ic:(ws.length ≤ 1048576 ∧ ps.length ≤ 1048576 ∧ es.length ≤ 1048576 ∧ qs.length ≤ 1048576 ∧ hs.length ≤ 1048576 ∧ td.length ≤ 1048576 ∧ nm.length ≤ 1048576) → (zs.length ≤ 1048576 ∧ gs.length ≤ 1048576) → ∀ v1 uZ uA w1,Below w.heap.size w w1 → RdF w1 v1 ws ps es qs hs td cd vl nm fr → RdI w1 uZ zs → RdI w1 uA gs → Calls Tryz.prog 24 #[v1,uZ,.int .i64 st,uA] w1 fun e w' => zjo w1 w' e (zog ws ps es qs hs td cd vl nm fr zs st gs)) :
  Calls Tryz.prog 5 #[v,vZ,.int .i64 st,vA] w fun e w' => e = .returned (.bool true) ∧ Below w.heap.size w w':=by
 obtain ⟨aZ,cZ,rfl,-⟩:=hZ.shape
 obtain ⟨aA,cA,rfl,-⟩:=hA.shape
 by_cases zsl:zs.length ≤ 1048576
 case neg =>
  have cq:(1048576:Int) < (zs.length:Int):=by omega
  obtain ⟨aW,cW,aP,cP,aS,cS,aQ,cQ,aH,cH,aT,cT,aN,cN,rfl,-,-,-,-⟩:=id h
  clear hB hz ic
  go_enter Tryz.func5,Tryz.ntmps5
  go_wp2
  go_ret
  exact ⟨rfl,(Below.refl _ _).alloc (Nat.le_refl _) _⟩
 have zsc:¬ (1048576:Int) < (zs.length:Int):=by omega
 by_cases gsl:gs.length ≤ 1048576
 case neg =>
  have cq:(1048576:Int) < (gs.length:Int):=by omega
  obtain ⟨aW,cW,aP,cP,aS,cS,aQ,cQ,aH,cH,aT,cT,aN,cN,rfl,-,-,-,-⟩:=id h
  clear hB hz ic
  go_enter Tryz.func5,Tryz.ntmps5
  go_wp2
  go_ret
  exact ⟨rfl,(Below.refl _ _).alloc (Nat.le_refl _) _⟩
 have gsc:¬ (1048576:Int) < (gs.length:Int):=by omega
 obtain ⟨aW,cW,aP,cP,aS,cS,aQ,cQ,aH,cH,aT,cT,aN,cN,rfl,-,-,-,n1⟩:=id h
 obtain ⟨W,hW⟩:∃ W,W = (w.alloc (.cells #[.slice aW ws.length cW,.slice aP ps.length cP,.slice aS es.length cS,.slice aQ qs.length cQ,.slice aH hs.length cH,.slice aT td.length cT,.int .i64 cd,.int .i64 vl,.slice aN nm.length cN,.bool fr] 36)):=⟨_,rfl⟩
 have BW:Hid (Below w.heap.size w W):=by rw [hW]; exact ((Below.refl _ _).alloc (Nat.le_refl _) _)
 have VA_0:Hid (W.heap[w.heap.size]? = some (.cells #[.slice aW ws.length cW,.slice aP ps.length cP,.slice aS es.length cS,.slice aQ qs.length cQ,.slice aH hs.length cH,.slice aT td.length cT,.int .i64 cd,.int .i64 vl,.slice aN nm.length cN,.bool fr] 36 (0,0))):=by rw [hW]; exact (zag rfl)
 have ltA:w.heap.size < W.heap.size:=zah VA_0.out
 have B_0:Hid (Below W.heap.size W W):=Below.refl _ _
 have RDA:Hid (∀ w',Below W.heap.size W w' → RdF w' (.agg #[.slice aW ws.length cW,.slice aP ps.length cP,.slice aS es.length cS,.slice aQ qs.length cQ,.slice aH hs.length cH,.slice aT td.length cT,.int .i64 cd,.int .i64 vl,.slice aN nm.length cN,.bool fr]) ws ps es qs hs td cd vl nm fr):=fun w' hb => RdF.below h (zab BW.out hb BW.out.size)
 have FB:Hid (∀ w',Below W.heap.size W w' → Below w.heap.size w w'):=fun w' hb => zab BW.out hb BW.out.size
 have SZ:Hid (∀ w1,Below W.heap.size W w1 → Calls Tryz.prog 6 #[.agg #[.slice aW ws.length cW,.slice aP ps.length cP,.slice aS es.length cS,.slice aQ qs.length cQ,.slice aH hs.length cH,.slice aT td.length cT,.int .i64 cd,.int .i64 vl,.slice aN nm.length cN,.bool fr],.int .i64 1048576] w1 fun e w' => ∃ r:Int,e = .returned (.int .i64 r) ∧ (0 ≤ r → (ws.length ≤ 1048576 ∧ ps.length ≤ 1048576 ∧ es.length ≤ 1048576 ∧ qs.length ≤ 1048576 ∧ hs.length ≤ 1048576 ∧ td.length ≤ 1048576 ∧ nm.length ≤ 1048576) ∧ r ≤ 1048576) ∧ -1 ≤ r ∧ Below w1.heap.size w1 w'):=fun w1 hb => yaph aW aP aS aQ aH aT aN cW cP cS cQ cH cT cN ws ps es qs hs td cd vl nm fr w1 hB.1 hB.2.1 hB.2.2.1 hB.2.2.2.1 hB.2.2.2.2.1 hB.2.2.2.2.2.1 hB.2.2.2.2.2.2 (Rd.below n1 (zab BW.out hb BW.out.size)) hz
 clear hB hz n1
 have RZ0:Hid (∀ w',Below W.heap.size W w' → RdI w' (.slice aZ zs.length cZ) zs):=fun w' hb => Rd.below hZ (zab BW.out hb BW.out.size)
 clear hZ
 have RA0:Hid (∀ w',Below W.heap.size W w' → RdI w' (.slice aA gs.length cA) gs):=fun w' hb => Rd.below hA (zab BW.out hb BW.out.size)
 clear hA
 go_enter Tryz.func5,Tryz.ntmps5
 go_upto_region 6 with fail
 rw [← hW]
 clear hW
 clear zsc gsc
 obtain ⟨a0,a1,a2,a3,a4,a5,a6,a7,a8,a9,-⟩:=zam VA_0.out
 go_wp2_with fail
 refine (SZ.out W B_0.out).mono ?_
 rintro e w1 ⟨r,rfl,hr,hr1,hb⟩
 clear a0 a1 a2 a3 a4 a5 a6 a7 a8 a9
 have z1:W.heap.size ≤ w1.heap.size:=hb.size
 have B_1:=zaa (zab B_0.out hb B_0.out.size)
 have VA_1:=zaa (zac VA_0.out hb (zah VA_0.out))
 clear B_0 VA_0 hb
 by_cases cr:r < 0
 ·clear  SZ RDA ic RZ0 RA0
  go_wp2
  go_ret
  exact ⟨rfl,FB.out _ B_1.out⟩
 obtain ⟨⟨hws,hps,hes,hqs,hhs,htd,hnm⟩,hr2⟩:=hr (by omega)
 clear SZ hr hr1
 have SM:=zaa (zuw ws ps es qs hs td cd vl nm fr zs st gs hws hps hes hqs hhs htd hnm zsl gsl)
 have SC:=zaa (fun v1 uZ uA w1 (h1:RdF w1 v1 ws ps es qs hs td cd vl nm fr) (hZ:RdI w1 uZ zs) (hA:RdI w1 uA gs) => zks v1 ws ps es qs hs td cd vl nm fr uZ zs st uA gs w1 h1 hZ hA hws hps hes hqs hhs htd hnm zsl gsl)
 have IC:=zaa (ic ⟨hws,hps,hes,hqs,hhs,htd,hnm⟩ ⟨zsl,gsl⟩)
 clear ic
 generalize zog ws ps es qs hs td cd vl nm fr zs st gs = R at *
 obtain ⟨⟨ws2,ps2,es2,qs2,hs2,td2,cd2,vl2,nm2,fr2⟩,rc⟩:=R
 simp only [zjo] at SM SC IC
 obtain ⟨m1,m2,m3,m4,m5,m6,m7⟩:=SM.out
 clear SM
 obtain ⟨kx,ekx⟩:∃ kx:Int,kx = kD 1 ws.length ps.length es.length qs.length + hs.length + 3 * td.length + nm.length:=⟨_,rfl⟩
 have kx0:¬ kx < 0 ∧ kx ≤ 268435456:=by rw [ekx]; unfold kD; omega
 obtain ⟨kx1,kx2⟩:=kx0
 have kz0:¬ kx + (zs.length:Int) < 0:=by omega
 have kz1:¬ kx + (zs.length:Int) + (gs.length:Int) < 0:=by omega
 obtain ⟨km,ekm⟩:∃ km:Int,km = kD 1 ws2.length ps2.length es2.length qs2.length + hs2.length + 3 * td2.length + nm2.length:=⟨_,rfl⟩
 have km0:¬ km < 0:=by rw [ekm]; unfold kD; omega
 replace ekx:=zaa ekx
 replace ekm:=zaa ekm
 obtain ⟨a0,a1,a2,a3,a4,a5,a6,a7,a8,a9,-⟩:=zam VA_1.out
 go_wp2_with fail
 refine (zom _ ws ps es qs hs td cd vl nm fr w1 (RDA.out w1 B_1.out) hws hps hes hqs hhs htd hnm).mono ?_
 rintro e w2 ⟨v2,rfl,hr,hb⟩
 clear a0 a1 a2 a3 a4 a5 a6 a7 a8 a9
 have hq:=hr.form
 obtain ⟨TaW,TcW,TaP,TcP,TaS,TcS,TaQ,TcQ,TaH,TcH,TaT,TcT,TaN,TcN,eq⟩:=hq
 subst eq
 have z2:w1.heap.size ≤ w2.heap.size:=hb.size
 have B_2:=zaa (zab B_1.out hb B_1.out.size)
 have VA_2:=zaa (zac VA_1.out hb (zah VA_1.out))
 clear B_1 VA_1 hb
 have QT_2:Hid (RowF w2 w1.heap.size w2.heap.size _ ws ps es qs hs td cd vl nm fr):=hr
 clear hr
 go_wp2_with fail
 refine (zcm _ zs w2 (RZ0.out w2 B_2.out) zsl).mono ?_
 rintro e w3 ⟨v3,rfl,hr,hb⟩
 obtain ⟨-,Z0a,Z0c,rfl,-⟩:=hr.rd
 have z3:w2.heap.size ≤ w3.heap.size:=hb.size
 have B_3:=zaa (zab B_2.out hb B_2.out.size)
 have VA_3:=zaa (zac VA_2.out hb (zah VA_2.out))
 have QT_3:=zaa (QT_2.out.below hb (by omega))
 clear B_2 VA_2 QT_2 hb
 have QZ0_3:Hid (Row w3 3 1 w2.heap.size w3.heap.size _ zs.length (zav zs)):=hr
 clear hr
 go_wp2_with fail
 refine (zcm _ gs w3 (RA0.out w3 B_3.out) gsl).mono ?_
 rintro e w4 ⟨v4,rfl,hr,hb⟩
 obtain ⟨-,Z1a,Z1c,rfl,-⟩:=hr.rd
 have z4:w3.heap.size ≤ w4.heap.size:=hb.size
 have B_4:=zaa (zab B_3.out hb B_3.out.size)
 have VA_4:=zaa (zac VA_3.out hb (zah VA_3.out))
 have QT_4:=zaa (QT_3.out.below hb (by omega))
 have QZ0_4:=zaa (QZ0_3.out.below hb (by omega))
 clear B_3 VA_3 QT_3 QZ0_3 hb
 have QZ1_4:Hid (Row w4 3 1 w3.heap.size w4.heap.size _ gs.length (zav gs)):=hr
 clear hr
 go_wp2_with fail
 refine (SC.out _ _ _ w4 QT_4.out.rd QZ0_4.out.rd QZ1_4.out.rd).mono ?_
 rintro e w5 ⟨v5,rfl,hr,hb⟩
 obtain ⟨SaW,ScW,SaP,ScP,SaS,ScS,SaQ,ScQ,SaH,ScH,SaT,ScT,SaN,ScN,eq⟩:=hr.form
 subst eq
 have z5:w4.heap.size ≤ w5.heap.size:=hb.size
 have B_5:=zaa (zab B_4.out hb B_4.out.size)
 have VA_5:=zaa (zac VA_4.out hb (zah VA_4.out))
 have QT_5:=zaa (QT_4.out.below hb (by omega))
 have QZ0_5:=zaa (QZ0_4.out.below hb (by omega))
 have QZ1_5:=zaa (QZ1_4.out.below hb (by omega))
 clear B_4 VA_4 QT_4 QZ0_4 QZ1_4 hb
 have QS_5:Hid (RowF w5 w4.heap.size w5.heap.size _ ws2 ps2 es2 qs2 hs2 td2 cd2 vl2 nm2 fr2):=hr
 clear hr
 obtain ⟨w6,hw6⟩:∃ w6,w6 = w5.alloc (.cells #[.slice SaW ws2.length ScW,.slice SaP ps2.length ScP,.slice SaS es2.length ScS,.slice SaQ qs2.length ScQ,.slice SaH hs2.length ScH,.slice SaT td2.length ScT,.int .i64 cd2,.int .i64 vl2,.slice SaN nm2.length ScN,.bool fr2] 51):=⟨_,rfl⟩
 have hb:Below w5.heap.size w5 w6:=by rw [hw6]; exact (Below.refl _ _).alloc (Nat.le_refl _) _
 obtain ⟨bS,hbS⟩:∃ bS:Nat,bS = w5.heap.size:=⟨_,rfl⟩
 have VS_6:Hid (w6.heap[bS]? = some (.cells #[.slice SaW ws2.length ScW,.slice SaP ps2.length ScP,.slice SaS es2.length ScS,.slice SaQ qs2.length ScQ,.slice SaH hs2.length ScH,.slice SaT td2.length ScT,.int .i64 cd2,.int .i64 vl2,.slice SaN nm2.length ScN,.bool fr2] 51 (0,0))):=by rw [hw6,hbS]; exact zag rfl
 have pS:w5.heap.size ≤ bS ∧ bS ≤ w5.heap.size ∧ bS < w6.heap.size:=⟨Nat.le_of_eq hbS.symm,Nat.le_of_eq hbS,zah VS_6.out⟩
 have z6:w5.heap.size ≤ w6.heap.size:=hb.size
 have B_6:=zaa (zab B_5.out hb B_5.out.size)
 have VA_6:=zaa (zac VA_5.out hb (zah VA_5.out))
 have QT_6:=zaa (QT_5.out.below hb (by omega))
 have QZ0_6:=zaa (QZ0_5.out.below hb (by omega))
 have QZ1_6:=zaa (QZ1_5.out.below hb (by omega))
 have QS_6:=zaa (QS_5.out.below hb (by omega))
 clear B_5 VA_5 QT_5 QZ0_5 QZ1_5 QS_5 hb
 go_upto_region 10 with fail
 rw [← hw6,← hbS]
 clear hw6 hbS
 clear SC
 clear QT_6
 clear QZ0_6
 clear QZ1_6
 obtain ⟨a0,a1,a2,a3,a4,a5,a6,a7,a8,a9,-⟩:=zam VA_6.out
 go_wp2_with fail
 refine (zom _ ws ps es qs hs td cd vl nm fr w6 (RDA.out w6 B_6.out) hws hps hes hqs hhs htd hnm).mono ?_
 rintro e w7 ⟨v7,rfl,hr,hb⟩
 clear a0 a1 a2 a3 a4 a5 a6 a7 a8 a9
 have hq:=hr.form
 obtain ⟨XaW,XcW,XaP,XcP,XaS,XcS,XaQ,XcQ,XaH,XcH,XaT,XcT,XaN,XcN,eq⟩:=hq
 subst eq
 have z7:w6.heap.size ≤ w7.heap.size:=hb.size
 have B_7:=zaa (zab B_6.out hb B_6.out.size)
 have VA_7:=zaa (zac VA_6.out hb (zah VA_6.out))
 have VS_7:=zaa (zac VS_6.out hb (zah VS_6.out))
 have QS_7:=zaa (QS_6.out.below hb (by omega))
 clear B_6 VA_6 VS_6 QS_6 hb
 have QX_7:Hid (RowF w7 w6.heap.size w7.heap.size _ ws ps es qs hs td cd vl nm fr):=hr
 clear hr
 obtain ⟨w8,hw8⟩:∃ w8,w8 = w7.alloc (.cells #[.slice XaW ws.length XcW,.slice XaP ps.length XcP,.slice XaS es.length XcS,.slice XaQ qs.length XcQ,.slice XaH hs.length XcH,.slice XaT td.length XcT,.int .i64 cd,.int .i64 vl,.slice XaN nm.length XcN,.bool fr] 51):=⟨_,rfl⟩
 have hb:Below w7.heap.size w7 w8:=by rw [hw8]; exact (Below.refl _ _).alloc (Nat.le_refl _) _
 obtain ⟨bX,hbX⟩:∃ bX:Nat,bX = w7.heap.size:=⟨_,rfl⟩
 have VX_8:Hid (w8.heap[bX]? = some (.cells #[.slice XaW ws.length XcW,.slice XaP ps.length XcP,.slice XaS es.length XcS,.slice XaQ qs.length XcQ,.slice XaH hs.length XcH,.slice XaT td.length XcT,.int .i64 cd,.int .i64 vl,.slice XaN nm.length XcN,.bool fr] 51 (0,0))):=by rw [hw8,hbX]; exact zag rfl
 have pX:w7.heap.size ≤ bX ∧ bX ≤ w7.heap.size ∧ bX < w8.heap.size:=⟨Nat.le_of_eq hbX.symm,Nat.le_of_eq hbX,zah VX_8.out⟩
 have z8:w7.heap.size ≤ w8.heap.size:=hb.size
 have B_8:=zaa (zab B_7.out hb B_7.out.size)
 have VA_8:=zaa (zac VA_7.out hb (zah VA_7.out))
 have VS_8:=zaa (zac VS_7.out hb (zah VS_7.out))
 have QS_8:=zaa (QS_7.out.below hb (by omega))
 have QX_8:=zaa (QX_7.out.below hb (by omega))
 clear B_7 VA_7 VS_7 QS_7 QX_7 hb
 go_upto_region 11 with fail
 rw [← hw8,← hbX]
 clear hw8 hbX
 go_wp2_with fail
 refine (zcm _ zs w8 (RZ0.out w8 B_8.out) zsl).mono ?_
 rintro e w9 ⟨v9,rfl,hr,hb⟩
 obtain ⟨-,Y0a,Y0c,rfl,-⟩:=hr.rd
 have z9:w8.heap.size ≤ w9.heap.size:=hb.size
 have B_9:=zaa (zab B_8.out hb B_8.out.size)
 have VA_9:=zaa (zac VA_8.out hb (zah VA_8.out))
 have VS_9:=zaa (zac VS_8.out hb (zah VS_8.out))
 have VX_9:=zaa (zac VX_8.out hb (zah VX_8.out))
 have QS_9:=zaa (QS_8.out.below hb (by omega))
 have QX_9:=zaa (QX_8.out.below hb (by omega))
 clear B_8 VA_8 VS_8 VX_8 QS_8 QX_8 hb
 have QY0_9:Hid (Row w9 3 1 w8.heap.size w9.heap.size _ zs.length (zav zs)):=hr
 clear hr
 go_wp2_with fail
 refine (zcm _ gs w9 (RA0.out w9 B_9.out) gsl).mono ?_
 rintro e w10 ⟨v10,rfl,hr,hb⟩
 obtain ⟨-,Y1a,Y1c,rfl,-⟩:=hr.rd
 have z10:w9.heap.size ≤ w10.heap.size:=hb.size
 have B_10:=zaa (zab B_9.out hb B_9.out.size)
 have VA_10:=zaa (zac VA_9.out hb (zah VA_9.out))
 have VS_10:=zaa (zac VS_9.out hb (zah VS_9.out))
 have VX_10:=zaa (zac VX_9.out hb (zah VX_9.out))
 have QS_10:=zaa (QS_9.out.below hb (by omega))
 have QX_10:=zaa (QX_9.out.below hb (by omega))
 have QY0_10:=zaa (QY0_9.out.below hb (by omega))
 clear B_9 VA_9 VS_9 VX_9 QS_9 QX_9 QY0_9 hb
 have QY1_10:Hid (Row w10 3 1 w9.heap.size w10.heap.size _ gs.length (zav gs)):=hr
 clear hr
 obtain ⟨x0,x1,x2,x3,x4,x5,x6,x7,x8,x9,-⟩:=zam VX_10.out
 go_wp2_with fail
 refine (IC.out _ _ _ w10 (FB.out w10 B_10.out) QX_10.out.rd QY0_10.out.rd QY1_10.out.rd).mono ?_
 rintro e w11 ⟨v11,rfl,hr,hb⟩
 clear x0 x1 x2 x3 x4 x5 x6 x7 x8 x9
 obtain ⟨GaW,GcW,GaP,GcP,GaS,GcS,GaQ,GcQ,GaH,GcH,GaT,GcT,GaN,GcN,eq⟩:=hr.form
 subst eq
 have z11:w10.heap.size ≤ w11.heap.size:=hb.size
 have B_11:=zaa (zab B_10.out hb B_10.out.size)
 have VA_11:=zaa (zac VA_10.out hb (zah VA_10.out))
 have VS_11:=zaa (zac VS_10.out hb (zah VS_10.out))
 have VX_11:=zaa (zac VX_10.out hb (zah VX_10.out))
 have QS_11:=zaa (QS_10.out.below hb (by omega))
 have QX_11:=zaa (QX_10.out.below hb (by omega))
 have QY0_11:=zaa (QY0_10.out.below hb (by omega))
 have QY1_11:=zaa (QY1_10.out.below hb (by omega))
 clear B_10 VA_10 VS_10 VX_10 QS_10 QX_10 QY0_10 QY1_10 hb
 have QG_11:Hid (RowF w11 w10.heap.size w11.heap.size _ ws2 ps2 es2 qs2 hs2 td2 cd2 vl2 nm2 fr2):=hr
 clear hr
 obtain ⟨w12,hw12⟩:∃ w12,w12 = w11.alloc (.cells #[.slice GaW ws2.length GcW,.slice GaP ps2.length GcP,.slice GaS es2.length GcS,.slice GaQ qs2.length GcQ,.slice GaH hs2.length GcH,.slice GaT td2.length GcT,.int .i64 cd2,.int .i64 vl2,.slice GaN nm2.length GcN,.bool fr2] 51):=⟨_,rfl⟩
 have hb:Below w11.heap.size w11 w12:=by rw [hw12]; exact (Below.refl _ _).alloc (Nat.le_refl _) _
 obtain ⟨bG,hbG⟩:∃ bG:Nat,bG = w11.heap.size:=⟨_,rfl⟩
 have VG_12:Hid (w12.heap[bG]? = some (.cells #[.slice GaW ws2.length GcW,.slice GaP ps2.length GcP,.slice GaS es2.length GcS,.slice GaQ qs2.length GcQ,.slice GaH hs2.length GcH,.slice GaT td2.length GcT,.int .i64 cd2,.int .i64 vl2,.slice GaN nm2.length GcN,.bool fr2] 51 (0,0))):=by rw [hw12,hbG]; exact zag rfl
 have pG:w11.heap.size ≤ bG ∧ bG ≤ w11.heap.size ∧ bG < w12.heap.size:=⟨Nat.le_of_eq hbG.symm,Nat.le_of_eq hbG,zah VG_12.out⟩
 have z12:w11.heap.size ≤ w12.heap.size:=hb.size
 have B_12:=zaa (zab B_11.out hb B_11.out.size)
 have VA_12:=zaa (zac VA_11.out hb (zah VA_11.out))
 have VS_12:=zaa (zac VS_11.out hb (zah VS_11.out))
 have VX_12:=zaa (zac VX_11.out hb (zah VX_11.out))
 have QS_12:=zaa (QS_11.out.below hb (by omega))
 have QX_12:=zaa (QX_11.out.below hb (by omega))
 have QY0_12:=zaa (QY0_11.out.below hb (by omega))
 have QY1_12:=zaa (QY1_11.out.below hb (by omega))
 have QG_12:=zaa (QG_11.out.below hb (by omega))
 clear B_11 VA_11 VS_11 VX_11 QS_11 QX_11 QY0_11 QY1_11 QG_11 hb
 go_upto_region 14 with fail
 rw [← hw12,← hbG]
 clear hw12 hbG
 obtain ⟨g0,g1,g2,g3,g4,g5,g6,g7,g8,g9,-⟩:=zam VG_12.out
 obtain ⟨s0,s1,s2,s3,s4,s5,s6,s7,s8,s9,-⟩:=zam VS_12.out
 go_wp2_with fail
 refine (zli _ _ ws2 ps2 es2 qs2 hs2 td2 cd2 vl2 nm2 fr2 w12 QG_12.out.rd QS_12.out.rd (by omega) (by omega) (by omega) (by omega) (by omega) (by omega) (by omega)).mono ?_
 rintro e w13 ⟨rfl,hb⟩
 clear g0 g1 g2 g3 g4 g5 g6 g7 g8 g9 s0 s1 s2 s3 s4 s5 s6 s7 s8 s9
 have z13:w12.heap.size ≤ w13.heap.size:=hb.size
 have B_13:=zaa (zab B_12.out hb B_12.out.size)
 have VA_13:=zaa (zac VA_12.out hb (zah VA_12.out))
 have VS_13:=zaa (zac VS_12.out hb (zah VS_12.out))
 have VX_13:=zaa (zac VX_12.out hb (zah VX_12.out))
 have VG_13:=zaa (zac VG_12.out hb (zah VG_12.out))
 have QS_13:=zaa (QS_12.out.below hb (by omega))
 have QX_13:=zaa (QX_12.out.below hb (by omega))
 have QY0_13:=zaa (QY0_12.out.below hb (by omega))
 have QY1_13:=zaa (QY1_12.out.below hb (by omega))
 have QG_13:=zaa (QG_12.out.below hb (by omega))
 clear B_12 VA_12 VS_12 VX_12 VG_12 QS_12 QX_12 QY0_12 QY1_12 QG_12 hb
 have RX_13:=zaa QX_13.out.rd
 have SK:Hid (∀ w',Below w13.heap.size w13 w' → (w'.cell? ⟨bX,0,none⟩ = some (.slice XaW ws.length XcW) ∧ w'.cell? ⟨bX,1,none⟩ = some (.slice XaP ps.length XcP) ∧ w'.cell? ⟨bX,2,none⟩ = some (.slice XaS es.length XcS) ∧ w'.cell? ⟨bX,3,none⟩ = some (.slice XaQ qs.length XcQ) ∧ w'.cell? ⟨bX,4,none⟩ = some (.slice XaH hs.length XcH) ∧ w'.cell? ⟨bX,5,none⟩ = some (.slice XaT td.length XcT) ∧ w'.cell? ⟨bX,6,none⟩ = some (.int .i64 cd) ∧ w'.cell? ⟨bX,7,none⟩ = some (.int .i64 vl) ∧ w'.cell? ⟨bX,8,none⟩ = some (.slice XaN nm.length XcN) ∧ w'.cell? ⟨bX,9,none⟩ = some (.bool fr)) ∧ (w'.cell? ⟨w.heap.size,0,none⟩ = some (.slice aW ws.length cW) ∧ w'.cell? ⟨w.heap.size,1,none⟩ = some (.slice aP ps.length cP) ∧ w'.cell? ⟨w.heap.size,2,none⟩ = some (.slice aS es.length cS) ∧ w'.cell? ⟨w.heap.size,3,none⟩ = some (.slice aQ qs.length cQ) ∧ w'.cell? ⟨w.heap.size,4,none⟩ = some (.slice aH hs.length cH) ∧ w'.cell? ⟨w.heap.size,5,none⟩ = some (.slice aT td.length cT) ∧ w'.cell? ⟨w.heap.size,6,none⟩ = some (.int .i64 cd) ∧ w'.cell? ⟨w.heap.size,7,none⟩ = some (.int .i64 vl) ∧ w'.cell? ⟨w.heap.size,8,none⟩ = some (.slice aN nm.length cN) ∧ w'.cell? ⟨w.heap.size,9,none⟩ = some (.bool fr))):=fun w' hb => by
  obtain ⟨x0,x1,x2,x3,x4,x5,x6,x7,x8,x9,-⟩:=zam (zac VX_13.out hb (zah VX_13.out))
  obtain ⟨a0,a1,a2,a3,a4,a5,a6,a7,a8,a9,-⟩:=zam (zac VA_13.out hb (zah VA_13.out))
  exact ⟨⟨x0,x1,x2,x3,x4,x5,x6,x7,x8,x9⟩,a0,a1,a2,a3,a4,a5,a6,a7,a8,a9⟩
 go_upto_region 16 with fail
 go_cut [71] (fun s wx => s = .bool false ∧ Hid (Below w13.heap.size w13 wx))
 case first =>
  as_aux_lemma =>
   obtain ⟨⟨x0,x1,x2,x3,x4,x5,x6,x7,x8,x9⟩,a0,a1,a2,a3,a4,a5,a6,a7,a8,a9⟩:=SK.out _ (Below.refl _ _)
   go_region_held3 (fun w' => (w'.cell? ⟨bX,0,none⟩ = some (.slice XaW ws.length XcW) ∧ w'.cell? ⟨bX,1,none⟩ = some (.slice XaP ps.length XcP) ∧ w'.cell? ⟨bX,2,none⟩ = some (.slice XaS es.length XcS) ∧ w'.cell? ⟨bX,3,none⟩ = some (.slice XaQ qs.length XcQ) ∧ w'.cell? ⟨bX,4,none⟩ = some (.slice XaH hs.length XcH) ∧ w'.cell? ⟨bX,5,none⟩ = some (.slice XaT td.length XcT) ∧ w'.cell? ⟨bX,6,none⟩ = some (.int .i64 cd) ∧ w'.cell? ⟨bX,7,none⟩ = some (.int .i64 vl) ∧ w'.cell? ⟨bX,8,none⟩ = some (.slice XaN nm.length XcN) ∧ w'.cell? ⟨bX,9,none⟩ = some (.bool fr)) ∧ (w'.cell? ⟨w.heap.size,0,none⟩ = some (.slice aW ws.length cW) ∧ w'.cell? ⟨w.heap.size,1,none⟩ = some (.slice aP ps.length cP) ∧ w'.cell? ⟨w.heap.size,2,none⟩ = some (.slice aS es.length cS) ∧ w'.cell? ⟨w.heap.size,3,none⟩ = some (.slice aQ qs.length cQ) ∧ w'.cell? ⟨w.heap.size,4,none⟩ = some (.slice aH hs.length cH) ∧ w'.cell? ⟨w.heap.size,5,none⟩ = some (.slice aT td.length cT) ∧ w'.cell? ⟨w.heap.size,6,none⟩ = some (.int .i64 cd) ∧ w'.cell? ⟨w.heap.size,7,none⟩ = some (.int .i64 vl) ∧ w'.cell? ⟨w.heap.size,8,none⟩ = some (.slice aN nm.length cN) ∧ w'.cell? ⟨w.heap.size,9,none⟩ = some (.bool fr)))
    (exact SK.out _ (by repeat (first | with_reducible exact BE.out | with_reducible exact BF.out | with_reducible exact Below.refl _ _ | with_reducible refine Below.drew ?_)))
    (first
     | (go_at_call 8; refine (zom _ ws ps es qs hs td cd vl nm fr _ (RDA.out _ (zab B_13.out (by repeat (first | with_reducible exact Below.refl _ _ | with_reducible refine Below.drew ?_)) B_13.out.size)) hws hps hes hqs hhs htd hnm).mono ?_; rintro e wt ⟨vt,rfl,hrt,hbt⟩; have BF:Hid (Below w13.heap.size w13 wt):=belY (by repeat (first | with_reducible exact Below.refl _ _ | with_reducible refine Below.drew ?_)) hbt; have RT:=zaa hrt.rd; obtain ⟨taW,tcW,taP,tcP,taS,tcS,taQ,tcQ,taH,tcH,taT,tcT,taN,tcN,eqt⟩:=hrt.form; subst eqt; clear hrt hbt)
     | (go_at_call 12; refine (zli _ _ ws ps es qs hs td cd vl nm fr _ (RX_13.out.below (belY BF.out (by repeat (first | with_reducible exact Below.refl _ _ | with_reducible refine Below.drew ?_)))) (RT.out.below (by repeat (first | with_reducible exact Below.refl _ _ | with_reducible refine Below.drew ?_))) (by omega) (by omega) (by omega) (by omega) (by omega) (by omega) (by omega)).mono ?_; rintro e wu ⟨rfl,hbu⟩; have BE:Hid (Below w13.heap.size w13 wu):=belY BF.out (belY (by repeat (first | with_reducible exact Below.refl _ _ | with_reducible refine Below.drew ?_)) hbu); clear hbu))
   all_goals
    go_wp2_with fail
    go_meet
    exact ⟨rfl,(by unfold Hid; repeat (first | with_reducible exact BE.out | with_reducible refine Below.drew ?_))⟩
 case rest =>
 obtain ⟨rfl,hbH⟩:=hcut
 rename World => w14
 clear SK
 have hb:=hbH.out
 clear hbH
 have z14:w13.heap.size ≤ w14.heap.size:=hb.size
 have B_14:=zaa (zab B_13.out hb B_13.out.size)
 have VA_14:=zaa (zac VA_13.out hb (zah VA_13.out))
 have VS_14:=zaa (zac VS_13.out hb (zah VS_13.out))
 have VX_14:=zaa (zac VX_13.out hb (zah VX_13.out))
 have VG_14:=zaa (zac VG_13.out hb (zah VG_13.out))
 have RX_14:=zaa (RX_13.out.below hb)
 have QS_14:=zaa (QS_13.out.below hb (by omega))
 have QX_14:=zaa (QX_13.out.below hb (by omega))
 have QY0_14:=zaa (QY0_13.out.below hb (by omega))
 have QY1_14:=zaa (QY1_13.out.below hb (by omega))
 have QG_14:=zaa (QG_13.out.below hb (by omega))
 clear B_13 VA_13 VS_13 VX_13 VG_13 RX_13 QS_13 QX_13 QY0_13 QY1_13 QG_13 hb
 clear RX_14
 go_wp2_with fail
 refine (zcm _ zs w14 (RZ0.out w14 B_14.out) zsl).mono ?_
 rintro e w15 ⟨v15,rfl,hr,hb⟩
 obtain ⟨-,Ea,Ec,rfl,-⟩:=hr.rd
 have z15:w14.heap.size ≤ w15.heap.size:=hb.size
 have B_15:=zaa (zab B_14.out hb B_14.out.size)
 have VA_15:=zaa (zac VA_14.out hb (zah VA_14.out))
 have VS_15:=zaa (zac VS_14.out hb (zah VS_14.out))
 have VX_15:=zaa (zac VX_14.out hb (zah VX_14.out))
 have VG_15:=zaa (zac VG_14.out hb (zah VG_14.out))
 have QS_15:=zaa (QS_14.out.below hb (by omega))
 have QX_15:=zaa (QX_14.out.below hb (by omega))
 have QY0_15:=zaa (QY0_14.out.below hb (by omega))
 have QY1_15:=zaa (QY1_14.out.below hb (by omega))
 have QG_15:=zaa (QG_14.out.below hb (by omega))
 clear B_14 VA_14 VS_14 VX_14 VG_14 QS_14 QX_14 QY0_14 QY1_14 QG_14 hb
 have QE_15:Hid (Row w15 3 1 w14.heap.size w15.heap.size _ zs.length (zav zs)):=hr
 clear hr
 go_wp2_with fail
 refine (zft _ _ zs w15 QY0_15.out.rd QE_15.out.rd (by omega)).mono ?_
 rintro e w16 ⟨rfl,hb⟩
 have z16:w15.heap.size ≤ w16.heap.size:=hb.size
 have B_16:=zaa (zab B_15.out hb B_15.out.size)
 have VA_16:=zaa (zac VA_15.out hb (zah VA_15.out))
 have VS_16:=zaa (zac VS_15.out hb (zah VS_15.out))
 have VX_16:=zaa (zac VX_15.out hb (zah VX_15.out))
 have VG_16:=zaa (zac VG_15.out hb (zah VG_15.out))
 have QS_16:=zaa (QS_15.out.below hb (by omega))
 have QX_16:=zaa (QX_15.out.below hb (by omega))
 have QY0_16:=zaa (QY0_15.out.below hb (by omega))
 have QY1_16:=zaa (QY1_15.out.below hb (by omega))
 have QG_16:=zaa (QG_15.out.below hb (by omega))
 have QE_16:=zaa (QE_15.out.below hb (by omega))
 clear B_15 VA_15 VS_15 VX_15 VG_15 QS_15 QX_15 QY0_15 QY1_15 QG_15 QE_15 hb
 clear QE_16
 go_wp2_with fail
 refine (zcm _ gs w16 (RA0.out w16 B_16.out) gsl).mono ?_
 rintro e w17 ⟨v17,rfl,hr,hb⟩
 obtain ⟨-,Ea,Ec,rfl,-⟩:=hr.rd
 have z17:w16.heap.size ≤ w17.heap.size:=hb.size
 have B_17:=zaa (zab B_16.out hb B_16.out.size)
 have VA_17:=zaa (zac VA_16.out hb (zah VA_16.out))
 have VS_17:=zaa (zac VS_16.out hb (zah VS_16.out))
 have VX_17:=zaa (zac VX_16.out hb (zah VX_16.out))
 have VG_17:=zaa (zac VG_16.out hb (zah VG_16.out))
 have QS_17:=zaa (QS_16.out.below hb (by omega))
 have QX_17:=zaa (QX_16.out.below hb (by omega))
 have QY0_17:=zaa (QY0_16.out.below hb (by omega))
 have QY1_17:=zaa (QY1_16.out.below hb (by omega))
 have QG_17:=zaa (QG_16.out.below hb (by omega))
 clear B_16 VA_16 VS_16 VX_16 VG_16 QS_16 QX_16 QY0_16 QY1_16 QG_16 hb
 have QE_17:Hid (Row w17 3 1 w16.heap.size w17.heap.size _ gs.length (zav gs)):=hr
 clear hr
 go_wp2_with fail
 refine (zft _ _ gs w17 QY1_17.out.rd QE_17.out.rd (by omega)).mono ?_
 rintro e w18 ⟨rfl,hb⟩
 have z18:w17.heap.size ≤ w18.heap.size:=hb.size
 have B_18:=zaa (zab B_17.out hb B_17.out.size)
 have VA_18:=zaa (zac VA_17.out hb (zah VA_17.out))
 have VS_18:=zaa (zac VS_17.out hb (zah VS_17.out))
 have VX_18:=zaa (zac VX_17.out hb (zah VX_17.out))
 have VG_18:=zaa (zac VG_17.out hb (zah VG_17.out))
 have QS_18:=zaa (QS_17.out.below hb (by omega))
 have QX_18:=zaa (QX_17.out.below hb (by omega))
 have QY0_18:=zaa (QY0_17.out.below hb (by omega))
 have QY1_18:=zaa (QY1_17.out.below hb (by omega))
 have QG_18:=zaa (QG_17.out.below hb (by omega))
 have QE_18:=zaa (QE_17.out.below hb (by omega))
 clear B_17 VA_17 VS_17 VX_17 VG_17 QS_17 QX_17 QY0_17 QY1_17 QG_17 QE_17 hb
 clear QE_18
 obtain ⟨x0,x1,x2,x3,x4,x5,x6,x7,x8,x9,-⟩:=zam VX_18.out
 go_wp2_with fail
 refine (ztg _ ws ps es qs hs td cd vl nm fr 1 _ _ w18 QX_18.out (by omega) (by omega) (by omega) (by omega) (by omega) (by omega) (by omega) (by omega) (by decide) (by decide)).mono ?_
 rw [← ekx.out]
 rintro e w19 ⟨rfl,hk,ho⟩
 clear x0 x1 x2 x3 x4 x5 x6 x7 x8 x9
 have QX_18_:=QX_18
 clear QX_18_
 have z19:w18.heap.size ≤ w19.heap.size:=ho.size
 have B_19:=zaa (B_18.out.trans (ho.below (B:=W.heap.size) (by omega) B_18.out.size))
 have VA_19:=zaa ((ho.block _ (zah VA_18.out) (by omega)).trans VA_18.out)
 have VS_19:=zaa ((ho.block _ (zah VS_18.out) (by omega)).trans VS_18.out)
 have VX_19:=zaa ((ho.block _ (zah VX_18.out) (by omega)).trans VX_18.out)
 have VG_19:=zaa ((ho.block _ (zah VG_18.out) (by omega)).trans VG_18.out)
 have QS_19:=zaa (QS_18.out.outside ho (by omega) (by omega))
 have QY0_19:=zaa (QY0_18.out.outside ho (by omega) (by omega))
 have QY1_19:=zaa (QY1_18.out.outside ho (by omega) (by omega))
 have QG_19:=zaa (QG_18.out.outside ho (by omega) (by omega))
 clear B_18 VA_18 VS_18 VX_18 VG_18 QS_18 QY0_18 QY1_18 QG_18 ho
 clear hk
 clear VX_19
 go_wp2_with fail
 refine (zeu _ zs.length (zav zs) (kx) _ _ w19 QY0_19.out (zxm zs) (by omega) (by omega) (by omega)).mono ?_
 rintro e w20 ⟨rfl,-,hgq,hzq⟩
 have ho:=Row.grown_outside QY0_19.out hgq
 clear hgq hzq QY0_19
 have z20:w19.heap.size ≤ w20.heap.size:=ho.size
 have B_20:=zaa (B_19.out.trans (ho.below (B:=W.heap.size) (by omega) B_19.out.size))
 have VA_20:=zaa ((ho.block _ (zah VA_19.out) (by omega)).trans VA_19.out)
 have VS_20:=zaa ((ho.block _ (zah VS_19.out) (by omega)).trans VS_19.out)
 have VG_20:=zaa ((ho.block _ (zah VG_19.out) (by omega)).trans VG_19.out)
 have QS_20:=zaa (QS_19.out.outside ho (by omega) (by omega))
 have QY1_20:=zaa (QY1_19.out.outside ho (by omega) (by omega))
 have QG_20:=zaa (QG_19.out.outside ho (by omega) (by omega))
 clear B_19 VA_19 VS_19 VG_19 QS_19 QY1_19 QG_19 ho
 go_wp2_with fail
 refine (zeu _ gs.length (zav gs) (kx + (zs.length:Int)) _ _ w20 QY1_20.out (zxm gs) (by omega) (by omega) (by omega)).mono ?_
 rintro e w21 ⟨rfl,-,hgq,hzq⟩
 have ho:=Row.grown_outside QY1_20.out hgq
 clear hgq hzq QY1_20
 have z21:w20.heap.size ≤ w21.heap.size:=ho.size
 have B_21:=zaa (B_20.out.trans (ho.below (B:=W.heap.size) (by omega) B_20.out.size))
 have VA_21:=zaa ((ho.block _ (zah VA_20.out) (by omega)).trans VA_20.out)
 have VS_21:=zaa ((ho.block _ (zah VS_20.out) (by omega)).trans VS_20.out)
 have VG_21:=zaa ((ho.block _ (zah VG_20.out) (by omega)).trans VG_20.out)
 have QS_21:=zaa (QS_20.out.outside ho (by omega) (by omega))
 have QG_21:=zaa (QG_20.out.outside ho (by omega) (by omega))
 clear B_20 VA_20 VS_20 VG_20 QS_20 QG_20 ho
 obtain ⟨g0,g1,g2,g3,g4,g5,g6,g7,g8,g9,-⟩:=zam VG_21.out
 obtain ⟨s0,s1,s2,s3,s4,s5,s6,s7,s8,s9,-⟩:=zam VS_21.out
 go_wp2_with fail
 refine (zli _ _ ws2 ps2 es2 qs2 hs2 td2 cd2 vl2 nm2 fr2 w21 QG_21.out.rd QS_21.out.rd (by omega) (by omega) (by omega) (by omega) (by omega) (by omega) (by omega)).mono ?_
 rintro e w22 ⟨rfl,hb⟩
 clear g0 g1 g2 g3 g4 g5 g6 g7 g8 g9 s0 s1 s2 s3 s4 s5 s6 s7 s8 s9
 have z22:w21.heap.size ≤ w22.heap.size:=hb.size
 have B_22:=zaa (zab B_21.out hb B_21.out.size)
 have VA_22:=zaa (zac VA_21.out hb (zah VA_21.out))
 have VS_22:=zaa (zac VS_21.out hb (zah VS_21.out))
 have VG_22:=zaa (zac VG_21.out hb (zah VG_21.out))
 have QS_22:=zaa (QS_21.out.below hb (by omega))
 have QG_22:=zaa (QG_21.out.below hb (by omega))
 clear B_21 VA_21 VS_21 VG_21 QS_21 QG_21 hb
 obtain ⟨g0,g1,g2,g3,g4,g5,g6,g7,g8,g9,-⟩:=zam VG_22.out
 go_wp2_with fail
 refine (ztg _ ws2 ps2 es2 qs2 hs2 td2 cd2 vl2 nm2 fr2 1 _ _ w22 QG_22.out (by omega) (by omega) (by omega) (by omega) (by omega) (by omega) (by omega) (by omega) (by decide) (by decide)).mono ?_
 rw [← ekm.out]
 rintro e w23 ⟨rfl,hk,ho⟩
 clear g0 g1 g2 g3 g4 g5 g6 g7 g8 g9
 have QG_22_:=QG_22
 clear QG_22_
 have z23:w22.heap.size ≤ w23.heap.size:=ho.size
 have B_23:=zaa (B_22.out.trans (ho.below (B:=W.heap.size) (by omega) B_22.out.size))
 have VA_23:=zaa ((ho.block _ (zah VA_22.out) (by omega)).trans VA_22.out)
 have VS_23:=zaa ((ho.block _ (zah VS_22.out) (by omega)).trans VS_22.out)
 have VG_23:=zaa ((ho.block _ (zah VG_22.out) (by omega)).trans VG_22.out)
 have QS_23:=zaa (QS_22.out.outside ho (by omega) (by omega))
 clear B_22 VA_22 VS_22 VG_22 QS_22 ho
 have RK_23:=zaa hk
 clear hk
 obtain ⟨g0,g1,g2,g3,g4,g5,g6,g7,g8,g9,-⟩:=zam VG_23.out
 go_wp2_with fail
 refine (zsi _ 1 ws2.length ps2.length es2.length qs2.length hs2.length td2.length cd2 vl2 nm2.length fr2 w23 RK_23.out (by omega) (by omega) (by omega) (by omega) (by omega) (by omega) (by omega) (by decide) (by decide)).mono ?_
 rw [← ekm.out]
 rintro e w24 ⟨rfl,hb⟩
 clear g0 g1 g2 g3 g4 g5 g6 g7 g8 g9
 have z24:w23.heap.size ≤ w24.heap.size:=hb.size
 have B_24:=zaa (zab B_23.out hb B_23.out.size)
 have VA_24:=zaa (zac VA_23.out hb (zah VA_23.out))
 have VS_24:=zaa (zac VS_23.out hb (zah VS_23.out))
 have VG_24:=zaa (zac VG_23.out hb (zah VG_23.out))
 have RK_24:=zaa (RK_23.out.below hb)
 have QS_24:=zaa (QS_23.out.below hb (by omega))
 clear B_23 VA_23 VS_23 VG_23 RK_23 QS_23 hb
 obtain ⟨a0,a1,a2,a3,a4,a5,a6,a7,a8,a9,-⟩:=zam VA_24.out
 go_wp2_with fail
 refine (zom _ ws ps es qs hs td cd vl nm fr w24 (RDA.out w24 B_24.out) hws hps hes hqs hhs htd hnm).mono ?_
 rintro e w25 ⟨v25,rfl,hr,hb⟩
 clear a0 a1 a2 a3 a4 a5 a6 a7 a8 a9
 have hq:=hr.form
 obtain ⟨TaW,TcW,TaP,TcP,TaS,TcS,TaQ,TcQ,TaH,TcH,TaT,TcT,TaN,TcN,eq⟩:=hq
 subst eq
 have z25:w24.heap.size ≤ w25.heap.size:=hb.size
 have B_25:=zaa (zab B_24.out hb B_24.out.size)
 have VA_25:=zaa (zac VA_24.out hb (zah VA_24.out))
 have VS_25:=zaa (zac VS_24.out hb (zah VS_24.out))
 have VG_25:=zaa (zac VG_24.out hb (zah VG_24.out))
 have RK_25:=zaa (RK_24.out.below hb)
 have QS_25:=zaa (QS_24.out.below hb (by omega))
 clear B_24 VA_24 VS_24 VG_24 RK_24 QS_24 hb
 have QT_25:Hid (RowF w25 w24.heap.size w25.heap.size _ ws ps es qs hs td cd vl nm fr):=hr
 clear hr
 go_wp2_with fail
 refine (zcm _ zs w25 (RZ0.out w25 B_25.out) zsl).mono ?_
 rintro e w26 ⟨v26,rfl,hr,hb⟩
 obtain ⟨-,Z0a,Z0c,rfl,-⟩:=hr.rd
 have z26:w25.heap.size ≤ w26.heap.size:=hb.size
 have B_26:=zaa (zab B_25.out hb B_25.out.size)
 have VA_26:=zaa (zac VA_25.out hb (zah VA_25.out))
 have VS_26:=zaa (zac VS_25.out hb (zah VS_25.out))
 have VG_26:=zaa (zac VG_25.out hb (zah VG_25.out))
 have RK_26:=zaa (RK_25.out.below hb)
 have QS_26:=zaa (QS_25.out.below hb (by omega))
 have QT_26:=zaa (QT_25.out.below hb (by omega))
 clear B_25 VA_25 VS_25 VG_25 RK_25 QS_25 QT_25 hb
 have QZ0_26:Hid (Row w26 3 1 w25.heap.size w26.heap.size _ zs.length (zav zs)):=hr
 clear hr
 go_wp2_with fail
 refine (zcm _ gs w26 (RA0.out w26 B_26.out) gsl).mono ?_
 rintro e w27 ⟨v27,rfl,hr,hb⟩
 obtain ⟨-,Z1a,Z1c,rfl,-⟩:=hr.rd
 have z27:w26.heap.size ≤ w27.heap.size:=hb.size
 have B_27:=zaa (zab B_26.out hb B_26.out.size)
 have VA_27:=zaa (zac VA_26.out hb (zah VA_26.out))
 have VS_27:=zaa (zac VS_26.out hb (zah VS_26.out))
 have VG_27:=zaa (zac VG_26.out hb (zah VG_26.out))
 have RK_27:=zaa (RK_26.out.below hb)
 have QS_27:=zaa (QS_26.out.below hb (by omega))
 have QT_27:=zaa (QT_26.out.below hb (by omega))
 have QZ0_27:=zaa (QZ0_26.out.below hb (by omega))
 clear B_26 VA_26 VS_26 VG_26 RK_26 QS_26 QT_26 QZ0_26 hb
 have QZ1_27:Hid (Row w27 3 1 w26.heap.size w27.heap.size _ gs.length (zav gs)):=hr
 clear hr
 go_wp2_with fail
 refine (IC.out _ _ _ w27 (FB.out w27 B_27.out) QT_27.out.rd QZ0_27.out.rd QZ1_27.out.rd).mono ?_
 rintro e w28 ⟨v28,rfl,hr,hb⟩
 obtain ⟨HaW,HcW,HaP,HcP,HaS,HcS,HaQ,HcQ,HaH,HcH,HaT,HcT,HaN,HcN,eq⟩:=hr.form
 subst eq
 have z28:w27.heap.size ≤ w28.heap.size:=hb.size
 have B_28:=zaa (zab B_27.out hb B_27.out.size)
 have VA_28:=zaa (zac VA_27.out hb (zah VA_27.out))
 have VS_28:=zaa (zac VS_27.out hb (zah VS_27.out))
 have VG_28:=zaa (zac VG_27.out hb (zah VG_27.out))
 have RK_28:=zaa (RK_27.out.below hb)
 have QS_28:=zaa (QS_27.out.below hb (by omega))
 have QT_28:=zaa (QT_27.out.below hb (by omega))
 have QZ0_28:=zaa (QZ0_27.out.below hb (by omega))
 have QZ1_28:=zaa (QZ1_27.out.below hb (by omega))
 clear B_27 VA_27 VS_27 VG_27 RK_27 QS_27 QT_27 QZ0_27 QZ1_27 hb
 have QH_28:Hid (RowF w28 w27.heap.size w28.heap.size _ ws2 ps2 es2 qs2 hs2 td2 cd2 vl2 nm2 fr2):=hr
 clear hr
 obtain ⟨w29,hw29⟩:∃ w29,w29 = w28.alloc (.cells #[.slice HaW ws2.length HcW,.slice HaP ps2.length HcP,.slice HaS es2.length HcS,.slice HaQ qs2.length HcQ,.slice HaH hs2.length HcH,.slice HaT td2.length HcT,.int .i64 cd2,.int .i64 vl2,.slice HaN nm2.length HcN,.bool fr2] 51):=⟨_,rfl⟩
 have hb:Below w28.heap.size w28 w29:=by rw [hw29]; exact (Below.refl _ _).alloc (Nat.le_refl _) _
 obtain ⟨bH,hbH⟩:∃ bH:Nat,bH = w28.heap.size:=⟨_,rfl⟩
 have VH_29:Hid (w29.heap[bH]? = some (.cells #[.slice HaW ws2.length HcW,.slice HaP ps2.length HcP,.slice HaS es2.length HcS,.slice HaQ qs2.length HcQ,.slice HaH hs2.length HcH,.slice HaT td2.length HcT,.int .i64 cd2,.int .i64 vl2,.slice HaN nm2.length HcN,.bool fr2] 51 (0,0))):=by rw [hw29,hbH]; exact zag rfl
 have pH:w28.heap.size ≤ bH ∧ bH ≤ w28.heap.size ∧ bH < w29.heap.size:=⟨Nat.le_of_eq hbH.symm,Nat.le_of_eq hbH,zah VH_29.out⟩
 have z29:w28.heap.size ≤ w29.heap.size:=hb.size
 have B_29:=zaa (zab B_28.out hb B_28.out.size)
 have VA_29:=zaa (zac VA_28.out hb (zah VA_28.out))
 have VS_29:=zaa (zac VS_28.out hb (zah VS_28.out))
 have VG_29:=zaa (zac VG_28.out hb (zah VG_28.out))
 have RK_29:=zaa (RK_28.out.below hb)
 have QS_29:=zaa (QS_28.out.below hb (by omega))
 have QT_29:=zaa (QT_28.out.below hb (by omega))
 have QZ0_29:=zaa (QZ0_28.out.below hb (by omega))
 have QZ1_29:=zaa (QZ1_28.out.below hb (by omega))
 have QH_29:=zaa (QH_28.out.below hb (by omega))
 clear B_28 VA_28 VS_28 VG_28 RK_28 QS_28 QT_28 QZ0_28 QZ1_28 QH_28 hb
 go_upto_region 37 with fail
 rw [← hw29,← hbH]
 clear hw29 hbH
 clear IC
 clear QT_29
 clear QZ0_29
 clear QZ1_29
 obtain ⟨h0,h1,h2,h3,h4,h5,h6,h7,h8,h9,-⟩:=zam VH_29.out
 obtain ⟨s0,s1,s2,s3,s4,s5,s6,s7,s8,s9,-⟩:=zam VS_29.out
 go_wp2_with fail
 refine (zli _ _ ws2 ps2 es2 qs2 hs2 td2 cd2 vl2 nm2 fr2 w29 QH_29.out.rd QS_29.out.rd (by omega) (by omega) (by omega) (by omega) (by omega) (by omega) (by omega)).mono ?_
 rintro e w30 ⟨rfl,hb⟩
 clear h0 h1 h2 h3 h4 h5 h6 h7 h8 h9 s0 s1 s2 s3 s4 s5 s6 s7 s8 s9
 have z30:w29.heap.size ≤ w30.heap.size:=hb.size
 have B_30:=zaa (zab B_29.out hb B_29.out.size)
 have VA_30:=zaa (zac VA_29.out hb (zah VA_29.out))
 have VS_30:=zaa (zac VS_29.out hb (zah VS_29.out))
 have VG_30:=zaa (zac VG_29.out hb (zah VG_29.out))
 have VH_30:=zaa (zac VH_29.out hb (zah VH_29.out))
 have RK_30:=zaa (RK_29.out.below hb)
 have QS_30:=zaa (QS_29.out.below hb (by omega))
 have QH_30:=zaa (QH_29.out.below hb (by omega))
 clear B_29 VA_29 VS_29 VG_29 VH_29 RK_29 QS_29 QH_29 hb
 obtain ⟨g0,g1,g2,g3,g4,g5,g6,g7,g8,g9,-⟩:=zam VG_30.out
 go_wp2_with fail
 refine (zsi _ 1 ws2.length ps2.length es2.length qs2.length hs2.length td2.length cd2 vl2 nm2.length fr2 w30 RK_30.out (by omega) (by omega) (by omega) (by omega) (by omega) (by omega) (by omega) (by decide) (by decide)).mono ?_
 rw [← ekm.out]
 rintro e w31 ⟨rfl,hb⟩
 clear g0 g1 g2 g3 g4 g5 g6 g7 g8 g9
 have z31:w30.heap.size ≤ w31.heap.size:=hb.size
 have B_31:=zaa (zab B_30.out hb B_30.out.size)
 have VA_31:=zaa (zac VA_30.out hb (zah VA_30.out))
 have VS_31:=zaa (zac VS_30.out hb (zah VS_30.out))
 have VG_31:=zaa (zac VG_30.out hb (zah VG_30.out))
 have VH_31:=zaa (zac VH_30.out hb (zah VH_30.out))
 have RK_31:=zaa (RK_30.out.below hb)
 have QS_31:=zaa (QS_30.out.below hb (by omega))
 have QH_31:=zaa (QH_30.out.below hb (by omega))
 clear B_30 VA_30 VS_30 VG_30 VH_30 RK_30 QS_30 QH_30 hb
 go_wp2
 go_ret
 exact ⟨rfl,FB.out _ B_31.out⟩
end Go.Proofs.YtlkmnpanddchdaaGreatDoor
