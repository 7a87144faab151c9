import Derived.Test.YtogcbbkhnpmgeaaGreatDoorZBZ
import Derived.Lib.LaidTab
set_option maxRecDepth 100000
set_option maxHeartbeats 32000000
namespace Go.Proofs.YtogcbbkhnpmgeaaGreatDoor
open Go.RowKit
theorem yauy(v:Value)(bs:List Int)(w:World)(h:RdB w v bs)(hl:bs.length<=1048576) :
  zC 5 #[v] w fun e w'=>∃ f:FV,e=.returned (.agg #[.slice f.a0 f.n0 f.c0,.slice f.a1 f.n1 f.c1,.slice f.a2 f.n2 f.c2,.slice f.a3 f.n3 f.c3,.slice f.a4 f.n4 f.c4,.slice f.a5 f.n5 f.c5,.I f.x,.I f.y,.slice f.a8 f.n8 f.c8,.bool f.z])/\FsIdle w' (.agg #[.slice f.a0 f.n0 f.c0,.slice f.a1 f.n1 f.c1,.slice f.a2 f.n2 f.c2,.slice f.a3 f.n3 f.c3,.slice f.a4 f.n4 f.c4,.slice f.a5 f.n5 f.c5,.I f.x,.I f.y,.slice f.a8 f.n8 f.c8,.bool f.z])/\zB w w':=by
 have H:=zaa h;obtain⟨aC,cC,rfl,_⟩:=h.shape
 obtain⟨V,hV⟩:=zE (w.alloc (.cells #[.N,.N,.N,.N,.N,.N,.I 0,.I 0,.N,.bool false] 37))
 have RV:Hid (V.heap[w.heap.size]?=some (.cells #[.N,.N,.N,.N,.N,.N,.I 0,.I 0,.N,.bool false] 37 (0,0))):=by rw[hV];exact zaf rfl
 have BV:Hid (zB w V):=by rw[hV];exact zR.alloc zL _
 have zV:Hid (w.heap.size<V.heap.size):=by rw[hV];simp[Hid]
 clear h;go_enter Tryz.func5,Tryz.ntmps5;go_upto_region 1 with fail;rw[<- hV];clear hV;go_wp2_with fail;refine(zmm _ bs V (H.o.below BV.o) hl).mono ?_;rintro e w1 ⟨rfl,S,hb⟩;have S1:=zaa S.src;have B1:=zaa hb;clear S hb;go_wp2_with fail;refine(yapm V w1 _ _ _ bs S1.o (by omega)).mono ?_;rintro e w2 ⟨v2,k',rfl,-,hi,-,ho⟩;have B2:=zaa (B1.o.trans (ho.below zL B1.o.size));have B3:=zaa (zab BV.o B2.o BV.o.size);have RW:=zaa ((B2.o.block w.heap.size zV.o).trans RV.o);obtain⟨f,rfl⟩:=hi.form;have R2:=zaa hi;clear ho hi S1 B1 RV BV zV B2 H;obtain⟨r0,r1,r2,r3,r4,r5,r6,r7,r8,r9,s0,s1,s2,s3,s4,s5,s6,s7,s8,s9⟩:=zak RW.o;have OF:=zaa (zcf w2 w.heap.size (.slice f.a0 f.n0 f.c0) (.slice f.a1 f.n1 f.c1) (.slice f.a2 f.n2 f.c2) (.slice f.a3 f.n3 f.c3) (.slice f.a4 f.n4 f.c4) (.slice f.a5 f.n5 f.c5) (.I f.x) (.I f.y) (.slice f.a8 f.n8 f.c8) (.bool f.z));have FI:=zaa (R2.o.soft (Soft.outside OF.o RW.o rfl));have BF:=zaa (B3.o.trans (OF.o.below (B:=w.heap.size) zL B3.o.size));clear OF R2 B3;go_wp2;refine bodyPost_ret (v:=.agg #[.slice f.a0 f.n0 f.c0,.slice f.a1 f.n1 f.c1,.slice f.a2 f.n2 f.c2,.slice f.a3 f.n3 f.c3,.slice f.a4 f.n4 f.c4,.slice f.a5 f.n5 f.c5,.I f.x,.I f.y,.slice f.a8 f.n8 f.c8,.bool f.z]) (by simp[results,Tryz.results5,go_sem,r0,r1,r2,r3,r4,r5,r6,r7,r8,r9]) rfl ?_;exact⟨f,rfl,FI.o,BF.o⟩
theorem zsd(va vb:Value)(l:List Mi)(w:World)(ha:RdM w va l)(hb:RdM w vb l)(hn:l.length<=2147483648) :
  zC 9 #[va,vb] w fun e w'=>e=.returned (.bool true)/\zB w w':=by
 obtain⟨ao,cap,rfl,hcap,hc⟩:=ha.shape;obtain⟨ao2,cap2,rfl,hcap2,hc2⟩:=hb.shape;clear ha hb;go_enter Tryz.func9,Tryz.ntmps9;go_wp2
 go_loopw [5] (fun i wr=>∃ k:Nat,k<=l.length/\i=.I k/\zB w wr) (fun i _=>l.length-(intOf i).toNat)
 case atStart=>exact⟨0,by omega,rfl,zR⟩
 case round =>
  obtain⟨k,hk,rfl,hbw⟩:=hrel
  by_cases hlt:k<l.length
  ·obtain⟨b,o,rfl,hbl,hcell⟩:=hc (by omega);obtain⟨b2,o2,rfl,hbl2,hcell2⟩:=hc2 (by omega);obtain⟨c0,c1,c2⟩:=hcell k hlt;obtain⟨d0,d1,d2⟩:=hcell2 k hlt;have e0:=(hbw.cell (p:=⟨b,o+k*3,none⟩) hbl).trans c0;have e1:=(hbw.cell (p:=⟨b,o+k*3+1,none⟩) hbl).trans c1;have e2:=(hbw.cell (p:=⟨b,o+k*3+2,none⟩) hbl).trans c2;have f0:=(hbw.cell (p:=⟨b2,o2+k*3,none⟩) hbl2).trans d0;have f1:=(hbw.cell (p:=⟨b2,o2+k*3+1,none⟩) hbl2).trans d1;have f2:=(hbw.cell (p:=⟨b2,o2+k*3+2,none⟩) hbl2).trans d2
   have hlt':(k:Int)<(l.length:Int):=by omega
   have hge:(0:Int)<=(k:Int):=by omega
   clear hcell hcell2 hc hc2 c0 c1 c2 d0 d1 d2;go_wp2
   go_quiet (fail)
   go_wp2
   go_roundw
   case rel=>exact⟨k+1,by omega,by go_num,Below.drewN'' hbw _⟩
   case measure=>simp[intOf];omega
  ·go_wp2;go_ret;exact⟨rfl,hbw⟩
theorem ztb(va vb:Value)(ss:List ByteArray)(w:World)(ha:RdT w va ss)(hb:RdT w vb ss)(hn:ss.length<=2147483648) :
  zC 32 #[va,vb] w fun e w'=>e=.returned (.bool true)/\zB w w':=by
 obtain⟨ao,cap,rfl,hcap,hc⟩:=ha.shape;obtain⟨ao2,cap2,rfl,hcap2,hc2⟩:=hb.shape;clear ha hb;go_enter Tryz.func32,Tryz.ntmps32;go_wp2
 go_loopw [5] (fun i wr=>∃ k:Nat,k<=ss.length/\i=.I k/\zB w wr) (fun i _=>ss.length-(intOf i).toNat)
 case atStart=>exact⟨0,by omega,rfl,zR⟩
 case round =>
  obtain⟨k,hk,rfl,hbw⟩:=hrel
  by_cases hlt:k<ss.length
  ·obtain⟨b,o,rfl,hbl,hcell⟩:=hc (by omega);obtain⟨b2,o2,rfl,hbl2,hcell2⟩:=hc2 (by omega);have hck:wr.cell? ⟨b,o+k,none⟩=some (.string ss[k]):=(hbw.cell (p:=⟨b,o+k,none⟩) hbl).trans (hcell k hlt);have hck2:wr.cell? ⟨b2,o2+k,none⟩=some (.string ss[k]):=(hbw.cell (p:=⟨b2,o2+k,none⟩) hbl2).trans (hcell2 k hlt)
   have hlt':(k:Int)<(ss.length:Int):=by omega
   have hge:(0:Int)<=(k:Int):=by omega
   clear hcell hcell2 hc hc2;generalize ss[k]=x at hck hck2;go_wp2
   go_quiet (fail)
   go_wp2
   go_roundw
   case rel=>exact⟨k+1,by omega,by go_num,zih hbw _⟩
   case measure=>simp[intOf];omega
  ·go_wp2;go_ret;exact⟨rfl,hbw⟩
theorem zyy{w:World}{b:Nat}{t:TypeId}{x y z:Value}(h:w.heap[b]?=some (.cells #[x,y,z] t (0,0))):w.cell? ⟨b,0,none⟩=some x/\w.cell? ⟨b,1,none⟩=some y/\w.cell? ⟨b,2,none⟩=some z/\w.frozen? ⟨b,0,none⟩=false/\w.frozen? ⟨b,1,none⟩=false/\w.frozen? ⟨b,2,none⟩=false:=by simp[World.cell?,World.frozen?,h]
theorem zsq(c v:Int)(va vb:Value)(nm:List ByteArray)(w:World)(ha:RdT w va nm)(hb:RdT w vb nm)(hn:nm.length<=2147483648) :
  zC 10 #[.agg #[.I c,.I v,va],.agg #[.I c,.I v,vb]] w fun e w'=>e=.returned (.bool true)/\zB w w':=by
 obtain⟨V,hV⟩:=zE ((w.alloc (.cells #[.I c,.I v,va] 35)).alloc (.cells #[.I c,.I v,vb] 35))
 have B:Hid (zB w V):=by rw[hV];exact(zR.alloc zL _).alloc (by simp) _
 have X0:Hid (V.heap[w.heap.size]?=some (.cells #[.I c,.I v,va] 35 (0,0))):=by rw[hV];exact zal (zaf rfl)
 have X1:Hid (V.heap[w.heap.size+1]?=some (.cells #[.I c,.I v,vb] 35 (0,0))):=by rw[hV];exact zaf (by simp)
 have LT:=zaa (ztb va vb nm V (Rd.below ha B.o) (Rd.below hb B.o) hn);obtain⟨-,a1,k1,rfl,-⟩:=id ha;obtain⟨-,a2,k2,rfl,-⟩:=id hb;clear ha hb;go_enter Tryz.func10,Tryz.ntmps10;go_upto_region 1 with fail;rw[<- hV];clear hV;obtain⟨x0,x1,x2,-⟩:=zyy X0.o;obtain⟨y0,y1,y2,-⟩:=zyy X1.o;go_wp2_with fail;refine LT.o.mono ?_;rintro e w1 ⟨rfl,hb1⟩;have B1:=zaa (zab B.o hb1 B.o.size);clear hb1 x0 x1 x2 y0 y1 y2 X0 X1;go_wp2;go_ret;exact⟨rfl,B1.o⟩
theorem zdg{c w':World}{b:Nat}{o:Obj}{B:Nat}(h:c.heap[b]?=some o)(hb:Below B c w')(hB:b<B):w'.heap[b]?=some o:=(hb.block b hB).trans h
theorem zgy{c:World}{b:Nat}{o:Obj}(h:c.heap[b]?=some o):b<c.heap.size:=(Array.getElem?_eq_some_iff.1 h).1
theorem yavm(f:FV)(w:World)(h:FsIdle w (.agg #[.slice f.a0 f.n0 f.c0,.slice f.a1 f.n1 f.c1,.slice f.a2 f.n2 f.c2,.slice f.a3 f.n3 f.c3,.slice f.a4 f.n4 f.c4,.slice f.a5 f.n5 f.c5,.I f.x,.I f.y,.slice f.a8 f.n8 f.c8,.bool f.z])):∃ ws es ns ds,Idle ws es ns ds/\RdDev w (.agg #[.slice f.a0 f.n0 f.c0,.slice f.a1 f.n1 f.c1,.slice f.a2 f.n2 f.c2,.slice f.a3 f.n3 f.c3]) ws [] es []:=by
 obtain⟨ws,es,ns,ds,hs,⟨aW,cW,aP,cP,aS,cS,aQ,cQ,aH,cH,aT,cT,aN,cN,ev,a,b,c,d⟩,hi,hh⟩:=h;simp only[Value.agg.injEq,Array.mk.injEq,List.cons.injEq,Value.slice.injEq,and_true]at ev;obtain⟨⟨e1,e2,e3⟩,⟨e4,e5,e6⟩,⟨e7,e8,e9⟩,⟨e10,e11,e12⟩,-⟩:=ev;rw[e1,e2,e3,e4,e5,e6,e7,e8,e9,e10,e11,e12];exact⟨ws,es,ns,ds,hi,a⟩
theorem yaji(ws:List Int)(ps:List St)(es:List Int)(qs:List Se)(ns:List Ino)(ds:List Den)(k:Int)(p t:ByteArray)(g x:Int)(h:ds.length<=1048576):(opI ws ps es qs ns ds k p t g x).names.length<=1048576:=by
 unfold opI
 by_cases c6:k=6
 ·rw[if_pos c6];simp
 rw[if_neg c6]
 by_cases c8:k=8
 ·rw[if_pos c8];simp
 rw[if_neg c8]
 by_cases c9:k=9
 ·rw[if_pos c9];unfold stA
  split<;>simp
 rw[if_neg c9]
 by_cases c10:k=10
 ·rw[if_pos c10];unfold lsA
  split
  ·split
   ·show(zdl _).length<=_
    rw[zhi];have:=yaps ds (lkI ns ds p).1;omega
   ·simp
  ·simp
 rw[if_neg c10];simp
theorem yatf{ws es:List Int}{ns:List Ino}{ds:List Den}(I:Idle ws es ns ds){k:Int}{p t:ByteArray}{g y:Int}(ob:opB k p t g y=true):∃ B:OpA,opR ws [] es [] k p t g y=(B,0)/\B.steps.length<=200/\B.names.length<=1048576/\(if B.code=0/\k<8 then 0<B.steps.length else B.steps=[]):=by
 have hd:dvB ws [] es []=true:=by unfold dvB;rw[I.pm,I.bk,show riB (zce ws [])=true from I.wi.ri];rfl
 have e1:dvN ws [] es []=ns:=by unfold dvN;rw[if_pos hd];exact I.wi.inos
 have e2:dvD ws [] es []=ds:=by unfold dvD;rw[if_pos hd];exact I.wi.dens
 refine⟨_,by unfold opR;rw[if_pos ⟨hd,ob⟩,e1,e2],(yacm I k p t g y).2.2.1,yaji _ _ _ _ _ _ _ _ _ _ _ (by have:=I.wi.img.l24;omega),yaox _ _ _ _ _ _ _ _ _ _ _ ?_⟩;have:=zpp ob;omega
theorem yate(v:Value)(bs:List Int)(w:World)(h:RdB w v bs)(hl:bs.length<=1048576) :
  zC 6 #[v] w fun e w'=>∃ k p t g y,e=.returned (.agg #[.I k,.string p,.string t,.I g,.I y])/\opB k p t g y=true/\zB w w':=by
 have H:=zaa h;obtain⟨aC,cC,rfl,_⟩:=h.shape;clear h
 obtain⟨V,hV⟩:=zE (w.alloc (.cells #[.I 0,.string ⟨#[]⟩,.string ⟨#[]⟩,.I 0,.I 0] 40))
 have RV:Hid (V.heap[w.heap.size]?=some (.cells #[.I 0,.string ⟨#[]⟩,.string ⟨#[]⟩,.I 0,.I 0] 40 (0,0))):=by rw[hV];exact zaf rfl
 have B:Hid (zB w V):=by rw[hV];exact zR.alloc zL _
 go_enter Tryz.func6,Tryz.ntmps6;go_upto_region 1 with fail;rw[<- hV];clear hV;go_wp2_with fail;refine(zmm _ bs V (H.o.below B.o) hl).mono ?_;rintro e w1 ⟨rfl,S,hb⟩;have S1:=zaa S.src;have B1:=zaa (zab B.o hb B.o.size);have R1:=zaa (zdg RV.o hb (zgy RV.o));have z0:w.heap.size<V.heap.size:=zgy RV.o;have z1:V.heap.size<=w1.heap.size:=hb.size;clear S hb RV B H;go_wp2_with fail;refine(yagm V w1 _ _ _ bs S1.o (by omega)).mono ?_;rintro e w2 ⟨k,p,t,g,y,rfl,-,-,ob,-,ho⟩;have R2:=zaa ((ho.block _ (zgy R1.o) (by omega)).trans R1.o);have B2:=zaa (B1.o.trans (ho.below (B:=w.heap.size) (by omega) B1.o.size));have OB:=zaa ob;clear R1 B1 S1 ho ob;obtain⟨d0,d1,d2,d3,d4,f0,f1,f2,f3,f4⟩:=zar R2.o
 obtain⟨w3,hw3⟩:=zE (put5 w2 w.heap.size (.I k) (.string p) (.string t) (.I g) (.I y))
 have O3:Outside w.heap.size (w.heap.size+1) w2 w3:=by rw[hw3];exact zva _ _ _ _ _ _ _
 have B3:=zaa (B2.o.trans (O3.below (B:=w.heap.size) zL B2.o.size));unfold put5 at hw3;clear O3 B2 R2;go_wp2;refine bodyPost_ret (v:=.agg #[.I k,.string p,.string t,.I g,.I y]) (by simp[results,Tryz.results6,go_sem,d0,d1,d2,d3,d4]) rfl ?_;rw[<- hw3];exact⟨_,_,_,_,_,rfl,OB.o,B3.o⟩
theorem yajd(vA vB:Value)(cs ms:List Int)(w:World)(hA:RdB w vA cs)(hB:RdB w vB ms)(hT:TS w)(hE:ED w)(hF:FD w)(hN:NW w) :
  zC 3 #[vA,vB] w fun e w'=>e=.returned (.bool true)/\zB w w':=by
 obtain⟨aA,cA,rfl,_⟩:=hA.shape;obtain⟨aB,cB,rfl,_⟩:=hB.shape;have HA:=zaa hA;have HB:=zaa hB;have GT:=zaa (And.intro hT (And.intro hE hF));have GN:=zaa hN;clear hA hB hT hE hF hN
 by_cases c1:1048576<cs.length
 ·go_enter Tryz.func3,Tryz.ntmps3;go_wp2;go_ret;exact⟨rfl,zR⟩
 by_cases c2:1048576<ms.length
 ·go_enter Tryz.func3,Tryz.ntmps3;go_wp2;go_ret;exact⟨rfl,zR⟩
 go_enter Tryz.func3,Tryz.ntmps3;go_wp2_with fail;refine(yauy _ cs w HA.o (by omega)).mono ?_;rintro e w1 ⟨f,rfl,hi,hb1⟩;obtain⟨ws,es,ns,ds,I,dv⟩:=yavm f w1 hi;have q1:=yabu f w1
 obtain⟨W1,hW1⟩:=zE (w1.alloc (.cells #[.slice f.a0 f.n0 f.c0,.slice f.a1 f.n1 f.c1,.slice f.a2 f.n2 f.c2,.slice f.a3 f.n3 f.c3] 31))
 have A1:Hid (zB w1 W1):=by rw[hW1];exact zR.alloc zL _
 have B1:=zaa (zab hb1 A1.o hb1.size)
 have M1:Hid (W1.heap[w1.heap.size]?=some (.cells #[.slice f.a0 f.n0 f.c0,.slice f.a1 f.n1 f.c1,.slice f.a2 f.n2 f.c2,.slice f.a3 f.n3 f.c3] 31 (0,0))):=by rw[hW1];exact zaf rfl
 have DV:=zaa (dv.below A1.o);have HI:=zaa I;have HZ:=zaa (show cs.length<=1048576/\ms.length<=1048576 by omega);clear hi hb1 dv I;go_upto_region 4 with fail;rw[<- hW1];clear hW1 q1 c1 c2
 obtain⟨mb,hmb⟩:=zE w1.heap.size
 rw[<- hmb]at M1;rw[<- hmb];clear hmb A1;go_wp2_with fail;refine(yate _ ms W1 (HB.o.below B1.o) HZ.o.2).mono ?_;rintro e w2 ⟨k,p,t,g,y,rfl,ob,hb2⟩
 obtain⟨W2,hW2⟩:=zE (w2.alloc (.cells #[.I k,.string p,.string t,.I g,.I y] 40))
 have A2:Hid (zB w2 W2):=by rw[hW2];exact zR.alloc zL _
 have H2:=zaa (zab hb2 A2.o hb2.size);have B2:=zaa (zab B1.o H2.o B1.o.size);have M2:=zaa (zdg M1.o H2.o (zgy M1.o))
 have N2:Hid (W2.heap[w2.heap.size]?=some (.cells #[.I k,.string p,.string t,.I g,.I y] 40 (0,0))):=by rw[hW2];exact zaf rfl
 have D2:=zaa (DV.o.below H2.o);obtain⟨R,eR,rl,rn,rs⟩:=yatf HI.o ob;have WL:=zaa (And.intro HI.o.wi.len (zdu HI.o.bk).1)
 have GW:Hid (TS W2/\ED W2/\FD W2/\NW W2):=⟨GT.o.1.below B2.o,GT.o.2.1.below B2.o,GT.o.2.2.below B2.o,GN.o.below B2.o⟩
 have IC:Hid (∀ w',zB W2 w'->zC 7 #[.agg #[.slice f.a0 f.n0 f.c0,.slice f.a1 f.n1 f.c1,.slice f.a2 f.n2 f.c2,.slice f.a3 f.n3 f.c3],.agg #[.I k,.string p,.string t,.I g,.I y]] w' fun e w2=>∃ vS vN,e=.returned (.tuple #[vS,.agg #[.I R.code,.I R.val,vN],.I 0])/\RdM w2 vS R.steps/\RdT w2 vN R.names/\zB w' w2):=fun w' hb=>by
  have q:=ztp _ ws [] es [] k p t g y w' (D2.o.below hb) (by have:=WL.o;omega) (by simp) (by have:=WL.o;omega) (by simp) (GW.o.1.below hb) (GW.o.2.1.below hb) (GW.o.2.2.1.below hb) (GW.o.2.2.2.below hb);rw[eR]at q;refine q.mono ?_;rintro e w2 ⟨vS,vA,rfl,vN,rfl,a,b,c⟩;exact⟨vS,vN,rfl,a.rd,b.rd,c⟩
 have SC:Hid (∀ w',zB W2 w'->zC 8 #[.agg #[.slice f.a0 f.n0 f.c0,.slice f.a1 f.n1 f.c1,.slice f.a2 f.n2 f.c2,.slice f.a3 f.n3 f.c3],.agg #[.I k,.string p,.string t,.I g,.I y]] w' fun e w2=>∃ vS vN,e=.returned (.tuple #[vS,.agg #[.I R.code,.I R.val,vN],.I 0])/\RdM w2 vS R.steps/\RdT w2 vN R.names/\zB w' w2):=fun w' hb=>by
  have q:=ztf _ ws [] es [] k p t g y w' (D2.o.below hb) (by have:=WL.o;omega) (by simp) (by have:=WL.o;omega) (by simp);rw[eR]at q;refine q.mono ?_;rintro e w2 ⟨vS,vA,rfl,vN,rfl,a,b,c⟩;exact⟨vS,vN,rfl,a.rd,b.rd,c⟩
 have OKC:Hid (∀ w',zC 11 #[.agg #[.I k,.string p,.string t,.I g,.I y]] w' fun e w2=>e=.returned (.bool true)/\zB w' w2):=fun w'=>by
  have q:=zoj k p t g y w';rw[ob]at q;exact q
 have nl:R.names.length<=1048576:=rn;clear hb2 A2 M1 DV HI HZ GT GN HA HB eR ob D2 GW WL H2 B1;obtain⟨L,ac,av,NN⟩:=R;simp only at rl rs nl IC SC;have RS:=zaa rs;clear rs
 obtain⟨ob,hob⟩:=zE w2.heap.size
 go_upto_region 5 with fail;rw[<- hW2,<- hob];rw[<- hob]at N2;clear hW2 hob;obtain⟨x0,x1,x2,x3,-⟩:=zaq M2.o;obtain⟨o0,o1,o2,o3,o4,-⟩:=zar N2.o;go_wp2_with fail;refine(IC.o _ zR).mono ?_;rintro e w3 ⟨vS,vN,rfl,hs,hn,hb⟩;have hs0:=zaa hs;have hn0:=zaa hn;obtain⟨-,aSG,cSG,rfl,-⟩:=hs;obtain⟨-,aNG,cNG,rfl,-⟩:=hn
 obtain⟨W3,hW3⟩:=zE (w3.alloc (.cells #[.I ac,.I av,.slice aNG NN.length cNG] 35))
 have A3:zB w3 W3:=by rw[hW3];exact zR.alloc zL _
 have H3:=zaa (zab hb A3 hb.size);have B3:=zaa (zab B2.o H3.o B2.o.size);have C3:Hid (zB W2 W3):=H3.o;have M3:=zaa (zdg M2.o H3.o (zgy M2.o));have N3:=zaa (zdg N2.o H3.o (zgy N2.o))
 have PG:Hid (W3.heap[w3.heap.size]?=some (.cells #[.I ac,.I av,.slice aNG NN.length cNG] 35 (0,0))):=by rw[hW3];exact zaf rfl
 have SG:=zaa (Rd.below hs0.o A3);have TG:=zaa (Rd.below hn0.o A3)
 obtain⟨bG,hbG⟩:=zE w3.heap.size
 rw[<- hbG]at PG;clear x0 x1 x2 x3 o0 o1 o2 o3 o4 hb hs0 hn0 A3 IC M2 N2 B2;go_upto_region 6 with fail;rw[<- hW3,<- hbG];clear hW3 hbG H3;obtain⟨x0,x1,x2,x3,-⟩:=zaq M3.o;obtain⟨o0,o1,o2,o3,o4,-⟩:=zar N3.o;go_wp2_with fail;refine(SC.o _ C3.o).mono ?_;rintro e w4 ⟨vS,vN,rfl,hs,hn,hb⟩;have hs0:=zaa hs;have hn0:=zaa hn;obtain⟨-,aSS,cSS,rfl,-⟩:=hs;obtain⟨-,aNS,cNS,rfl,-⟩:=hn
 obtain⟨W4,hW4⟩:=zE (w4.alloc (.cells #[.I ac,.I av,.slice aNS NN.length cNS] 35))
 have A4:zB w4 W4:=by rw[hW4];exact zR.alloc zL _
 have H4:=zaa (zab hb A4 hb.size);have B4:=zaa (zab B3.o H4.o B3.o.size);have C4:Hid (zB W2 W4):=zab C3.o H4.o C3.o.size;have M4:=zaa (zdg M3.o H4.o (zgy M3.o));have N4:=zaa (zdg N3.o H4.o (zgy N3.o))
 have PS:Hid (W4.heap[w4.heap.size]?=some (.cells #[.I ac,.I av,.slice aNS NN.length cNS] 35 (0,0))):=by rw[hW4];exact zaf rfl
 have SS:=zaa (Rd.below hs0.o A4);have TS:=zaa (Rd.below hn0.o A4)
 obtain⟨bS,hbS⟩:=zE w4.heap.size
 rw[<- hbS]at PS;have PG4:=zaa (zdg PG.o H4.o (zgy PG.o));have SG4:=zaa (Rd.below SG.o H4.o);have TG4:=zaa (Rd.below TG.o H4.o);clear PG SG TG;clear x0 x1 x2 x3 o0 o1 o2 o3 o4 hb hs0 hn0 A4 SC M3 N3 B3;go_upto_region 7 with fail;rw[<- hW4,<- hbS];clear hW4 hbS H4;go_wp2_with fail;refine(zsd _ _ L W4 SG4.o SS.o (by omega)).mono ?_;rintro e w5 ⟨rfl,hb⟩;have H5:=zaa hb;have B5:=zaa (zab B4.o hb B4.o.size);clear hb SG4 SS;obtain⟨p0,p1,p2,-⟩:=zyy (zdg PG4.o H5.o (zgy PG4.o));obtain⟨q0,q1,q2,-⟩:=zyy (zdg PS.o H5.o (zgy PS.o));go_wp2_with fail;refine(zsq ac av _ _ NN w5 (Rd.below TG4.o H5.o) (Rd.below TS.o H5.o) (by omega)).mono ?_;rintro e w6 ⟨rfl,hb⟩;have H6:=zaa (zab H5.o hb H5.o.size);have B6:=zaa (zab B5.o hb B5.o.size);clear hb TG4 TS p0 p1 p2 q0 q1 q2 H5 B5;obtain⟨o0,o1,o2,o3,o4,-⟩:=zar (zdg N4.o H6.o (zgy N4.o));go_wp2_with fail;refine(OKC.o _).mono ?_;rintro e w7 ⟨rfl,hb⟩;have H7:=zaa (zab H6.o hb H6.o.size);have B7:=zaa (zab B6.o hb B6.o.size);clear hb o0 o1 o2 o3 o4 H6 B6 OKC;obtain⟨p0,p1,p2,-⟩:=zyy (zdg PG4.o H7.o (zgy PG4.o));obtain⟨o0,-,-,-,-,-⟩:=zar (zdg N4.o H7.o (zgy N4.o));clear PG4 PS M4 N4 H7 C4 B4
 by_cases ca:ac=0
 ·by_cases ck:k<8
  ·have hl:0<L.length:=by have q:=RS.o;rw[if_pos ⟨ca,ck⟩]at q;exact q
   have hl2:(0:Int)<(L.length:Int):=by omega
   have ck2:¬ 8<=k:=by omega
   clear RS;go_wp2;go_ret;exact⟨rfl,B7.o⟩
  ·have hl:L=[]:=by have q:=RS.o;rw[if_neg (fun q=>ck q.2)]at q;exact q
   have ck2:8<=k:=by omega
   clear RS;subst hl;go_wp2;go_ret;exact⟨rfl,B7.o⟩
 ·have hl:L=[]:=by have q:=RS.o;rw[if_neg (fun q=>ca q.1)]at q;exact q
  clear RS;subst hl;go_wp2;go_ret;exact⟨rfl,B7.o⟩
end Go.Proofs.YtogcbbkhnpmgeaaGreatDoor

namespace Go.Proofs.YtogcbbkhnpmgeaaGreatDoor
open Go.ChangeShapes Go.WideShapes Go.ChangeAt Go.RowKit Go.Joins
theorem zmx {H:Type} {enc:TypeId×Value->H} {P:Program} {w:World} {base:Nat} {sp:Nat->Bool} {held:Bool} {fuel:Nat} {t e:TypeId} {n:Nat} {cs:List Value} {zs:List Int} {p:List MemPlace}
  (ht:P.underlying t=some (.array n e)) (he:P.underlying e=some (.int .i64)) (hce:P.cellsOf e=1) (hct:P.cellsOf t=n)
  (h:DataW.trod enc P w base sp held fuel t cs=some (.agg (zs.map fun z=>.lit (.int .i64 z)),p)):cs=zs.map (Value.int .i64):=by
 cases fuel with
 | zero=>simp[DataW.trod]at h
 | succ fuel =>
  simp only[DataW.trod,ht,hce,hct,Nat.mul_one]at h
  split at h
  ·rename_i hl;obtain⟨xs,hm,hx⟩:=Option.map_eq_some_iff.1 h
   have hxs:xs.map (·.1)=zs.map fun z=>(DataW.lit (.int .i64 z):DataW H):=by
    have:=congrArg Prod.fst hx;simpa using this
   have hxl:xs.length=n:=by simpa using Lib.mapM_length hm
   have hzl:zs.length=n:=by
    have:=congrArg List.length hxs;simp at this;omega
   apply List.ext_getElem?;intro i
   by_cases hi:i<n
   ·obtain⟨b,hb,hf⟩:=Lib.mapM_at hm i i (by simp[hi]);obtain⟨z,hc,rfl,_⟩:=DataW.trod_int he hf
    have h1:cs[i]?=some (.I z):=by
     have:=congrArg (·[0]?) hc;simpa[List.getElem?_take,List.getElem?_drop]using this
    have h2:(xs.map (·.1))[i]?=some (DataW.lit (.int .i64 z):DataW H):=by simp[hb]
    rw[hxs]at h2;simp only[List.getElem?_map,Option.map_eq_some_iff,DataW.lit.injEq,Lit.int.injEq]at h2;obtain⟨z',hz',e⟩:=h2;simp[h1,hz',e.2]
   ·rw[List.getElem?_eq_none (by omega),List.getElem?_eq_none (by simp;omega)]
  ·cases h
theorem yalj:Tryz.prog.cellsOf 87=11:=by kernel_rfl
theorem yawt:Tryz.prog.cellsOf 85=8:=by kernel_rfl
theorem yale:Tryz.prog.cellsOf 90=3:=by kernel_rfl
theorem ybat:Tryz.prog.cellsOf 9=1:=by kernel_rfl
section
variable {H:Type} {enc:TypeId×Value->H} {W:World} {base:Nat} {sp:Nat->Bool} {held:Bool} {fuel:Nat} {v:Value} {y:DataW H×List MemPlace}
end
section
variable {H:Type} {enc:TypeId×Value->H} {W:World} {sp:Nat->Bool} {held:Bool} {r:Reach} {b0:Nat} {v:Value} {d:DataW H} {p:List MemPlace}
end
section
variable {H:Type} {enc:TypeId×Value->H} {w:World} {base:Nat} {sp:Nat->Bool} {held:Bool} {fuel:Nat} {cs:List Value} {p:List MemPlace}
theorem yaso(h:DataW.trod enc Tryz.prog w base sp held fuel 235 cs=some (.agg [.lit (.int .i64 1),.lit (.int .i64 24),.lit (.int .i64 32)],p)):cs=[.I 1,.I 24,.I 32] :=
 zmx (zs:=[1,24,32]) Tryz.underlying235 Tryz.underlying3 zyu (show Tryz.prog.cellsOf 235=3 by kernel_rfl) h
theorem yasq(h:DataW.trod enc Tryz.prog w base sp held fuel 87 cs=some (.agg [.lit (.int .i64 2),.lit (.int .i64 0),.lit (.int .i64 1),.agg [.lit (.int .i64 0),.lit (.int .i64 0),.lit (.int .i64 0),.lit (.int .i64 0),.lit (.int .i64 0),.lit (.int .i64 0),.lit (.int .i64 0),.lit (.int .i64 0)]],p)) :
  cs=[.I 2,.I 0,.I 1,.I 0,.I 0,.I 0,.I 0,.I 0,.I 0,.I 0,.I 0]:=by
 obtain⟨y0,y1,y2,y3,n,hx,hl,t0,t1,t2,t3⟩:=trod_struct4 Tryz.underlying87 h;obtain⟨z0,e0,hy0,_⟩:=DataW.trod_int Tryz.underlying3 t0;obtain⟨z1,e1,hy1,_⟩:=DataW.trod_int Tryz.underlying3 t1;obtain⟨z2,e2,hy2,_⟩:=DataW.trod_int Tryz.underlying3 t2;obtain⟨y3a,y3b⟩:=y3;subst hy0 hy1 hy2;simp only[Prod.mk.injEq,DataW.agg.injEq,List.cons.injEq,DataW.lit.injEq,Lit.int.injEq,true_and,and_true]at hx;obtain⟨⟨g0,g1,g2,g3⟩,_⟩:=hx;subst g3;have A:=zmx (zs:=[0,0,0,0,0,0,0,0]) Tryz.underlying85 Tryz.underlying3 zyu yawt t3;rw[yalj]at hl;simp only[zyu,yawt]at e0 e1 e2 A
 match cs,hl with
 | [c0,c1,c2,c3,c4,c5,c6,c7,c8,c9,c10],_ =>
  simp at e0 e1 e2 A;rw[e0,e1,e2,<- g0,<- g1,<- g2,A.1,A.2.1,A.2.2.1,A.2.2.2.1,A.2.2.2.2.1,A.2.2.2.2.2.1,A.2.2.2.2.2.2.1,A.2.2.2.2.2.2.2]
theorem yasz(h:DataW.trod enc Tryz.prog w base sp held fuel 90 cs=some (.agg [.lit (.int .i64 0),.lit (.string []),.lit (.int .i64 (-1))],p)):cs=[.I 0,.string ⟨#[]⟩,.I (-1)]:=by
 obtain⟨y0,y1,y2,n,hx,hl,t0,t1,t2⟩:=Deep.trod_struct3 Tryz.underlying90 h;obtain⟨z0,e0,hy0,_⟩:=DataW.trod_int Tryz.underlying3 t0;obtain⟨s,e1,hy1,_⟩:=DataW.trod_string Tryz.underlying9 t1;obtain⟨z2,e2,hy2,_⟩:=DataW.trod_int Tryz.underlying3 t2;subst hy0 hy1 hy2;simp only[Prod.mk.injEq,DataW.agg.injEq,List.cons.injEq,DataW.lit.injEq,Lit.int.injEq,Lit.string.injEq,true_and,and_true]at hx;obtain⟨⟨g0,g1,g2⟩,_⟩:=hx;rw[yale]at hl;simp only[zyu,ybat]at e0 e1 e2
 match cs,hl with
 | [c0,c1,c2],_ =>
  simp at e0 e1 e2
  have hs:s=⟨#[]⟩:=by
   obtain⟨⟨l⟩⟩:=s;have g1':([]:List UInt8)=l:=g1;rw[<- g1']
  rw[e0,e1,e2,<- g0,<- g2,hs]
end
end Go.Proofs.YtogcbbkhnpmgeaaGreatDoor

namespace Go.Proofs.YtogcbbkhnpmgeaaGreatDoor
open Go.ChangeShapes Go.WideShapes Go.ChangeAt Go.RowKit Go.Joins
theorem yazw:Tryz.prog.cellsOf 160=2:=by kernel_rfl
theorem yavg {H:Type} {enc:TypeId×Value->H} {w:World} {base:Nat} {sp:Nat->Bool} {held:Bool} {fuel:Nat} {cs:List Value} {p:List MemPlace}
  (h:DataW.trod enc Tryz.prog w base sp held fuel 160 cs=some (.agg [.lit (.int .i64 (-1)),.lit (.int .i64 0)],p)):cs=[.I (-1),.I 0]:=by
 obtain⟨y0,y1,n,hx,hl,t0,t1⟩:=trod_struct2 Tryz.underlying160 h;obtain⟨z0,e0,hy0,_⟩:=DataW.trod_int Tryz.underlying3 t0;obtain⟨z1,e1,hy1,_⟩:=DataW.trod_int Tryz.underlying3 t1;rw[yazw]at hl;subst hy0 hy1;simp only[zyu]at e0 e1
 match cs,hl with
 | [c0,c1],_ =>
  simp at e0 e1 hx;subst e0 e1;rw[hx.1.1,hx.1.2]
end Go.Proofs.YtogcbbkhnpmgeaaGreatDoor
