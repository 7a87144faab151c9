import Derived.Test.YtogcbbkhnpmgeaaGreatDoorZBK
import Derived.Test.YtogcbbkhnpmgeaaGreatDoorZBY
import Derived.Lib.LaidTab
set_option maxRecDepth 100000
set_option maxHeartbeats 64000000
namespace Go.Proofs.YtogcbbkhnpmgeaaGreatDoor
open Go.RowKit
theorem yane(f:FV)(w:World)(h:FsIdle w (.agg #[.slice f.a0 f.n0 f.c0,.slice f.a1 f.n1 f.c1,.slice f.a2 f.n2 f.c2,.slice f.a3 f.n3 f.c3,.slice f.a4 f.n4 f.c4,.slice f.a5 f.n5 f.c5,.I f.x,.I f.y,.slice f.a8 f.n8 f.c8,.bool f.z])):∃ ws es ns ds,Idle ws es ns ds/\RdDev w (.agg #[.slice f.a0 f.n0 f.c0,.slice f.a1 f.n1 f.c1,.slice f.a2 f.n2 f.c2,.slice f.a3 f.n3 f.c3]) ws [] es []:=by
 obtain⟨ws,es,ns,ds,hs,⟨aW,cW,aP,cP,aS,cS,aQ,cQ,aH,cH,aT,cT,aN,cN,ev,a,b,c,d⟩,hi,hh⟩:=h;simp only[Value.agg.injEq,Array.mk.injEq,List.cons.injEq,Value.slice.injEq,and_true]at ev;obtain⟨⟨e1,e2,e3⟩,⟨e4,e5,e6⟩,⟨e7,e8,e9⟩,⟨e10,e11,e12⟩,-⟩:=ev;rw[e1,e2,e3,e4,e5,e6,e7,e8,e9,e10,e11,e12];exact⟨ws,es,ns,ds,hi,a⟩
theorem zyi{w:World}{a b c d:Value}{ws:List Int}{ps:List St}{es:List Int}{qs:List Se}(h:RdDev w (.agg #[a,b,c,d]) ws ps es qs):RdPm w (.agg #[a,b]) ws ps/\RdBlk w (.agg #[c,d]) es qs:=by
 obtain⟨_,_,_,_,e,p,q⟩:=h;simp only[Value.agg.injEq,Array.mk.injEq,List.cons.injEq,and_true]at e;obtain⟨rfl,rfl,rfl,rfl⟩:=e;exact⟨p,q⟩
theorem yanj{ws es:List Int}{ns:List Ino}{ds:List Den}(h:Idle ws es ns ds):(∀ k (h:k<ns.length),ns[k].R)/\∀ k (h:k<ds.length),ds[k].name.size<=maxLen:=by
 have q:=zsi h.pm 16;have r:=zir (zbz ws []) 24;rw[show zbb (zbz ws []) 16=ns from h.wi.inos]at q;rw[show zbc (zbz ws []) 24=ds from h.wi.dens]at r;exact⟨q,r⟩
theorem zqz{ws es:List Int}{ns:List Ino}{ds:List Den}(h:Idle ws es ns ds):riC ws []=0/\riN ws []=ns/\riD ws []=ds:=by
 have c:riC ws []=0:=by unfold riC;rw[if_pos h.pm,if_pos (show riB (zbz ws [])=true from h.wi.ri)]
 exact⟨c,by unfold riN;rw[if_pos c];exact h.wi.inos,by unfold riD;rw[if_pos c];exact h.wi.dens⟩
theorem yafg(vA vB:Value)(cs ms:List Int)(w:World)(hA:RdB w vA cs)(hB:RdB w vB ms)(hT:TS w)(hE:ED w)(hF:FD w)(hN:NW w) :
  zC 4 #[vA,vB] w fun e w'=>e=.returned (.bool true)/\zB w w':=by
 obtain⟨aA,cA,rfl,_⟩:=hA.shape;obtain⟨aB,cB,rfl,_⟩:=hB.shape;have HA:=zaa hA;have HB:=zaa hB;have GT:=zaa (And.intro hT (And.intro hE hF));have GN:=zaa hN;clear hA hB hT hE hF hN
 by_cases c1:1048576<cs.length
 ·go_enter Tryz.func4,Tryz.ntmps4;go_wp2;go_ret;exact⟨rfl,zR⟩
 by_cases c2:1048576<ms.length
 ·go_enter Tryz.func4,Tryz.ntmps4;go_wp2;go_ret;exact⟨rfl,zR⟩
 go_enter Tryz.func4,Tryz.ntmps4;go_wp2_with fail;refine(yamt _ cs w HA.o (by omega)).mono ?_;rintro e w1 ⟨f,rfl,hi,hb1⟩;obtain⟨ws,es,ns,ds,I,dv⟩:=yane f w1 hi;have pm:=(zyi dv).1;have q1:=zzb f w1
 obtain⟨W1,hW1⟩:=zE (w1.alloc (.cells #[.slice f.a0 f.n0 f.c0,.slice f.a1 f.n1 f.c1,.slice f.a2 f.n2 f.c2,.slice f.a3 f.n3 f.c3] 31))
 have A1:Hid (zB w1 W1):=by rw[hW1];exact zR.alloc zL _
 have B1:=zaa (zab hb1 A1.o hb1.size)
 have M1:Hid (W1.heap[w1.heap.size]?=some (.cells #[.slice f.a0 f.n0 f.c0,.slice f.a1 f.n1 f.c1,.slice f.a2 f.n2 f.c2,.slice f.a3 f.n3 f.c3] 31 (0,0))):=by rw[hW1];exact zah rfl
 have PM:=zaa (RdPm.below pm A1.o);have DV:=zaa (dv.below A1.o);have HI:=zaa I;have HZ:=zaa (show cs.length<=1048576/\ms.length<=1048576 by omega);clear hi hb1 pm dv I;go_upto_region 4 with fail;rw[<- hW1];clear hW1 q1 c1 c2
 obtain⟨mb,hmb⟩:=zE w1.heap.size
 rw[<- hmb]at M1;rw[<- hmb];clear hmb A1
 have KR:Hid (zC 12 #[.agg #[.slice f.a0 f.n0 f.c0,.slice f.a1 f.n1 f.c1]] W1 fun e w'=>∃ v',e=.returned (.tuple #[v',.I 0])/\RdIm w' v' ns ds/\zB W1 w'):=by
  have l:=HI.o.wi.len;have q:=zgd _ ws [] W1 PM.o (by omega) (by simp) (GT.o.1.below B1.o) (GT.o.2.1.below B1.o) (GT.o.2.2.below B1.o);rw[(zqz HI.o).1,(zqz HI.o).2.1,(zqz HI.o).2.2]at q;refine q.mono ?_;rintro e w' ⟨v',rfl,r,hb⟩;exact⟨v',rfl,r.rd,hb⟩
 obtain⟨y0,y1,y2,y3,-⟩:=zao M1.o;go_wp2_with fail;refine KR.o.mono ?_;rintro e w2 ⟨v2,rfl,hr2,hb2⟩;have R2:=zaa hr2;obtain⟨vI,vD,rfl,h1,h2⟩:=hr2;have l16:=HI.o.wi.img.l16;have l24:=HI.o.wi.img.l24;obtain⟨aW,cW,rfl,_,hcW⟩:=h1.shape;obtain⟨aP,cP,rfl,_,_⟩:=h2.shape;obtain⟨bW,oW,rfl,hblW,hcellW⟩:=hcW (by omega)
 obtain⟨W2,hW2⟩:=zE (w2.alloc (.cells #[.slice (some ⟨bW,oW,none⟩) ns.length cW,.slice aP ds.length cP] 51))
 have A2:Hid (zB w2 W2):=by rw[hW2];exact zR.alloc zL _
 have H2:=zaa (zab hb2 A2.o hb2.size);have B2:=zaa (zab B1.o H2.o B1.o.size)
 have M2:Hid (W2.heap[w2.heap.size]?=some (.cells #[.slice (some ⟨bW,oW,none⟩) ns.length cW,.slice aP ds.length cP] 51 (0,0))):=by rw[hW2];exact zah rfl
 have RI:=zaa (R2.o.below A2.o);have DW:=zaa (DV.o.below H2.o)
 have MD:Hid (∀ w',zB W2 w'->w'.heap[mb]?=some (.cells #[.slice f.a0 f.n0 f.c0,.slice f.a1 f.n1 f.c1,.slice f.a2 f.n2 f.c2,.slice f.a3 f.n3 f.c3] 31 (0,0))):=fun w' hb=>by
  have e1:=zsj M1.o H2.o (yaqc M1.o);exact zsj e1 hb (yaqc e1)
 have GW:Hid (TS W2/\ED W2/\FD W2/\NW W2):=⟨GT.o.1.below B2.o,GT.o.2.1.below B2.o,GT.o.2.2.below B2.o,GN.o.below B2.o⟩
 have GR:=zaa (yanj HI.o);have L16:=zaa l16;have L24:=zaa l24;have IM:=zaa HI.o.img;clear h1 h2 hcW hcellW hblW hb2 R2 KR y0 y1 y2 y3 M1 PM DV HA GT GN l16 l24;go_upto_region 5 with fail;rw[<- hW2];clear hW2
 obtain⟨ib,hib⟩:=zE w2.heap.size
 rw[<- hib]at M2;rw[<- hib];clear hib A2 H2
 have MB:Hid (∀ w',zB W2 w'->w'.heap[ib]?=some (.cells #[.slice (some ⟨bW,oW,none⟩) ns.length cW,.slice aP ds.length cP] 51 (0,0))):=fun w' hb=>zsj M2.o hb (yaqc M2.o)
 clear M2;go_wp2_with fail;refine(yadm _ ms W2 (HB.o.below B2.o) HZ.o.2).mono ?_;rintro e w3 ⟨s,rfl,hs,hb3⟩;have J2:=zaa hb3;have sz:=hs.size;clear hb3 hs;go_wp2_with fail;refine(yams _ ms 0 9 w3 (HB.o.below (zab B2.o J2.o B2.o.size)) HZ.o.2 (by omega) (by omega) (by omega) (by omega)).mono ?_;rintro e w4 ⟨rfl,hb4⟩;obtain⟨r0,r1⟩:0<=atV ms 0 9/\atV ms 0 9<9:=yatc ms 0 9 (by omega);generalize atV ms 0 9=r at *;have J3a:=zaa (zab J2.o hb4 J2.o.size);clear hb4 HB HZ J2;have pe:=zxc HI.o (s:=s) (by omega)
 have pcd:(psR ws [] es [] s).2=(flI ns ds s).2:=by rw[pe];exact yaml
 have ccd:(cuI ns ds s r).2=(flI ns ds s).2:=yamr ⟨r0,by omega⟩
 have eM:Hid (cuR ns ds s r=cuI ns ds s r):=by unfold Hid cuR;rw[if_neg (by omega),if_pos IM.o]
 have WL:=zaa (And.intro HI.o.wi.len (zcy HI.o.bk).1)
 have PB:Hid (∀ w',zB W2 w'->zC 15 #[.agg #[.slice f.a0 f.n0 f.c0,.slice f.a1 f.n1 f.c1,.slice f.a2 f.n2 f.c2,.slice f.a3 f.n3 f.c3],.string s] w' fun e w2=>∃ v',e=.returned (.tuple #[v',.I (flI ns ds s).2])/\RdI w2 v' (psR ws [] es [] s).1/\zB w' w2):=fun w' hb=>by
  have q:=zhm _ ws [] es [] s w' (DW.o.below hb) (by have:=WL.o;omega) (by simp) (by have:=WL.o;omega) (by simp) (GW.o.1.below hb) (GW.o.2.1.below hb) (GW.o.2.2.1.below hb) (GW.o.2.2.2.below hb);rw[pcd]at q;refine q.mono ?_;rintro e w2 ⟨v',rfl,r,hb2⟩;exact⟨v',rfl,r.rd,hb2⟩
 have PI0:Hid (∀ w',zB W2 w'->zC 16 #[.agg #[.slice (some ⟨bW,oW,none⟩) ns.length cW,.slice aP ds.length cP],.string s,.I r] w' fun e w2=>zhy w' w2 e ((cuI ns ds s r).1,(flI ns ds s).2)):=fun w' hb=>by
  have q:=znr (.agg #[.slice (some ⟨bW,oW,none⟩) ns.length cW,.slice aP ds.length cP]) ns ds s r w' (RI.o.below hb) (by have:=L16.o;omega) (by have:=L24.o;omega) (GW.o.1.below hb) (GW.o.2.1.below hb) (GW.o.2.2.1.below hb) GR.o.1 GR.o.2;rw[eM.o]at q;rw[<- ccd];exact q
 have PS0:Hid (∀ w',zB W2 w'->zC 17 #[.agg #[.slice (some ⟨bW,oW,none⟩) ns.length cW,.slice aP ds.length cP],.string s,.I r] w' fun e w2=>zhy w' w2 e ((cuI ns ds s r).1,(flI ns ds s).2)):=fun w' hb=>by
  have q:=znl (.agg #[.slice (some ⟨bW,oW,none⟩) ns.length cW,.slice aP ds.length cP]) ns ds s r w' (RI.o.below hb) (by have:=L16.o;omega) (by have:=L24.o;omega) GR.o.1 GR.o.2;rw[eM.o]at q;rw[<- ccd];exact q
 simp only[zhy]at PI0 PS0;clear eM RI GR
 by_cases bz:(flI ns ds s).2=0
 case neg =>
  have ue0:=yatl (ns:=ns) (ds:=ds) (s:=s) (g:=r) (by rw[ccd];exact bz);clear pcd ccd pe;rw[ue0]at PI0 PS0;generalize (flI ns ds s).2=b at *
  obtain⟨us,eu⟩:∃ us:List Se,us=[]:=⟨_,rfl⟩
  rw[<- eu]at PI0 PS0
  have ul:us.length<=0:=by rw[eu];simp
  have ue:=zaa eu
  have d1:(b == 0)=false:=by rw[beq_eq_false_iff_ne];exact bz
  clear HI DW GW L16 L24 IM eu ue0 WL;obtain⟨y0,y1,y2,y3,-⟩:=zao (MD.o _ J3a.o);go_wp2_with fail;refine(PB.o _ J3a.o).mono ?_;rintro e w5 ⟨vb,rfl,hrb,hb5a⟩;have J5a:=zaa (zab J3a.o hb5a J3a.o.size);have MD5:=zaa (fun w' (hb:zB w5 w')=>MD.o w' (zab J5a.o hb J5a.o.size));have MB5:=zaa (fun w' (hb:zB w5 w')=>MB.o w' (zab J5a.o hb J5a.o.size))
  have RB5:Hid (∀ w',zB w5 w'->RdI w' vb (psR ws [] es [] s).1):=fun w' hb=>Rd.below hrb hb
  have PI:=zaa (fun w' (hb:zB w5 w')=>PI0.o w' (zab J5a.o hb J5a.o.size));have PS:=zaa (fun w' (hb:zB w5 w')=>PS0.o w' (zab J5a.o hb J5a.o.size));obtain⟨aB0,cB0,hvb,-,-⟩:=hrb.shape;subst hvb;have J3:=zaa (Below.refl w5.heap.size w5);clear y0 y1 y2 y3 hrb hb5a J3a PB PI0 PS0;obtain⟨x0,x1,-,-⟩:=zac (MB5.o _ J3.o);go_wp2_with fail;refine(PI.o _ J3.o).mono ?_;rintro e u1 ⟨v1,rfl,hr1,hb1⟩;have J4:=zaa (zab J3.o hb1 J3.o.size);have L1:Hid (RdE u1 v1 us):=hr1.rd;obtain⟨aL,cL,hv1,-,-⟩:=L1.o.shape;subst hv1;clear hr1 hb1 x0 x1 PI;obtain⟨x0,x1,-,-⟩:=zac (MB5.o _ J4.o);go_wp2_with fail;refine(PS.o _ J4.o).mono ?_;rintro e u2 ⟨v2,rfl,hr2,hb2⟩;have J5:=zaa (zab J4.o hb2 J4.o.size);have L2:Hid (RdE u2 v2 us):=hr2.rd;obtain⟨aM,cM,hv2,-,-⟩:=L2.o.shape;subst hv2;have L1b:Hid (RdE u2 _ us):=Rd.below L1.o hb2;clear hr2 hb2 x0 x1 PS L1;go_wp2_with fail;refine(zgw _ _ us u2 L1b.o L2.o (by omega)).mono ?_;rintro e u4 ⟨rfl,hb4⟩;have J7:=zaa (zab J5.o hb4 J5.o.size);have L1d:Hid (RdE u4 _ us):=Rd.below L1b.o hb4;clear hb4 L1b L2 J4 J5 J3;have BF:=zaa (zab B2.o (zab J5a.o J7.o J5a.o.size) B2.o.size);have u0:=ue.o;subst u0;go_wp2;go_ret;exact⟨rfl,BF.o⟩
 obtain⟨us,eU⟩:∃ us,cuI ns ds s r=(us,0):=⟨(cuI ns ds s r).1,Prod.ext rfl (ccd.trans bz)⟩
 obtain⟨u16,⟨a1,a2,a3⟩,L,L',q1,q2,q3,l8,l8',HV⟩:=yanv HI.o (by omega) eU;have HVV:=zaa HV;rw[eU,bz]at PI0 PS0;rw[bz,q1]at PB;simp only at PI0 PS0 PB
 have KA:Hid (∀ w' vL,zB W2 w'->RdE w' vL us->zC 19 #[.agg #[.slice f.a0 f.n0 f.c0,.slice f.a1 f.n1 f.c1],vL] w' fun e w2=>∃ v',e=.returned (.tuple #[v',.I 0])/\RdPm w2 v' (zbu ws us) []/\zB w' w2):=fun w' vL hb hl=>by
  have q:=zib _ vL ws [] us w' (RdPm.below (zyi DW.o).1 hb) hl (by have:=WL.o;omega) (by simp) (by omega);rw[a1,a2,a3]at q;refine q.mono ?_;rintro e w2 ⟨v',rfl,r,hb2⟩;exact⟨v',rfl,r.rd,hb2⟩
 have PC:Hid (∀ w' va vb,zB W2 w'->RdPm w' (.agg #[va,vb]) (zbu ws us) []->zC 15 #[.agg #[va,vb,.slice f.a2 f.n2 f.c2,.slice f.a3 f.n3 f.c3],.string s] w' fun e w2=>∃ v',e=.returned (.tuple #[v',.I 0])/\RdI w2 v' L'/\zB w' w2):=fun w' va vb hb hr=>by
  have l:(zbu ws us).length<=1048576:=by rw[zes];have:=WL.o;omega
  have q:=zhm (.agg #[va,vb,.slice f.a2 f.n2 f.c2,.slice f.a3 f.n3 f.c3]) (zbu ws us) [] es [] s w' ⟨_,_,_,_,rfl,hr,((zyi DW.o).2).below hb⟩ l (by simp) (by have:=WL.o;omega) (by simp) (GW.o.1.below hb) (GW.o.2.1.below hb) (GW.o.2.2.1.below hb) (GW.o.2.2.2.below hb);rw[q2]at q;refine q.mono ?_;rintro e w2 ⟨v',rfl,r,hb2⟩;exact⟨v',rfl,r.rd,hb2⟩
 have ul:=u16;subst q3;clear HI DW GW IM a1 a2 a3 q1 q2 bz eU pcd ccd pe HV WL L16 L24 r0 r1;generalize zbu ws us=ws' at *;obtain⟨y0,y1,y2,y3,-⟩:=zao (MD.o _ J3a.o);go_wp2_with fail;refine(PB.o _ J3a.o).mono ?_;rintro e w5 ⟨vb,rfl,hrb,hb5a⟩;have J5a:=zaa (zab J3a.o hb5a J3a.o.size);have MD5:=zaa (fun w' (hb:zB w5 w')=>MD.o w' (zab J5a.o hb J5a.o.size));have MB5:=zaa (fun w' (hb:zB w5 w')=>MB.o w' (zab J5a.o hb J5a.o.size))
 have RB5:Hid (∀ w',zB w5 w'->RdI w' vb L):=fun w' hb=>Rd.below hrb hb
 have PI:=zaa (fun w' (hb:zB w5 w')=>PI0.o w' (zab J5a.o hb J5a.o.size));have PS:=zaa (fun w' (hb:zB w5 w')=>PS0.o w' (zab J5a.o hb J5a.o.size));obtain⟨aB0,cB0,hvb,-,-⟩:=hrb.shape;subst hvb;have J3:=zaa (Below.refl w5.heap.size w5);clear y0 y1 y2 y3 hrb hb5a J3a PB PI0 PS0;obtain⟨x0,x1,-,-⟩:=zac (MB5.o _ J3.o);go_wp2_with fail;refine(PI.o _ J3.o).mono ?_;rintro e u1 ⟨v1,rfl,hr1,hb1⟩;have J4:=zaa (zab J3.o hb1 J3.o.size);have L1:Hid (RdE u1 v1 us):=hr1.rd;obtain⟨aL,cL,hv1,-,-⟩:=L1.o.shape;subst hv1;clear hr1 hb1 x0 x1 PI;obtain⟨x0,x1,-,-⟩:=zac (MB5.o _ J4.o);go_wp2_with fail;refine(PS.o _ J4.o).mono ?_;rintro e u2 ⟨v2,rfl,hr2,hb2⟩;have J5:=zaa (zab J4.o hb2 J4.o.size);have L2:Hid (RdE u2 v2 us):=hr2.rd;obtain⟨aM,cM,hv2,-,-⟩:=L2.o.shape;subst hv2;have L1b:Hid (RdE u2 _ us):=Rd.below L1.o hb2;clear hr2 hb2 x0 x1 PS L1;go_wp2_with fail;refine(zgw _ _ us u2 L1b.o L2.o (by omega)).mono ?_;rintro e u4 ⟨rfl,hb4⟩;have J7:=zaa (zab J5.o hb4 J5.o.size);have L1d:Hid (RdE u4 _ us):=Rd.below L1b.o hb4;clear hb4 L1b L2 J4 J5 J3;obtain⟨y0,y1,y2,y3,-⟩:=zao (MD5.o _ J7.o);go_wp2_with fail;refine(KA.o _ _ (zab J5a.o J7.o J5a.o.size) L1d.o).mono ?_;rintro e u5 ⟨v5,rfl,hr5,hb5⟩;have J8:=zaa (zab J7.o hb5 J7.o.size);have P5:=zaa hr5;obtain⟨vW5,vP5,rfl,p51,p52⟩:=hr5;obtain⟨-,g1,g2,hv51,-⟩:=p51;obtain⟨-,g3,g4,hv52,-⟩:=p52;subst hv51;subst hv52
 obtain⟨W5,hW5⟩:=zE (u5.alloc (.cells #[.slice g1 ws'.length g2,.slice g3 ([]:List St).length g4] 26))
 have A5:Hid (zB u5 W5):=by rw[hW5];exact zR.alloc zL _
 have S5:Hid (W5.heap[u5.heap.size]?=some (.cells #[.slice g1 ws'.length g2,.slice g3 ([]:List St).length g4] 26 (0,0))):=by rw[hW5];exact zah rfl
 have J9:=zaa (zab J8.o A5.o J8.o.size);have P5w:=zaa (RdPm.below P5.o A5.o);simp only[List.length_nil]at hW5 S5 P5w;clear hb5 y0 y1 y2 y3 J7 J8 P5 A5 KA L1d;go_upto_region 15 with fail;rw[<- hW5];clear hW5;obtain⟨z0,z1,-,-⟩:=zac S5.o;obtain⟨-,-,y2,y3,-⟩:=zao (MD5.o _ J9.o);go_wp2_with fail;refine(PC.o _ _ _ (zab J5a.o J9.o J5a.o.size) P5w.o).mono ?_;rintro e u6 ⟨v6,rfl,hr6,hb6⟩;have J10:=zaa (zab J9.o hb6 J9.o.size);have RA:=zaa hr6;have RB:=zaa (RB5.o _ J10.o);obtain⟨aB,cB,eB,-,hcB⟩:=RB.o.shape;obtain⟨aC,cC,eC,-,hcC⟩:=RA.o.shape
 cases eB
 subst eC;have BF:=zaa (zab B2.o (zab J5a.o J10.o J5a.o.size) B2.o.size);clear hr6 hb6 z0 z1 y2 y3 PC J9 J10 S5 P5w RA RB RB5 MD5 MB5 J5a MD MB;have HB2:=zaa hcB;have HC2:=zaa hcC;clear hcB hcC
 have lcap:(L'.length:Int)<=8:=by omega
 go_wp2
 go_loop [20,21] (fun i _=>∃ k:Nat,k<=L'.length/\i=.I k) (fun i _=>L'.length-(intOf i).toNat)
 case atStart=>exact⟨0,by omega,rfl⟩
 case round =>
  obtain⟨k,hk,rfl⟩:=hrel
  by_cases hlt:k<L'.length
  ·obtain⟨b2,o2,rfl,hbl2,hcell2⟩:=HC2.o (by omega);have hc:=hcell2 k hlt;rw[HVV.o k hlt]at hc
   have hlt':(k:Int)<(L'.length:Int):=by omega
   clear hcell2
   by_cases kl:k<L.length
   ·obtain⟨b1,o1,rfl,hbl1,hcell1⟩:=HB2.o (by omega);have hd:=hcell1 k kl;rw[dif_pos kl]at hc
    have kl':(k:Int)<(L.length:Int):=by omega
    clear hcell1;generalize L[k]=x at *;go_wp2
    go_round
    case rel=>exact⟨k+1,by omega,by go_num⟩
    case measure=>simp[intOf];omega
   ·rw[dif_neg kl]at hc
    have kl':¬ (k:Int)<(L.length:Int):=by omega
    go_wp2
    go_round
    case rel=>exact⟨k+1,by omega,by go_num⟩
    case measure=>simp[intOf];omega
  ·have hlt':¬ (k:Int)<(L'.length:Int):=by omega
   go_wp2;go_ret;exact⟨rfl,BF.o⟩
end Go.Proofs.YtogcbbkhnpmgeaaGreatDoor

namespace Go.Proofs.YtogcbbkhnpmgeaaGreatDoor
open Go.ChangeShapes Go.WideShapes Go.ChangeAt Go.RowKit Go.Joins
theorem zjw {H:Type} {enc:TypeId×Value->H} {P:Program} {w:World} {base:Nat} {sp:Nat->Bool} {held:Bool} {fuel:Nat} {t e:TypeId} {n:Nat} {cs:List Value} {zs:List Int} {p:List MemPlace}
  (ht:P.underlying t=some (.array n e)) (he:P.underlying e=some (.int .i64)) (hce:P.cellsOf e=1) (hct:P.cellsOf t=n)
  (h:DataW.trod enc P w base sp held fuel t cs=some (.agg (zs.map fun z=>.lit (.int .i64 z)),p)):cs=zs.map (Value.int .i64):=by
 cases fuel with
 | zero=>simp[DataW.trod]at h
 | succ fuel =>
  simp only[DataW.trod,ht,hce,hct,Nat.mul_one]at h
  split at h
  ·rename_i hl;obtain⟨xs,hm,hx⟩:=Option.map_eq_some_iff.1 h
   have hxs:xs.map (·.1)=zs.map fun z=>(DataW.lit (.int .i64 z):DataW H):=by
    have:=congrArg Prod.fst hx;simpa using this
   have hxl:xs.length=n:=by simpa using Lib.mapM_length hm
   have hzl:zs.length=n:=by
    have:=congrArg List.length hxs;simp at this;omega
   apply List.ext_getElem?;intro i
   by_cases hi:i<n
   ·obtain⟨b,hb,hf⟩:=Lib.mapM_at hm i i (by simp[hi]);obtain⟨z,hc,rfl,_⟩:=DataW.trod_int he hf
    have h1:cs[i]?=some (.I z):=by
     have:=congrArg (·[0]?) hc;simpa[List.getElem?_take,List.getElem?_drop]using this
    have h2:(xs.map (·.1))[i]?=some (DataW.lit (.int .i64 z):DataW H):=by simp[hb]
    rw[hxs]at h2;simp only[List.getElem?_map,Option.map_eq_some_iff,DataW.lit.injEq,Lit.int.injEq]at h2;obtain⟨z',hz',e⟩:=h2;simp[h1,hz',e.2]
   ·rw[List.getElem?_eq_none (by omega),List.getElem?_eq_none (by simp;omega)]
  ·cases h
theorem yakh:Tryz.prog.cellsOf 87=11:=by kernel_rfl
theorem yape:Tryz.prog.cellsOf 85=8:=by kernel_rfl
theorem yaeq:Tryz.prog.cellsOf 90=3:=by kernel_rfl
theorem yaud:Tryz.prog.cellsOf 9=1:=by kernel_rfl
section
variable {H:Type} {enc:TypeId×Value->H} {W:World} {base:Nat} {sp:Nat->Bool} {held:Bool} {fuel:Nat} {v:Value} {y:DataW H×List MemPlace}
end
section
variable {H:Type} {enc:TypeId×Value->H} {W:World} {sp:Nat->Bool} {held:Bool} {r:Reach} {b0:Nat} {v:Value} {d:DataW H} {p:List MemPlace}
end
section
variable {H:Type} {enc:TypeId×Value->H} {w:World} {base:Nat} {sp:Nat->Bool} {held:Bool} {fuel:Nat} {cs:List Value} {p:List MemPlace}
theorem yalg(h:DataW.trod enc Tryz.prog w base sp held fuel 235 cs=some (.agg [.lit (.int .i64 1),.lit (.int .i64 24),.lit (.int .i64 32)],p)):cs=[.I 1,.I 24,.I 32] :=
 zjw (zs:=[1,24,32]) Tryz.underlying235 Tryz.underlying3 zvi (show Tryz.prog.cellsOf 235=3 by kernel_rfl) h
theorem yann(h:DataW.trod enc Tryz.prog w base sp held fuel 87 cs=some (.agg [.lit (.int .i64 2),.lit (.int .i64 0),.lit (.int .i64 1),.agg [.lit (.int .i64 0),.lit (.int .i64 0),.lit (.int .i64 0),.lit (.int .i64 0),.lit (.int .i64 0),.lit (.int .i64 0),.lit (.int .i64 0),.lit (.int .i64 0)]],p)) :
  cs=[.I 2,.I 0,.I 1,.I 0,.I 0,.I 0,.I 0,.I 0,.I 0,.I 0,.I 0]:=by
 obtain⟨y0,y1,y2,y3,n,hx,hl,t0,t1,t2,t3⟩:=trod_struct4 Tryz.underlying87 h;obtain⟨z0,e0,hy0,_⟩:=DataW.trod_int Tryz.underlying3 t0;obtain⟨z1,e1,hy1,_⟩:=DataW.trod_int Tryz.underlying3 t1;obtain⟨z2,e2,hy2,_⟩:=DataW.trod_int Tryz.underlying3 t2;obtain⟨y3a,y3b⟩:=y3;subst hy0 hy1 hy2;simp only[Prod.mk.injEq,DataW.agg.injEq,List.cons.injEq,DataW.lit.injEq,Lit.int.injEq,true_and,and_true]at hx;obtain⟨⟨g0,g1,g2,g3⟩,_⟩:=hx;subst g3;have A:=zjw (zs:=[0,0,0,0,0,0,0,0]) Tryz.underlying85 Tryz.underlying3 zvi yape t3;rw[yakh]at hl;simp only[zvi,yape]at e0 e1 e2 A
 match cs,hl with
 | [c0,c1,c2,c3,c4,c5,c6,c7,c8,c9,c10],_ =>
  simp at e0 e1 e2 A;rw[e0,e1,e2,<- g0,<- g1,<- g2,A.1,A.2.1,A.2.2.1,A.2.2.2.1,A.2.2.2.2.1,A.2.2.2.2.2.1,A.2.2.2.2.2.2.1,A.2.2.2.2.2.2.2]
theorem yaly(h:DataW.trod enc Tryz.prog w base sp held fuel 90 cs=some (.agg [.lit (.int .i64 0),.lit (.string []),.lit (.int .i64 (-1))],p)):cs=[.I 0,.string ⟨#[]⟩,.I (-1)]:=by
 obtain⟨y0,y1,y2,n,hx,hl,t0,t1,t2⟩:=Deep.trod_struct3 Tryz.underlying90 h;obtain⟨z0,e0,hy0,_⟩:=DataW.trod_int Tryz.underlying3 t0;obtain⟨s,e1,hy1,_⟩:=DataW.trod_string Tryz.underlying9 t1;obtain⟨z2,e2,hy2,_⟩:=DataW.trod_int Tryz.underlying3 t2;subst hy0 hy1 hy2;simp only[Prod.mk.injEq,DataW.agg.injEq,List.cons.injEq,DataW.lit.injEq,Lit.int.injEq,Lit.string.injEq,true_and,and_true]at hx;obtain⟨⟨g0,g1,g2⟩,_⟩:=hx;rw[yaeq]at hl;simp only[zvi,yaud]at e0 e1 e2
 match cs,hl with
 | [c0,c1,c2],_ =>
  simp at e0 e1 e2
  have hs:s=⟨#[]⟩:=by
   obtain⟨⟨l⟩⟩:=s;have g1':([]:List UInt8)=l:=g1;rw[<- g1']
  rw[e0,e1,e2,<- g0,<- g2,hs]
end
end Go.Proofs.YtogcbbkhnpmgeaaGreatDoor

namespace Go.Proofs.YtogcbbkhnpmgeaaGreatDoor
open Go.ChangeShapes Go.WideShapes Go.ChangeAt Go.RowKit Go.Joins
theorem yarg:Tryz.prog.cellsOf 160=2:=by kernel_rfl
theorem yamf {H:Type} {enc:TypeId×Value->H} {w:World} {base:Nat} {sp:Nat->Bool} {held:Bool} {fuel:Nat} {cs:List Value} {p:List MemPlace}
  (h:DataW.trod enc Tryz.prog w base sp held fuel 160 cs=some (.agg [.lit (.int .i64 (-1)),.lit (.int .i64 0)],p)):cs=[.I (-1),.I 0]:=by
 obtain⟨y0,y1,n,hx,hl,t0,t1⟩:=trod_struct2 Tryz.underlying160 h;obtain⟨z0,e0,hy0,_⟩:=DataW.trod_int Tryz.underlying3 t0;obtain⟨z1,e1,hy1,_⟩:=DataW.trod_int Tryz.underlying3 t1;rw[yarg]at hl;subst hy0 hy1;simp only[zvi]at e0 e1
 match cs,hl with
 | [c0,c1],_ =>
  simp at e0 e1 hx;subst e0 e1;rw[hx.1.1,hx.1.2]
end Go.Proofs.YtogcbbkhnpmgeaaGreatDoor
