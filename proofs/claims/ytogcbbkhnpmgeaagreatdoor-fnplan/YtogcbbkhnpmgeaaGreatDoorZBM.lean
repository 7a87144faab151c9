import Derived.Test.YtogcbbkhnpmgeaaGreatDoorZBL
set_option maxRecDepth 100000
set_option maxHeartbeats 8000000
namespace Go.Proofs.YtogcbbkhnpmgeaaGreatDoor
open Go.RowKit
theorem zys{ws:List Int}{ps:List St}(h:pmB ws ps=true){k:Nat}(hk:k<24):yabn ws ps (312+(k:Int))=ldW ws ps (312+k)/\zxk ws ps (312+(k:Int))=0:=by
 have p:zbx (312+(k:Int))=true:=decide_eq_true (by omega)
 have a:zxk ws ps (312+(k:Int))=0:=by unfold zxk;rw[h,p];rfl
 refine⟨?_,a⟩;unfold yabn ldW;rw[if_pos a,show(312+(k:Int)).toNat=312+k by omega,show((312+k:Nat):Int)=312+(k:Int) by omega]
theorem yaat{es:List Int}{qs:List Se}(h:zfp es qs=true){k:Nat}(hk:k<32):yady es qs (k:Int)=zhq (k:Int) (es[k]?.getD 0) qs/\zxm es qs (k:Int)=0:=by
 have p:znd (k:Int)=true:=decide_eq_true (by omega)
 have a:zxm es qs (k:Int)=0:=by unfold zxm;rw[h,p];rfl
 refine⟨?_,a⟩;unfold yady;rw[if_pos a,Int.toNat_natCast]
theorem yaed(v:Value)(ws:List Int)(ps:List St)(es:List Int)(qs:List Se)(e:Int)(w:World)(h:RdDev w v ws ps es qs)(hP:pmB ws ps=true)(hB:zfp es qs=true)(te:zer e=true)(hT:TS w)(hN:NW w) :
  zC 67 #[v,.I e] w fun r w'=>r=.returned (.I (pgV ws ps es qs e))/\zB w w':=by
 obtain⟨aW,cW,aP,cP,aS,cS,aQ,cQ,rfl,h1,h2⟩:=h.form
 have te':0<=e/\((e%4=0/\e/4=0)\/(e%4=1/\0<=e/4/\e/4<24)\/(e%4=2/\0<=e/4/\e/4<32)):=by
  unfold zer zfl at te;rw[Bool.and_eq_true,decide_eq_true_eq,decide_eq_true_eq]at te;exact te
 have wl:=zgj hP;have el:=zdu hB;have BW:Hid (zB w (w.alloc (.cells #[.slice aW ws.length cW,.slice aP ps.length cP,.slice aS es.length cS,.slice aQ qs.length cQ] 31))):=zR.alloc zL _
 have LT:Hid (∀ w1,zB w w1->zC 120 #[.I e] w1 fun r w'=>r=.returned (.tuple #[.I (e%4),.I (e/4),.I 0])/\w'=w1):=fun w1 hb=>by
  have q:=zfd e w1 (hT.below hb) (by omega) (by omega);rw[(zuu te).1,(zuu te).2.1,(zuu te).2.2]at q;exact q
 have EV:=zaa (show pgV ws ps es qs e=if e%4=1 then ldW ws ps (312+e/4).toNat else if e%4=2 then zhq (e/4) (es[(e/4).toNat]?.getD 0) qs else 0 from rfl)
 have L1:Hid (∀ (k:Nat),k<24->∀ w1,zB w w1->zC 121 #[.agg #[.slice aW ws.length cW,.slice aP ps.length cP],.I (312+(k:Int))] w1 fun r w'=>r=.returned (.tuple #[.I (ldW ws ps (312+k)),.I 0])/\zB w1 w'):=fun k hk w1 hb=>by
  have:=ztm _ ws ps (312+(k:Int)) w1 (h1.below hb) (by omega) (by omega);rw[(zys hP hk).1,(zys hP hk).2]at this;exact this
 have L2:Hid (∀ (k:Nat),k<32->∀ w1,zB w w1->zC 122 #[.agg #[.slice aS es.length cS,.slice aQ qs.length cQ],.I (k:Int)] w1 fun r w'=>r=.returned (.tuple #[.I (zhq (k:Int) (es[k]?.getD 0) qs),.I 0])/\zB w1 w'):=fun k hk w1 hb=>by
  have:=zrh _ es qs (k:Int) w1 (h2.below hb) (hN.below hb) (by omega) (by omega);rw[(yaat hB hk).1,(yaat hB hk).2]at this;exact this
 clear h h1 h2 te hP hB wl el hT hN;generalize pgV ws ps es qs e=r at *;generalize e%4=t at *;generalize e/4=a at *
 rcases te'.2 with ⟨rfl,rfl⟩ | ⟨rfl,a0,a1⟩ | ⟨rfl,a0,a1⟩
 ·rw[if_neg (by omega),if_neg (by omega)]at EV;obtain rfl:=EV.o;clear te' L1 L2 EV;go_enter Tryz.func67,Tryz.ntmps67;go_wp2_with fail;refine(LT.o _ BW.o).mono ?_;rintro r w1 ⟨rfl,hw1⟩;subst w1;go_wp2;go_ret;exact⟨rfl,BW.o⟩
 ·obtain⟨k,rfl⟩:∃ k:Nat,a=(k:Int):=⟨a.toNat,by omega⟩
  rw[if_pos rfl,show(312+(k:Int)).toNat=312+k by omega]at EV;obtain rfl:=EV.o
  have k24:k<24:=by omega
  have Q:=zaa (L1.o k k24);clear te' L1 L2 EV a0 a1;go_enter Tryz.func67,Tryz.ntmps67;go_wp2_with fail;refine(LT.o _ BW.o).mono ?_;rintro r w1 ⟨rfl,hw1⟩;subst w1;go_wp2_with fail;refine(Q.o _ BW.o).mono ?_;rintro r w2 ⟨rfl,hb2⟩;have B2:=zaa (zab BW.o hb2 BW.o.size);clear hb2;go_wp2;go_ret;exact⟨rfl,B2.o⟩
 ·obtain⟨k,rfl⟩:∃ k:Nat,a=(k:Int):=⟨a.toNat,by omega⟩
  rw[if_neg (by omega),if_pos rfl,Int.toNat_natCast]at EV;obtain rfl:=EV.o
  have k32:k<32:=by omega
  have Q:=zaa (L2.o k k32);clear te' L1 L2 EV a0 a1;go_enter Tryz.func67,Tryz.ntmps67;go_wp2_with fail;refine(LT.o _ BW.o).mono ?_;rintro r w1 ⟨rfl,hw1⟩;subst w1;go_wp2_with fail;refine(Q.o _ BW.o).mono ?_;rintro r w2 ⟨rfl,hb2⟩;have B2:=zaa (zab BW.o hb2 BW.o.size);clear hb2;go_wp2;go_ret;exact⟨rfl,B2.o⟩
theorem yaxk{ws:List Int}{ps:List St}{es:List Int}{qs:List Se}{s:ByteArray}{page:Int}:rpR ws ps es qs s page=if (flR (dvN ws ps es qs) (dvD ws ps es qs) s).2=0 then rpF ws ps es qs (dvN ws ps es qs) (flR (dvN ws ps es qs) (dvD ws ps es qs) s).1 page else(0,(flR (dvN ws ps es qs) (dvD ws ps es qs) s).2):=by
 unfold rpR flR;rw[zry]
 by_cases c:65536<s.size
 ·rw[if_pos c,if_pos c];rfl
 ·rw[if_neg c,if_neg c]
  by_cases d:dvB ws ps es qs=true
  ·rw[if_pos d,if_pos d,<- (zen d).2.2.1,<- (zen d).2.2.2.1];rfl
  ·rw[if_neg d,if_neg d];rfl
theorem ybca{ws:List Int}{ps:List St}{es:List Int}{qs:List Se}{s:ByteArray}(h:(flR (dvN ws ps es qs) (dvD ws ps es qs) s).2=0):pmB ws ps=true/\zfp es qs=true/\zbg (dvN ws ps es qs) (dvD ws ps es qs)=true/\∃ i:Nat,i<16/\(flR (dvN ws ps es qs) (dvD ws ps es qs) s).1=(i:Int):=by
 obtain⟨hi,-,e⟩:=yafw h
 have d:dvB ws ps es qs=true:=by rw[<- zry];exact hi
 rw[e]at h ⊢;obtain⟨i,h16,ei,-⟩:=zgm (zbs.1 hi) h;exact⟨(zen d).1,(zen d).2.1,hi,i,h16,ei⟩
def Ino.fa(x:Ino)(i:Int):List Value:=[.I x.kind,.I x.size,.I x.links,.I x.m0,.I x.m1,.I x.m2,.I x.m3,.I x.m4,.I x.m5,.I x.m6,.I x.m7,.I i]
theorem Ino.faM(x:Ino)(i:Int)(m:Nat)(hm:m<8):(x.fa i)[3+m]?=some (.I (x.map.getD m 0)):=by
 rcases(show m=0\/m=1\/m=2\/m=3\/m=4\/m=5\/m=6\/m=7 by omega)with rfl|rfl|rfl|rfl|rfl|rfl|rfl|rfl<;>rfl
theorem zoz(v:Value)(ws:List Int)(ps:List St)(es:List Int)(qs:List Se)(s:ByteArray)(page:Int)(w:World)(h:RdDev w v ws ps es qs)(hw:ws.length<=1048576)(hp:ps.length<=1048576)(he:es.length<=1048576)(hq:qs.length<=1048576)(hT:TS w)(hE:ED w)(hF:FD w)(hN:NW w) :
  zC 25 #[v,.string s,.I page] w fun e w'=>e=.returned (.tuple #[.I (rpR ws ps es qs s page).1,.I (rpR ws ps es qs s page).2])/\zB w w':=by
 have LI:=zaa (fun w1 (hb:zB w w1)=>zik v ws ps es qs w1 (h.below hb) hw hp he hq (hT.below hb) (hE.below hb) (hF.below hb));have LF:=zaa (fun v2 w1 (hb:zB w w1) h2=>ztg v2 (dvN ws ps es qs) (dvD ws ps es qs) s page w1 h2 (zgv ws ps es qs).1 (zgv ws ps es qs).2 (hT.below hb) (hE.below hb) (hF.below hb) dv_R zld);have LV:=zaa (fun hP hB w1 (hb:zB w w1) z (hz:zer z=true)=>yaed v ws ps es qs z w1 (h.below hb) hP hB hz (hT.below hb) (hN.below hb));have EL:=zaa (yaxk (ws:=ws) (ps:=ps) (es:=es) (qs:=qs) (s:=s) (page:=page));have FL:=zaa (fun h=>ybca (ws:=ws) (ps:=ps) (es:=es) (qs:=qs) (s:=s) h)
 have EF:Hid (∀ i:Nat,∀ x,x=zan (dvN ws ps es qs) i->rpF ws ps es qs (dvN ws ps es qs) (i:Int) page=if 0<=page/\page<x.size then(pgV ws ps es qs (x.map.getD page.toNat 0),0) else(0,4)):=fun i x e=>by rw[e];rfl
 have OK:Hid (zbg (dvN ws ps es qs) (dvD ws ps es qs)=true->∀ i:Nat,i<16->∀ x,x=zan (dvN ws ps es qs) i->(0<=x.size/\x.size<=8)/\∀ j:Nat,j<8->zer (x.map.getD j 0)=true):=fun hi i h16 x e=>by
  have q:=(zbs.1 hi).ok i h16;rw[<- e]at q;refine⟨(zch q).2.1,fun j hj=>(zfs q).1 _ ?_⟩;rw[List.getD_eq_getElem?_getD,List.getElem?_eq_getElem (show j<x.map.length from hj)];exact List.getElem_mem _
 obtain⟨dW,eW,dP,eP,dS,eS,dQ,eQ,rfl,-,-⟩:=h.form;clear h hT hE hF hN
 obtain⟨W,hW⟩:=zE (w.alloc (.cells #[.slice dW ws.length eW,.slice dP ps.length eP,.slice dS es.length eS,.slice dQ qs.length eQ] 31))
 have CD:Hid (∀ w',zB W w'->w'.cell? ⟨w.heap.size,0,none⟩=some (.slice dW ws.length eW)/\w'.cell? ⟨w.heap.size,1,none⟩=some (.slice dP ps.length eP)/\w'.cell? ⟨w.heap.size,2,none⟩=some (.slice dS es.length eS)/\w'.cell? ⟨w.heap.size,3,none⟩=some (.slice dQ qs.length eQ)):=fun w' hb=>by
  have:w'.heap[w.heap.size]?=some (.cells #[.slice dW ws.length eW,.slice dP ps.length eP,.slice dS es.length eS,.slice dQ qs.length eQ] 31 (0,0)):=(hb.block _ (by rw[hW];simp)).trans (by rw[hW];exact zaf rfl);obtain⟨x0,x1,x2,x3,-,-,-,-⟩:=zaq this;exact⟨x0,x1,x2,x3⟩
 have BW:Hid (zB w W):=by rw[hW];exact zR.alloc zL _
 obtain⟨x0,x1,x2,x3⟩:=CD.o _ zR;generalize dvN ws ps es qs=dn at *;generalize dvD ws ps es qs=dd at *;generalize rpR ws ps es qs s page=res at *;generalize hfl:flR dn dd s=lr at *;obtain⟨li,lc⟩:=lr
 obtain⟨x,hx⟩:=zE (faI dn (li,lc))
 have LF2:=zaa (fun v2 w1 hb h2=>LF.o v2 w1 hb h2 x li lc hx rfl);have HX:=zaa hx;simp only at EL FL;clear LF hfl hx
 -- nothing is read: the code is told
 have FAIL:∀ c:Int,¬ c=0->res=(0,c)->FtIs x li lc (0<=page/\page<x.size) zbb 0 c->zC 25 #[.agg #[.slice dW ws.length eW,.slice dP ps.length eP,.slice dS es.length eS,.slice dQ qs.length eQ],.string s,.I page] w fun e w'=>e=.returned (.tuple #[.I res.1,.I res.2])/\zB w w':=by
  rintro c cn rfl hq;have LF3:=zaa (fun v2 w1 hb h2=>LF2.o v2 w1 hb h2 zbb 0 c hq)
  have q:(c != 0)=true:=by rw[bne_iff_ne];exact cn
  clear EL FL EF OK LV HX LF2 hq cn;go_enter Tryz.func25,Tryz.ntmps25;go_wp2_with fail;rw[<- hW];clear hW;refine(LI.o _ BW.o).mono ?_;rintro e w1 ⟨v1,rfl,hR,hb1⟩;have B1:=zaa (zab BW.o hb1 BW.o.size);have R1:=zaa hR.rd;clear hR hb1 x0 x1 x2 x3 LI;go_wp2_with fail;refine(LF3.o _ _ B1.o R1.o).mono ?_;rintro e w2 ⟨rfl,hb2⟩;have B2:=zaa (zab B1.o hb2 B1.o.size);have BX:=zaa (B2.o.alloc B2.o.size (.cells #[.I zbb.kind,.I zbb.size,.I zbb.links,.I zbb.m0,.I zbb.m1,.I zbb.m2,.I zbb.m3,.I zbb.m4,.I zbb.m5,.I zbb.m6,.I zbb.m7,.I 0] 95));clear hb2 B1 R1 LF3;go_wp2;go_ret2;exact⟨rfl,BX.o⟩
 by_cases cl:lc=0
 case neg=>exact FAIL lc cl (by rw[if_neg cl]at EL;exact EL.o) (.inl ⟨cl,rfl,rfl,rfl⟩)
 subst cl;rw[if_pos rfl]at EL;obtain⟨hP,hB,hi,i,i16,ei⟩:=FL.o rfl;have LV2:=zaa (LV.o hP hB);subst ei;have hx:x=zan dn i:=HX.o.trans ((if_pos rfl).trans (by simp only[Int.toNat_natCast]));obtain⟨⟨z0,z8⟩,ti⟩:=OK.o hi i i16 x hx;have TI:=zaa ti;rw[EF.o i x hx]at EL
 by_cases c:0<=page/\page<x.size
 case neg=>exact FAIL 4 (by decide) (by rw[if_neg c]at EL;exact EL.o) (.inr (.inl ⟨rfl,c,rfl,rfl,rfl⟩))
 clear FAIL FL OK EF LV HX hP hB hi ti hx;rw[if_pos c]at EL;have LF3:=zaa (fun v2 w1 hb h2=>LF2.o v2 w1 hb h2 x i 0 (.inr (.inr ⟨rfl,c,rfl,rfl,rfl⟩)));clear LF2;go_enter Tryz.func25,Tryz.ntmps25;go_wp2_with fail;rw[<- hW];clear hW;refine(LI.o _ BW.o).mono ?_;rintro e w1 ⟨v1,rfl,hR,hb1⟩;have A1:=zaa hb1;have B1:=zaa (zab BW.o hb1 BW.o.size);have R1:=zaa hR.rd;clear hR hb1 x0 x1 x2 x3 LI;go_wp2_with fail;refine(LF3.o _ _ B1.o R1.o).mono ?_;rintro e w2 ⟨rfl,hb2⟩;have A2:=zaa (zgu A1.o hb2);have B2:=zaa (zab B1.o hb2 B1.o.size);clear hb2 A1 B1 R1 LF3;have BX:=zaa (B2.o.alloc B2.o.size (.cells #[.I x.kind,.I x.size,.I x.links,.I x.m0,.I x.m1,.I x.m2,.I x.m3,.I x.m4,.I x.m5,.I x.m6,.I x.m7,.I (i:Int)] 95));have VX:Hid ((w2.alloc (.cells #[.I x.kind,.I x.size,.I x.links,.I x.m0,.I x.m1,.I x.m2,.I x.m3,.I x.m4,.I x.m5,.I x.m6,.I x.m7,.I (i:Int)] 95)).heap[w2.heap.size]?=some (.cells (x.fa (i:Int)).toArray 95 (0,0))):=zaf rfl;have AX:=zaa (A2.o.alloc A2.o.size (.cells #[.I x.kind,.I x.size,.I x.links,.I x.m0,.I x.m1,.I x.m2,.I x.m3,.I x.m4,.I x.m5,.I x.m6,.I x.m7,.I (i:Int)] 95))
 obtain⟨w3,hw3⟩:=zE (w2.alloc (.cells #[.I x.kind,.I x.size,.I x.links,.I x.m0,.I x.m1,.I x.m2,.I x.m3,.I x.m4,.I x.m5,.I x.m6,.I x.m7,.I (i:Int)] 95))
 rw[<- hw3]at VX AX BX;have hz3:w2.heap.size<w3.heap.size:=(Array.getElem?_eq_some_iff.1 VX.o).1
 have KS:Hid (∀ w',zB w3 w'->w'.cell? ⟨w2.heap.size,1,none⟩=some (.I x.size)):=fun w' hb=>(hb.cell (p:=⟨w2.heap.size,1,none⟩) hz3).trans (zag VX.o 1).1
 have KM:Hid (∀ w',zB w3 w'->∀ m,m<8->w'.cell? ⟨w2.heap.size,3+m,none⟩=some (.I (x.map.getD m 0))):=fun w' hb m hm=>((hb.cell (p:=⟨w2.heap.size,3+m,none⟩) hz3).trans (zag VX.o (3+m)).1).trans (x.faM _ m hm)
 have y1:=KS.o _ zR;clear VX A2 B2
 obtain⟨j,rfl⟩:∃ j:Nat,page=(j:Int):=⟨page.toNat,by omega⟩
 rw[Int.toNat_natCast]at EL
 have j8:j<8:=by omega
 have te:=zaa (TI.o j j8);have LV3:=zaa (fun w1 hb=>LV2.o w1 hb _ te.o)
 have j0:(0:Int)<=(j:Int):=by omega
 have j1:(j:Int)<8:=by omega
 have KE:Hid (∀ w',zB w3 w'->w'.cell? ⟨w.heap.size,0,none⟩=some (.slice dW ws.length eW)/\w'.cell? ⟨w.heap.size,1,none⟩=some (.slice dP ps.length eP)/\w'.cell? ⟨w.heap.size,2,none⟩=some (.slice dS es.length eS)/\w'.cell? ⟨w.heap.size,3,none⟩=some (.slice dQ qs.length eQ)/\w'.cell? ⟨w2.heap.size,3+j,none⟩=some (.I (x.map.getD j 0))):=fun w' hb=>by
  obtain⟨a0,a1,a2,a3⟩:=CD.o w' (zgu AX.o hb);exact⟨a0,a1,a2,a3,KM.o w' hb j j8⟩
 generalize x.map.getD j 0=pz at *;have B3r:=zaa (Below.refl w3.heap.size w3);obtain⟨r0,r1,r2,r3,r4⟩:=KE.o _ B3r.o;rw[hw3]at r0 r1 r2 r3 r4;go_wp2_with fail;rw[<- hw3]at r0 r1 r2 r3 r4 ⊢;clear hw3 c y1 KS KM TI te LV2 CD
 go_region_held3 (fun w'=>w'.cell? ⟨w.heap.size,0,none⟩=some (.slice dW ws.length eW)/\w'.cell? ⟨w.heap.size,1,none⟩=some (.slice dP ps.length eP)/\w'.cell? ⟨w.heap.size,2,none⟩=some (.slice dS es.length eS)/\w'.cell? ⟨w.heap.size,3,none⟩=some (.slice dQ qs.length eQ)/\w'.cell? ⟨w2.heap.size,3+j,none⟩=some (.I pz))
  (first | with_reducible exact KE.o _ A4.o | with_reducible exact KE.o _ B3r.o | with_reducible exact KE.o _ B3r.o.drew)
  (first
   | (go_at_call 67;refine(LV3.o _ (by first | with_reducible exact BX.o | with_reducible exact BX.o.drew)).mono ?_;rintro e w4 ⟨rfl,hb4⟩;have A4:=zaa (zdv hb4);clear hb4;obtain⟨t0,t1,t2,t3,t4⟩:=KE.o _ A4.o))
 all_goals
  have B4:=zaa (zab BX.o A4.o BX.o.size);obtain rfl:=EL.o;go_wp2;go_ret2;exact⟨rfl,B4.o⟩
theorem zkl(x:Ino)(i:Int)(sz:Int)(w:World)(hi:0<=i/\i<16) :
  zC 85 #[.agg #[.I x.kind,.I x.size,.I x.links,.I x.m0,.I x.m1,.I x.m2,.I x.m3,.I x.m4,.I x.m5,.I x.m6,.I x.m7,.I i],.I sz] w fun e w'=>e=.returned (.agg #[.I (48+12*i+1),.I sz])/\zB w w':=by
 have LU:=zaa (fun w1=>zdm i 1 sz w1 hi (by omega))
 obtain⟨W,hW⟩:=zE ((w.alloc (.cells #[.I x.kind,.I x.size,.I x.links,.I x.m0,.I x.m1,.I x.m2,.I x.m3,.I x.m4,.I x.m5,.I x.m6,.I x.m7,.I i] 95)).alloc (.cells #[.I 0,.I 0] 104))
 have hzW:W.heap.size=w.heap.size+1+1:=by rw[hW];simp
 have x11:((w.alloc (.cells #[.I x.kind,.I x.size,.I x.links,.I x.m0,.I x.m1,.I x.m2,.I x.m3,.I x.m4,.I x.m5,.I x.m6,.I x.m7,.I i] 95)).alloc (.cells #[.I 0,.I 0] 104)).cell? ⟨w.heap.size,11,none⟩=some (.I i):=(zag (xs:=x.fa i) (zal (zaf rfl)) 11).1
 have CR:Hid (∀ w',zB W w'->w'.heap[w.heap.size+1]?=some (.cells #[.I 0,.I 0] 104 (0,0))):=fun w' hb=>(hb.block _ (by omega)).trans (by
  rw[hW];have:=zaf (w:=w.alloc (.cells #[.I x.kind,.I x.size,.I x.links,.I x.m0,.I x.m1,.I x.m2,.I x.m3,.I x.m4,.I x.m5,.I x.m6,.I x.m7,.I i] 95)) (o:=.cells #[.I 0,.I 0] 104) rfl;rw[World.size_alloc]at this
  exact this)
 have BW:Hid (zB w W):=by rw[hW];exact(zR.alloc zL _).alloc (by simp) _
 clear hzW hi;go_enter Tryz.func85,Tryz.ntmps85;go_wp2_with fail;rw[<- hW];clear hW x11;refine(LU.o _).mono ?_;rintro e w1 ⟨rfl,hb1⟩;obtain⟨p0,p1,f0,f1⟩:=zac (CR.o _ hb1);have B1:=zaa (zab BW.o hb1 BW.o.size);clear hb1 CR;go_wp2;refine bodyPost_ret (v:=.agg #[.I (48+12*i+1),.I sz]) (by simp[results,Tryz.results85,go_sem,p0,p1]) rfl ⟨rfl,?_⟩
 repeat (first | with_reducible exact B1.o | refine Below.setCell ?_ (by simp only;omega) _)
theorem zkt(x:Ino)(i:Int)(page z:Int)(w:World)(hi:0<=i/\i<16)(hp:0<=page/\page<8) :
  zC 87 #[.agg #[.I x.kind,.I x.size,.I x.links,.I x.m0,.I x.m1,.I x.m2,.I x.m3,.I x.m4,.I x.m5,.I x.m6,.I x.m7,.I i],.I page,.I z] w fun e w'=>e=.returned (.agg #[.I (48+12*i+(3+page)),.I z])/\zB w w':=by
 have LU:=zaa (fun w1=>zdm i (3+page) z w1 hi (by omega))
 obtain⟨W,hW⟩:=zE ((w.alloc (.cells #[.I x.kind,.I x.size,.I x.links,.I x.m0,.I x.m1,.I x.m2,.I x.m3,.I x.m4,.I x.m5,.I x.m6,.I x.m7,.I i] 95)).alloc (.cells #[.I 0,.I 0] 104))
 have hzW:W.heap.size=w.heap.size+1+1:=by rw[hW];simp
 have x11:((w.alloc (.cells #[.I x.kind,.I x.size,.I x.links,.I x.m0,.I x.m1,.I x.m2,.I x.m3,.I x.m4,.I x.m5,.I x.m6,.I x.m7,.I i] 95)).alloc (.cells #[.I 0,.I 0] 104)).cell? ⟨w.heap.size,11,none⟩=some (.I i):=(zag (xs:=x.fa i) (zal (zaf rfl)) 11).1
 have CR:Hid (∀ w',zB W w'->w'.heap[w.heap.size+1]?=some (.cells #[.I 0,.I 0] 104 (0,0))):=fun w' hb=>(hb.block _ (by omega)).trans (by
  rw[hW];have:=zaf (w:=w.alloc (.cells #[.I x.kind,.I x.size,.I x.links,.I x.m0,.I x.m1,.I x.m2,.I x.m3,.I x.m4,.I x.m5,.I x.m6,.I x.m7,.I i] 95)) (o:=.cells #[.I 0,.I 0] 104) rfl;rw[World.size_alloc]at this
  exact this)
 have BW:Hid (zB w W):=by rw[hW];exact(zR.alloc zL _).alloc (by simp) _
 have wp3:IntKind.i64.wrap (3+page)=3+page:=by rw[IntKind.wrap_i64];omega
 clear hzW hi;go_enter Tryz.func87,Tryz.ntmps87;go_wp2_with fail;rw[<- hW];clear hW x11;refine(LU.o _).mono ?_;rintro e w1 ⟨rfl,hb1⟩;obtain⟨p0,p1,f0,f1⟩:=zac (CR.o _ hb1);have B1:=zaa (zab BW.o hb1 BW.o.size);clear hb1 CR;go_wp2;refine bodyPost_ret (v:=.agg #[.I (48+12*i+(3+page)),.I z]) (by simp[results,Tryz.results87,go_sem,p0,p1]) rfl ⟨rfl,?_⟩
 repeat (first | with_reducible exact B1.o | refine Below.setCell ?_ (by simp only;omega) _)
theorem zow(x:Ino)(i page e:Int)(w:World)(hi:0<=i/\i<16)(hp:0<=page/\page<8) :
  zC 129 #[.agg #[.I x.kind,.I x.size,.I x.links,.I x.m0,.I x.m1,.I x.m2,.I x.m3,.I x.m4,.I x.m5,.I x.m6,.I x.m7,.I i,.I page,.I e]] w fun r w'=>∃ v',r=.returned v'/\Row w' 104 2 w.heap.size w'.heap.size v' (wrU i page x.size e).length (ses (wrU i page x.size e))/\zB w w':=by
 have LP:=zaa (fun w1=>zkt x i page e w1 hi hp);have LS:=zaa (fun w1=>zkl x i (page+1) w1 hi);have EU:=zaa (show wrU i page x.size e=⟨48+12*i+(3+page),e⟩::(if x.size<=page then[⟨48+12*i+1,page+1⟩] else[])from rfl)
 have wp1:IntKind.i64.wrap (page+1)=page+1:=by rw[IntKind.wrap_i64];omega
 obtain⟨W,hW⟩:=zE (w.alloc (.cells #[.I x.kind,.I x.size,.I x.links,.I x.m0,.I x.m1,.I x.m2,.I x.m3,.I x.m4,.I x.m5,.I x.m6,.I x.m7,.I i,.I page,.I e] 178))
 have CA:Hid (∀ w',zB W w'->w'.cell? ⟨w.heap.size,0,none⟩=some (.I x.kind)/\w'.cell? ⟨w.heap.size,1,none⟩=some (.I x.size)/\w'.cell? ⟨w.heap.size,2,none⟩=some (.I x.links)/\w'.cell? ⟨w.heap.size,3,none⟩=some (.I x.m0)/\w'.cell? ⟨w.heap.size,4,none⟩=some (.I x.m1)/\w'.cell? ⟨w.heap.size,5,none⟩=some (.I x.m2)/\w'.cell? ⟨w.heap.size,6,none⟩=some (.I x.m3)/\w'.cell? ⟨w.heap.size,7,none⟩=some (.I x.m4)/\w'.cell? ⟨w.heap.size,8,none⟩=some (.I x.m5)/\w'.cell? ⟨w.heap.size,9,none⟩=some (.I x.m6)/\w'.cell? ⟨w.heap.size,10,none⟩=some (.I x.m7)/\w'.cell? ⟨w.heap.size,11,none⟩=some (.I i)/\w'.cell? ⟨w.heap.size,12,none⟩=some (.I page)/\w'.cell? ⟨w.heap.size,13,none⟩=some (.I e)):=fun w' hb=>by
  have q:w'.heap[w.heap.size]?=some (.cells ([.I x.kind,.I x.size,.I x.links,.I x.m0,.I x.m1,.I x.m2,.I x.m3,.I x.m4,.I x.m5,.I x.m6,.I x.m7,.I i,.I page,.I e]:List Value).toArray 178 (0,0)):=(hb.block _ (by rw[hW];simp)).trans (by rw[hW];exact zaf rfl);exact⟨(zag q 0).1,(zag q 1).1,(zag q 2).1,(zag q 3).1,(zag q 4).1,(zag q 5).1,(zag q 6).1,(zag q 7).1,(zag q 8).1,(zag q 9).1,(zag q 10).1,(zag q 11).1,(zag q 12).1,(zag q 13).1⟩
 have BW:Hid (zB w W):=by rw[hW];exact zR.alloc zL _
 obtain⟨k0,k1,k2,k3,k4,k5,k6,k7,k8,k9,k10,k11,k12,k13⟩:=CA.o _ zR;rw[hW]at k0 k1 k2 k3 k4 k5 k6 k7 k8 k9 k10 k11 k12 k13;generalize wrU i page x.size e=L at *;clear hi hp;go_enter Tryz.func129,Tryz.ntmps129;go_wp2_with fail;rw[<- hW];clear hW k0 k1 k2 k3 k4 k5 k6 k7 k8 k9 k10 k11 k12 k13;refine(LP.o _).mono ?_;rintro r w1 ⟨rfl,hb1⟩
 have ST:Hid (UpI W (w1.alloc (.cells #[.I (48+12*i+(3+page)),.I e] 104)) (.slice (some ⟨w1.heap.size,0,none⟩) 1 1) [⟨48+12*i+(3+page),e⟩]):=⟨World.ownsRow_lit w1 _ 1 hb1.size (by simp[maxLen]) rfl,hb1.alloc hb1.size _⟩
 have hz1:W.heap.size<=w1.heap.size:=hb1.size;clear hb1 LP;obtain⟨k0,k1,k2,k3,k4,k5,k6,k7,k8,k9,k10,k11,k12,k13⟩:=CA.o _ ST.o.b
 by_cases c:x.size<=page
 ·rw[if_pos c]at EU;obtain rfl:=EU.o;clear EU;go_wp2_with fail;refine(LS.o _).mono ?_;rintro r w2 ⟨rfl,hb2⟩;have JB:Hid (UpI W (w2.alloc (.cells #[.I (48+12*i+1),.I (page+1)] 104)) (.slice (some ⟨w1.heap.size,0,none⟩) 1 1) [⟨48+12*i+(3+page),e⟩]):=(ST.o.below hb2).below (zR.alloc zL _);have RB:=zaa (zhs w2 (48+12*i+1) (page+1));have hzb:=JB.o.z;clear hb2 ST k0 k1 k2 k3 k4 k5 k6 k7 k8 k9 k10 k11 k12 k13 CA LS;go_wp2_with (at_builtin;refine zae _ rfl (.tmp 19) (.tmp 26) 58 rfl W.heap.size 104 (.agg #[.I 0,.I 0]) 2 16 Tryz.underlying58 zgr rfl (by decide) _ _ _ rfl JB.o.l _ 1 _ rfl RB.o (zdi _) (by first | omega | (simp[maxLen];done) | (simp[maxLen];omega)) (by first | omega | (simp;done) | (simp;omega)) hzb ?_);intro vN wN hownN hgrN;have G:=zaa (JB.o.grow [⟨48+12*i+1,page+1⟩] hownN hgrN);have JW:=zaa (zab BW.o G.o.b BW.o.size);obtain⟨-,aN,cN,hvN,-⟩:=(zad G.o.l).rd;subst hvN;clear hownN hgrN JB RB;go_wp2;go_ret;exact⟨_,rfl,(zad G.o.l).wide BW.o.size zL,JW.o⟩
 ·rw[if_neg c]at EU;obtain rfl:=EU.o;have JW:=zaa (zab BW.o ST.o.b BW.o.size);clear EU;go_wp2;go_ret;exact⟨_,rfl,(zad ST.o.l).wide BW.o.size zL,JW.o⟩
theorem ztn(x:Ino)(i:Int)(n:Nat)(w:World)(hi:0<=i/\i<16)(hn:n<=8) :
  zC 40 #[.agg #[.I x.kind,.I x.size,.I x.links,.I x.m0,.I x.m1,.I x.m2,.I x.m3,.I x.m4,.I x.m5,.I x.m6,.I x.m7,.I i,.I (n:Int)]] w fun r w'=>∃ v',r=.returned v'/\Row w' 104 2 w.heap.size w'.heap.size v' (cuU x.map i n 8).length (ses (cuU x.map i n 8))/\zB w w':=by
 have LP:=zaa (fun(m:Nat) (hm:m<8) w1=>zkt x i (m:Int) 0 w1 hi (by omega));have LS:=zaa (fun w1=>zkl x i (n:Int) w1 hi)
 obtain⟨W,hW⟩:=zE (w.alloc (.cells #[.I x.kind,.I x.size,.I x.links,.I x.m0,.I x.m1,.I x.m2,.I x.m3,.I x.m4,.I x.m5,.I x.m6,.I x.m7,.I i,.I (n:Int)] 101))
 have CA:Hid (∀ w',zB W w'->w'.cell? ⟨w.heap.size,0,none⟩=some (.I x.kind)/\w'.cell? ⟨w.heap.size,1,none⟩=some (.I x.size)/\w'.cell? ⟨w.heap.size,2,none⟩=some (.I x.links)/\w'.cell? ⟨w.heap.size,3,none⟩=some (.I x.m0)/\w'.cell? ⟨w.heap.size,4,none⟩=some (.I x.m1)/\w'.cell? ⟨w.heap.size,5,none⟩=some (.I x.m2)/\w'.cell? ⟨w.heap.size,6,none⟩=some (.I x.m3)/\w'.cell? ⟨w.heap.size,7,none⟩=some (.I x.m4)/\w'.cell? ⟨w.heap.size,8,none⟩=some (.I x.m5)/\w'.cell? ⟨w.heap.size,9,none⟩=some (.I x.m6)/\w'.cell? ⟨w.heap.size,10,none⟩=some (.I x.m7)/\w'.cell? ⟨w.heap.size,11,none⟩=some (.I i)/\w'.cell? ⟨w.heap.size,12,none⟩=some (.I (n:Int))):=fun w' hb=>by
  have q:w'.heap[w.heap.size]?=some (.cells ([.I x.kind,.I x.size,.I x.links,.I x.m0,.I x.m1,.I x.m2,.I x.m3,.I x.m4,.I x.m5,.I x.m6,.I x.m7,.I i,.I (n:Int)]:List Value).toArray 101 (0,0)):=(hb.block _ (by rw[hW];simp)).trans (by rw[hW];exact zaf rfl);exact⟨(zag q 0).1,(zag q 1).1,(zag q 2).1,(zag q 3).1,(zag q 4).1,(zag q 5).1,(zag q 6).1,(zag q 7).1,(zag q 8).1,(zag q 9).1,(zag q 10).1,(zag q 11).1,(zag q 12).1⟩
 have CM:Hid (∀ w',zB W w'->∀ m,m<8->w'.cell? ⟨w.heap.size,3+m,none⟩=some (.I (x.map.getD m 0))):=fun w' hb m hm=>by
  have q:w'.heap[w.heap.size]?=some (.cells ([.I x.kind,.I x.size,.I x.links,.I x.m0,.I x.m1,.I x.m2,.I x.m3,.I x.m4,.I x.m5,.I x.m6,.I x.m7,.I i,.I (n:Int)]:List Value).toArray 101 (0,0)):=(hb.block _ (by rw[hW];simp)).trans (by rw[hW];exact zaf rfl);refine(zag q (3+m)).1.trans ?_
  rcases(show m=0\/m=1\/m=2\/m=3\/m=4\/m=5\/m=6\/m=7 by omega)with rfl|rfl|rfl|rfl|rfl|rfl|rfl|rfl<;>rfl
 have BW:Hid (zB w W):=by rw[hW];exact zR.alloc zL _
 obtain⟨k0,k1,k2,k3,k4,k5,k6,k7,k8,k9,k10,k11,k12⟩:=CA.o _ zR;rw[hW]at k0 k1 k2 k3 k4 k5 k6 k7 k8 k9 k10 k11 k12;clear hi;go_enter Tryz.func40,Tryz.ntmps40;go_wp2_with fail;rw[<- hW];clear hW k0 k1 k2 k3 k4 k5 k6 k7 k8 k9 k10 k11 k12;refine(LS.o _).mono ?_;rintro r w1 ⟨rfl,hb1⟩
 have ST:Hid (UpI W (w1.alloc (.cells #[.I (48+12*i+1),.I (n:Int)] 104)) (.slice (some ⟨w1.heap.size,0,none⟩) 1 1) (cuU x.map i n n)):=by
  unfold Hid cuU;rw[zye];exact⟨World.ownsRow_lit w1 _ 1 hb1.size (by simp[maxLen]) rfl,hb1.alloc hb1.size _⟩
 clear hb1 LS;have k12:=(CA.o _ ST.o.b).2.2.2.2.2.2.2.2.2.2.2.2;go_wp2_with fail;clear k12
 go_loopw [3,4] (fun vL k wr=>∃ m:Nat,n<=m/\m<=8/\k=.I (m:Int)/\Hid (UpI W wr vL (cuU x.map i n m))) (fun _ k _=>8-(intOf k).toNat)
 case atStart=>exact⟨n,Nat.le_refl _,hn,rfl,ST⟩
 case round =>
  obtain⟨m,hm,hm8,rfl,J⟩:=hrel;clear ST;have JW:=zaa (zab BW.o J.o.b BW.o.size)
  have m0:(0:Int)<=(m:Int):=by omega
  by_cases hlt:m<8
  ·have m1:(m:Int)<8:=by omega
   have e0:=CM.o wr J.o.b m hlt;have YES:=zaa (fun e=>yaqs (zs:=x.map) (i:=i) (n:=n) (k:=m) hm e);have NO:=zaa (fun e=>yawv (zs:=x.map) (i:=i) (n:=n) (k:=m) e);have LP2:=zaa (LP.o m hlt)
   have hlen:(cuU x.map i n m).length<=9:=by
    have:=zvk x.map i n m
    show(cuT x.map i n m).length+1<=9
    omega
   generalize x.map.getD m 0=z at e0 YES NO
   by_cases q:z=0
   ·have q':(z == 0)=true:=by rw[q];rfl
    have G:Hid (UpI W wr u3 (cuU x.map i n (m+1))):=by
     unfold Hid cuU;rw[NO.o q];exact J.o
    clear q J YES NO;go_wp2_with fail;refine(zfv _ _).mono ?_;rintro r w' ⟨rfl,hw'⟩;subst w';go_wp2
    go_roundw
    case rel=>exact⟨m+1,by omega,by omega,by go_num,G⟩
    case measure=>simp[intOf];omega
   ·have q':(z == 0)=false:=by rw[beq_eq_false_iff_ne];exact q
    obtain⟨k0,k1,k2,k3,k4,k5,k6,k7,k8,k9,k10,k11,k12⟩:=CA.o _ J.o.b
    have MN:Hid (cuU x.map i n (m+1)=cuU x.map i n m++[⟨48+12*i+(3+(m:Int)),0⟩]):=by
     unfold Hid cuU;rw[YES.o q];rfl
    clear q YES NO;go_wp2_with fail;refine(zfv _ _).mono ?_;rintro r w' ⟨rfl,hw'⟩;subst w';go_wp2_with fail;refine(LP2.o _).mono ?_;rintro r w2 ⟨rfl,hb2⟩;have JB:Hid (UpI W (w2.alloc (.cells #[.I (48+12*i+(3+(m:Int))),.I 0] 104)) u3 (cuU x.map i n m)):=(J.o.below hb2).below (zR.alloc zL _);have RB:=zaa (zhs w2 (48+12*i+(3+(m:Int))) 0);have hzb:=JB.o.z;clear hb2 J k0 k1 k2 k3 k4 k5 k6 k7 k8 k9 k10 k11 k12 e0;go_wp2_with (at_builtin;refine zae _ rfl (.tmp 25) (.tmp 30) 58 rfl W.heap.size 104 (.agg #[.I 0,.I 0]) 2 16 Tryz.underlying58 zgr rfl (by decide) _ _ _ rfl JB.o.l _ 1 _ rfl RB.o (zdi _) (by first | omega | (simp[maxLen];omega)) (by first | omega | (simp;omega)) hzb ?_);intro vN wN hownN hgrN;have G:=zaa (JB.o.grow [⟨48+12*i+(3+(m:Int)),0⟩] hownN hgrN);rw[<- MN.o]at G;clear hownN hgrN JB RB;go_wp2
    go_roundw
    case rel=>exact⟨m+1,by omega,by omega,by go_num,G⟩
    case measure=>simp[intOf];omega
  ·obtain rfl:m=8:=by omega
   obtain⟨-,aN,cN,hvN,-⟩:=(zad J.o.l).rd;subst hvN;go_wp2;go_ret;exact⟨_,rfl,(zad J.o.l).wide BW.o.size zL,JW.o⟩
theorem yaxq{ns:List Ino}{ds:List Den}{s:ByteArray}{size:Int}:cuR ns ds s size=if (flR ns ds s).2=0 then cuF ns (flR ns ds s).1 size else([],(flR ns ds s).2):=by
 unfold cuR flR
 by_cases c:65536<s.size
 ·rw[if_pos c,if_pos c];rfl
 ·rw[if_neg c,if_neg c]
  by_cases d:zbg ns ds=true
  ·rw[if_pos d,if_pos d];rfl
  ·rw[if_neg d,if_neg d];rfl
theorem zrx(v:Value)(ns:List Ino)(ds:List Den)(s:ByteArray)(size:Int)(w:World)(h:RdIm w v ns ds)(hw:ns.length<=1048576)(hp:ds.length<=1048576)(hT:TS w)(hE:ED w)(hF:FD w)(hr:∀ k (h:k<ns.length),ns[k].R)(hs:∀ k (h:k<ds.length),ds[k].name.size<=maxLen) :
  zC 16 #[v,.string s,.I size] w fun e w'=>zgh w w' e (cuR ns ds s size):=by
 have LF:=zaa (fun w1 (hb:zB w w1)=>zjh v ns ds s w1 (h.below hb) hw hp (hT.below hb) (hE.below hb) (hF.below hb) hr hs);have EL:=zaa (yaxq (ns:=ns) (ds:=ds) (s:=s) (size:=size))
 have FL:Hid ((flR ns ds s).2=0->∃ i:Nat,i<16/\(flR ns ds s).1=(i:Int)):=fun c=>by
  obtain⟨hi,-,e⟩:=yafw c;rw[e]at c ⊢;obtain⟨i,h16,ei,-⟩:=zgm (zbs.1 hi) c;exact⟨i,h16,ei⟩
 have EF:Hid (∀ i:Nat,∀ x,x=zan ns i->cuF ns (i:Int) size=if 0<=size/\size<=8 then(cuU x.map (i:Int) size.toNat 8,0) else([],4)):=fun i x e=>by rw[e];rfl
 obtain⟨vW,vP,rfl,h1,h2⟩:=h;obtain⟨aW,cW,rfl,_,_⟩:=h1.shape;obtain⟨aP,cP,rfl,_,_⟩:=h2.shape;clear h1 h2 hr hs hT hE hF
 obtain⟨W,hW⟩:=zE (w.alloc (.cells #[.slice aW ns.length cW,.slice aP ds.length cP] 51))
 obtain⟨x0,x1,_,_⟩:=zac (zaf (w:=w) (o:=.cells #[.slice aW ns.length cW,.slice aP ds.length cP] 51) rfl)
 have BW:Hid (zB w W):=by rw[hW];exact zR.alloc zL _
 generalize cuR ns ds s size=res at *;generalize flR ns ds s=lr at *;obtain⟨li,lc⟩:=lr
 obtain⟨x,hx⟩:=zE (faI ns (li,lc))
 have LF2:=zaa (fun w1 hb=>LF.o w1 hb x hx);have HX:=zaa hx;simp only at EL FL LF2;clear LF hx;go_enter Tryz.func16,Tryz.ntmps16;go_wp2_with fail;rw[<- hW];clear hW x0 x1;refine(LF2.o _ BW.o).mono ?_;rintro e w2 ⟨rfl,hb2⟩;have B2:=zaa (zab BW.o hb2 BW.o.size);clear hb2 LF2;have BX:=zaa (B2.o.alloc B2.o.size (.cells #[.I x.kind,.I x.size,.I x.links,.I x.m0,.I x.m1,.I x.m2,.I x.m3,.I x.m4,.I x.m5,.I x.m6,.I x.m7,.I li] 95))
 by_cases c:lc=0
 case neg =>
  rw[if_neg c]at EL;obtain rfl:=EL.o
  have q:(lc != 0)=true:=by rw[bne_iff_ne];exact c
  clear EL c FL EF HX;go_wp2;go_ret2;exact zcu BX.o
 subst c;rw[if_pos rfl]at EL;obtain⟨i,i16,ei⟩:=FL.o rfl;subst ei;have hx:x=zan ns i:=HX.o.trans ((if_pos rfl).trans (by simp only[Int.toNat_natCast]));rw[EF.o i x hx]at EL;clear FL EF HX hx;have VX:Hid ((w2.alloc (.cells #[.I x.kind,.I x.size,.I x.links,.I x.m0,.I x.m1,.I x.m2,.I x.m3,.I x.m4,.I x.m5,.I x.m6,.I x.m7,.I (i:Int)] 95)).heap[w2.heap.size]?=some (.cells (x.fa (i:Int)).toArray 95 (0,0))):=zaf rfl
 obtain⟨w3,hw3⟩:=zE (w2.alloc (.cells #[.I x.kind,.I x.size,.I x.links,.I x.m0,.I x.m1,.I x.m2,.I x.m3,.I x.m4,.I x.m5,.I x.m6,.I x.m7,.I (i:Int)] 95))
 rw[<- hw3]at VX BX
 by_cases c:0<=size/\size<=8
 case neg =>
  rw[if_neg c]at EL;obtain rfl:=EL.o;clear EL VX;go_wp2_with fail;rw[<- hw3];refine(zbv _ _ _ (by omega)).mono ?_;rintro e w' ⟨rfl,hw'⟩;subst w';clear hw3;go_wp2;go_ret2;exact zcu BX.o
 rw[if_pos c]at EL
 obtain⟨n,rfl⟩:∃ n:Nat,size=(n:Int):=⟨size.toNat,by omega⟩
 rw[Int.toNat_natCast]at EL;have LC:=zaa (fun w1=>ztn x (i:Int) n w1 (by omega) (by omega))
 have KE:w3.cell? ⟨w2.heap.size,0,none⟩=some (.I x.kind)/\w3.cell? ⟨w2.heap.size,1,none⟩=some (.I x.size)/\w3.cell? ⟨w2.heap.size,2,none⟩=some (.I x.links)/\w3.cell? ⟨w2.heap.size,3,none⟩=some (.I x.m0)/\w3.cell? ⟨w2.heap.size,4,none⟩=some (.I x.m1)/\w3.cell? ⟨w2.heap.size,5,none⟩=some (.I x.m2)/\w3.cell? ⟨w2.heap.size,6,none⟩=some (.I x.m3)/\w3.cell? ⟨w2.heap.size,7,none⟩=some (.I x.m4)/\w3.cell? ⟨w2.heap.size,8,none⟩=some (.I x.m5)/\w3.cell? ⟨w2.heap.size,9,none⟩=some (.I x.m6)/\w3.cell? ⟨w2.heap.size,10,none⟩=some (.I x.m7)/\w3.cell? ⟨w2.heap.size,11,none⟩=some (.I (i:Int)):=⟨(zag VX.o 0).1,(zag VX.o 1).1,(zag VX.o 2).1,(zag VX.o 3).1,(zag VX.o 4).1,(zag VX.o 5).1,(zag VX.o 6).1,(zag VX.o 7).1,(zag VX.o 8).1,(zag VX.o 9).1,(zag VX.o 10).1,(zag VX.o 11).1⟩
 obtain⟨k0,k1,k2,k3,k4,k5,k6,k7,k8,k9,k10,k11⟩:=KE;go_wp2_with fail;rw[<- hw3];refine(zav _ _ _ (by omega)).mono ?_;rintro e w' ⟨rfl,hw'⟩;subst w';clear hw3 c VX;go_wp2_with fail;refine(LC.o _).mono ?_;rintro e w4 ⟨v4,rfl,hr4,hb4⟩;have B4:=zaa (zab BX.o hb4 BX.o.size);have R4:=zaa (hr4.wide (lo':=w.heap.size) (hi':=w4.heap.size) BX.o.size zL);obtain⟨-,a4,c4,hv4,-⟩:=hr4.rd;subst hv4;clear hr4 hb4 k0 k1 k2 k3 k4 k5 k6 k7 k8 k9 k10 k11;obtain rfl:=EL.o;go_wp2;go_ret2;exact⟨_,rfl,R4.o,B4.o⟩
end Go.Proofs.YtogcbbkhnpmgeaaGreatDoor
