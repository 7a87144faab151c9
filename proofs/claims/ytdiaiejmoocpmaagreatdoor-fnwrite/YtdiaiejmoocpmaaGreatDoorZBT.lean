import Derived.Test.YtdiaiejmoocpmaaGreatDoorZBS
set_option maxRecDepth 100000
set_option maxHeartbeats 8000000
namespace Go.Proofs.YtdiaiejmoocpmaaGreatDoor
open Go.RowKit
theorem zks(at_:Int):∀ (ps:List Se) (s:Se) (mo:Int),(ps.length:Int)<=mo->((∀ p∈ps,¬ p.at_=at_)/\(ps.foldl (zms at_) (s,mo)).1=s)\/((ps.foldl (zms at_) (s,mo)).1.at_=at_/\∀ d,zhn at_ d ps=(ps.foldl (zms at_) (s,mo)).1.val)
 | [],s,mo,_=>.inl ⟨by simp,rfl⟩
 | p::ps,s,mo,h=>by
  have h':(ps.length:Int)+1<=mo:=by simpa using h
  by_cases c:p.at_=at_
  ·have e:zms at_ (s,mo) p=(p,mo-1):=if_pos ⟨c,by show 0<mo;omega⟩;rw[List.foldl_cons,e]
   rcases zks at_ ps p (mo-1) (by omega)with ⟨h1,h2⟩ | ⟨h1,h2⟩
   ·right;rw[h2];refine⟨c,fun d=>?_⟩
    show zhn at_ (if p.at_=at_ then p.val else d) ps=p.val
    rw[if_pos c];exact zhd h1
   ·exact .inr ⟨h1,fun d=>h2 _⟩
  ·have e:zms at_ (s,mo) p=(s,mo):=if_neg (fun x=>c x.1);rw[List.foldl_cons,e]
   rcases zks at_ ps s mo (by omega)with ⟨h1,h2⟩ | ⟨h1,h2⟩
   ·left;refine⟨fun q hq=>?_,h2⟩
    rcases List.mem_cons.1 hq with rfl | hq
    ·exact c
    ·exact h1 q hq
   ·exact .inr ⟨h1,fun d=>h2 _⟩
theorem yahn{at_:Int}{ps:List Se}(h:ps.length<=400):((∀ p∈ps,¬ p.at_=at_)/\zym at_ 400 ps=⟨-1,0⟩)\/((zym at_ 400 ps).at_=at_/\∀ d,zhn at_ d ps=(zym at_ 400 ps).val) :=
 zks at_ ps ⟨-1,0⟩ 400 (by omega)
theorem zsc(v:Value)(ws:List Int)(ps:List Se)(at_:Int)(w:World)(h:RdBlk w v ws ps)(hG:NW w)(hw:ws.length<=1048576)(hp:ps.length<=1048576) :
  zC 83 #[v,.I at_] w fun e w'=>e=.returned (.tuple #[.I (yabl ws ps at_),.I (zmh ws ps at_)])/\zB w w':=by
 have HR:=zaa h;obtain⟨vW,vP,rfl,h1,h2⟩:=h;have H2:=zaa h2;obtain⟨aW,cW,rfl,_,hcW⟩:=h1.shape;obtain⟨aP,cP,rfl,_⟩:=h2.shape;clear h1 h2;have hb0:zB w (w.alloc (.cells #[.slice aW ws.length cW,.slice aP ps.length cP] 29)):=zR.alloc zL _
 rcases zug ws ps at_ with hc | ⟨hc,hok,k,rfl,hk,hkl⟩
 ·have hne:(zmh ws ps at_ != 0)=true:=by rcases hc with hc | hc<;>simp[hc]
  have E:=zaa (yajb (ws:=ws) (ps:=ps) (at_:=at_) (by rcases hc with hc | hc<;>simp[hc]));clear hc hcW;go_enter Tryz.func83,Tryz.ntmps83;go_wp2_with (go_at_call 124;refine(zda _ ws ps _ _ (HR.o.below hb0) hw hp).mono ?_;rintro e w1 ⟨rfl,hb1⟩);go_ret2;exact⟨zdf E.o.symm rfl,zab hb0 hb1 (by simp)⟩
 ·have E:=zaa (yasf hc hkl);have C:=zaa hc;obtain⟨bW,oW,rfl,hbW,hcellW⟩:=hcW (by omega);have hcw:=zaa (hcellW k hkl);have LF:=zaa (yahn (at_:=(k:Int)) (ps:=ps) (zcj hok).2);clear hc hcW hcellW;go_enter Tryz.func83,Tryz.ntmps83;go_wp2_with fail;refine(zda _ ws ps _ _ (HR.o.below hb0) hw hp).mono ?_;rw[C.o];rintro e w1 ⟨rfl,hb1⟩;have V1:=(hb1.block w.heap.size (by simp)).trans (zaf rfl);obtain⟨x1,x2,_,_⟩:=zac V1;have B1:=zaa (zab hb0 hb1 (by simp))
  have hz1:w.heap.size+1<=w1.heap.size:=by have:=hb1.size;simp at this;omega
  have VH:=zaa V1;have G1:=zaa (hG.below B1.o);clear V1 hb1 hb0;go_wp2_with fail;refine(zut _ ps _ _ _ (Rd.below H2.o B1.o) G1.o hp (by omega) (by omega)).mono ?_
  rcases LF.o with ⟨hn,hl⟩ | ⟨ha,hl⟩
  ·rw[hl];rintro e w2 ⟨rfl,hb2⟩;have hz2:=hb2.size;have B2:=zaa (zab B1.o hb2 (by omega))
   have hb3:=zab B1.o hb2 (by omega) |>.alloc (by omega) (.cells #[.I (-1),.I 0] 153)
   obtain⟨g0,g1⟩:=((G1.o.below hb2).below (zR.alloc zL (.cells #[.I (-1),.I 0] 153))).cells;obtain⟨x1',x2',_,_⟩:=zac (zaj (o:=.cells #[.I (-1),.I 0] 153) ((hb2.block w.heap.size (by omega)).trans VH.o));have hcw1:=(hb3.cell (p:=⟨bW,oW+k,none⟩) hbW).trans hcw.o;have B3:=zaa hb3;have E2:=zaa (zhd (d:=ws[k]) hn);clear hb2 hb3 hn hl x1 x2;go_wp2;go_ret2;exact⟨zdf (E.o.trans E2.o).symm C.o.symm,B3.o⟩
  ·rw[ha];rintro e w2 ⟨rfl,hb2⟩;have hz2:=hb2.size
   have hb3:=zab B1.o hb2 (by omega) |>.alloc (by omega) (.cells #[.I (k:Int),.I (zym (k:Int) 400 ps).val] 153)
   obtain⟨g0,g1⟩:=((G1.o.below hb2).below (zR.alloc zL (.cells #[.I (k:Int),.I (zym (k:Int) 400 ps).val] 153))).cells;have B3:=zaa hb3;have E2:=zaa (hl ws[k])
   have kn:((k:Int) == -1)=false:=by first | (simp;done) | (simp;omega)
   clear hb2 hb3 ha hl x1 x2;generalize (zym (k:Int) 400 ps).val=y at *;go_wp2;go_ret2;exact⟨zdf (E.o.trans E2.o).symm C.o.symm,B3.o⟩
theorem yaaa{ws:List Int}{ps:List St}(h:pmB ws ps=true){k:Nat}(hk:k<24):yabp ws ps (312+(k:Int))=ldW ws ps (312+k)/\zij ws ps (312+(k:Int))=0:=by
 have p:zbn (312+(k:Int))=true:=decide_eq_true (by omega)
 have a:zij ws ps (312+(k:Int))=0:=by unfold zij;rw[h,p];rfl
 refine⟨?_,a⟩;unfold yabp ldW;rw[if_pos a,show(312+(k:Int)).toNat=312+k by omega,show((312+k:Nat):Int)=312+(k:Int) by omega]
theorem yaak{es:List Int}{qs:List Se}(h:zdk es qs=true){k:Nat}(hk:k<32):yabl es qs (k:Int)=zhn (k:Int) (es[k]?.getD 0) qs/\zmh es qs (k:Int)=0:=by
 have p:zmm (k:Int)=true:=decide_eq_true (by omega)
 have a:zmh es qs (k:Int)=0:=by unfold zmh;rw[h,p];rfl
 refine⟨?_,a⟩;unfold yabl;rw[if_pos a,Int.toNat_natCast]
theorem zqm(v:Value)(ws:List Int)(ps:List St)(es:List Int)(qs:List Se)(e:Int)(w:World)(h:RdDev w v ws ps es qs)(hP:pmB ws ps=true)(hB:zdk es qs=true)(te:zeo e=true)(hT:TS w)(hN:NW w) :
  zC 35 #[v,.I e] w fun r w'=>r=.returned (.I (pgV ws ps es qs e))/\zB w w':=by
 obtain⟨aW,cW,aP,cP,aS,cS,aQ,cQ,rfl,h1,h2⟩:=h.form
 have te':0<=e/\((e%4=0/\e/4=0)\/(e%4=1/\0<=e/4/\e/4<24)\/(e%4=2/\0<=e/4/\e/4<32)):=by
  unfold zeo zfb at te;rw[Bool.and_eq_true,decide_eq_true_eq,decide_eq_true_eq]at te;exact te
 have wl:=zfh hP;have el:=zcj hB;have BW:Hid (zB w (w.alloc (.cells #[.slice aW ws.length cW,.slice aP ps.length cP,.slice aS es.length cS,.slice aQ qs.length cQ] 31))):=zR.alloc zL _
 have LT:Hid (∀ w1,zB w w1->zC 81 #[.I e] w1 fun r w'=>r=.returned (.tuple #[.I (e%4),.I (e/4),.I 0])/\w'=w1):=fun w1 hb=>by
  have q:=zfi e w1 (hT.below hb) (by omega) (by omega);rw[(zun te).1,(zun te).2.1,(zun te).2.2]at q;exact q
 have EV:=zaa (show pgV ws ps es qs e=if e%4=1 then ldW ws ps (312+e/4).toNat else if e%4=2 then zhn (e/4) (es[(e/4).toNat]?.getD 0) qs else 0 from rfl)
 have L1:Hid (∀ (k:Nat),k<24->∀ w1,zB w w1->zC 82 #[.agg #[.slice aW ws.length cW,.slice aP ps.length cP],.I (312+(k:Int))] w1 fun r w'=>r=.returned (.tuple #[.I (ldW ws ps (312+k)),.I 0])/\zB w1 w'):=fun k hk w1 hb=>by
  have:=ztn _ ws ps (312+(k:Int)) w1 (h1.below hb) (by omega) (by omega);rw[(yaaa hP hk).1,(yaaa hP hk).2]at this;exact this
 have L2:Hid (∀ (k:Nat),k<32->∀ w1,zB w w1->zC 83 #[.agg #[.slice aS es.length cS,.slice aQ qs.length cQ],.I (k:Int)] w1 fun r w'=>r=.returned (.tuple #[.I (zhn (k:Int) (es[k]?.getD 0) qs),.I 0])/\zB w1 w'):=fun k hk w1 hb=>by
  have:=zsc _ es qs (k:Int) w1 (h2.below hb) (hN.below hb) (by omega) (by omega);rw[(yaak hB hk).1,(yaak hB hk).2]at this;exact this
 clear h h1 h2 te hP hB wl el hT hN;generalize pgV ws ps es qs e=r at *;generalize e%4=t at *;generalize e/4=a at *
 rcases te'.2 with ⟨rfl,rfl⟩ | ⟨rfl,a0,a1⟩ | ⟨rfl,a0,a1⟩
 ·rw[if_neg (by omega),if_neg (by omega)]at EV;obtain rfl:=EV.o;clear te' L1 L2 EV;go_enter Tryz.func35,Tryz.ntmps35;go_wp2_with fail;refine(LT.o _ BW.o).mono ?_;rintro r w1 ⟨rfl,hw1⟩;subst w1;go_wp2;go_ret;exact⟨rfl,BW.o⟩
 ·obtain⟨k,rfl⟩:∃ k:Nat,a=(k:Int):=⟨a.toNat,by omega⟩
  rw[if_pos rfl,show(312+(k:Int)).toNat=312+k by omega]at EV;obtain rfl:=EV.o
  have k24:k<24:=by omega
  have Q:=zaa (L1.o k k24);clear te' L1 L2 EV a0 a1;go_enter Tryz.func35,Tryz.ntmps35;go_wp2_with fail;refine(LT.o _ BW.o).mono ?_;rintro r w1 ⟨rfl,hw1⟩;subst w1;go_wp2_with fail;refine(Q.o _ BW.o).mono ?_;rintro r w2 ⟨rfl,hb2⟩;have B2:=zaa (zab BW.o hb2 BW.o.size);clear hb2;go_wp2;go_ret;exact⟨rfl,B2.o⟩
 ·obtain⟨k,rfl⟩:∃ k:Nat,a=(k:Int):=⟨a.toNat,by omega⟩
  rw[if_neg (by omega),if_pos rfl,Int.toNat_natCast]at EV;obtain rfl:=EV.o
  have k32:k<32:=by omega
  have Q:=zaa (L2.o k k32);clear te' L1 L2 EV a0 a1;go_enter Tryz.func35,Tryz.ntmps35;go_wp2_with fail;refine(LT.o _ BW.o).mono ?_;rintro r w1 ⟨rfl,hw1⟩;subst w1;go_wp2_with fail;refine(Q.o _ BW.o).mono ?_;rintro r w2 ⟨rfl,hb2⟩;have B2:=zaa (zab BW.o hb2 BW.o.size);clear hb2;go_wp2;go_ret;exact⟨rfl,B2.o⟩
theorem yawt{ws:List Int}{ps:List St}{es:List Int}{qs:List Se}{s:ByteArray}{page:Int}:rpR ws ps es qs s page=if (flR (dvN ws ps es qs) (dvD ws ps es qs) s).2=0 then rpF ws ps es qs (dvN ws ps es qs) (flR (dvN ws ps es qs) (dvD ws ps es qs) s).1 page else(0,(flR (dvN ws ps es qs) (dvD ws ps es qs) s).2):=by
 unfold rpR flR;rw[yafz]
 by_cases c:65536<s.size
 ·rw[if_pos c,if_pos c];rfl
 ·rw[if_neg c,if_neg c]
  by_cases d:dvB ws ps es qs=true
  ·rw[if_pos d,if_pos d,<- (zfp d).2.2.1,<- (zfp d).2.2.2.1];rfl
  ·rw[if_neg d,if_neg d];rfl
theorem yawn{ws:List Int}{ps:List St}{es:List Int}{qs:List Se}{s:ByteArray}(h:(flR (dvN ws ps es qs) (dvD ws ps es qs) s).2=0):pmB ws ps=true/\zdk es qs=true/\zck (dvN ws ps es qs) (dvD ws ps es qs)=true/\∃ i:Nat,i<16/\(flR (dvN ws ps es qs) (dvD ws ps es qs) s).1=(i:Int):=by
 obtain⟨hi,-,e⟩:=yauf h
 have d:dvB ws ps es qs=true:=by rw[<- yafz];exact hi
 rw[e]at h ⊢;obtain⟨i,h16,ei,-⟩:=zgl (zbu.1 hi) h;exact⟨(zfp d).1,(zfp d).2.1,hi,i,h16,ei⟩
def Ino.fa(x:Ino)(i:Int):List Value:=[.I x.kind,.I x.size,.I x.links,.I x.m0,.I x.m1,.I x.m2,.I x.m3,.I x.m4,.I x.m5,.I x.m6,.I x.m7,.I i]
theorem Ino.faM(x:Ino)(i:Int)(m:Nat)(hm:m<8):(x.fa i)[3+m]?=some (.I (x.map.getD m 0)):=by
 rcases(show m=0\/m=1\/m=2\/m=3\/m=4\/m=5\/m=6\/m=7 by omega)with rfl|rfl|rfl|rfl|rfl|rfl|rfl|rfl<;>rfl
theorem zii(v:Value)(ws:List Int)(ps:List St)(es:List Int)(qs:List Se)(s:ByteArray)(page:Int)(w:World)(h:RdDev w v ws ps es qs)(hw:ws.length<=1048576)(hp:ps.length<=1048576)(he:es.length<=1048576)(hq:qs.length<=1048576)(hT:TS w)(hE:ED w)(hF:FD w)(hN:NW w) :
  zC 13 #[v,.string s,.I page] w fun e w'=>e=.returned (.tuple #[.I (rpR ws ps es qs s page).1,.I (rpR ws ps es qs s page).2])/\zB w w':=by
 have LI:=zaa (fun w1 (hb:zB w w1)=>zia v ws ps es qs w1 (h.below hb) hw hp he hq (hT.below hb) (hE.below hb) (hF.below hb));have LF:=zaa (fun v2 w1 (hb:zB w w1) h2=>zth v2 (dvN ws ps es qs) (dvD ws ps es qs) s page w1 h2 (zoi ws ps es qs).1 (zoi ws ps es qs).2 (hT.below hb) (hE.below hb) (hF.below hb) dv_R zwx);have LV:=zaa (fun hP hB w1 (hb:zB w w1) z (hz:zeo z=true)=>zqm v ws ps es qs z w1 (h.below hb) hP hB hz (hT.below hb) (hN.below hb));have EL:=zaa (yawt (ws:=ws) (ps:=ps) (es:=es) (qs:=qs) (s:=s) (page:=page));have FL:=zaa (fun h=>yawn (ws:=ws) (ps:=ps) (es:=es) (qs:=qs) (s:=s) h)
 have EF:Hid (∀ i:Nat,∀ x,x=zan (dvN ws ps es qs) i->rpF ws ps es qs (dvN ws ps es qs) (i:Int) page=if 0<=page/\page<x.size then(pgV ws ps es qs (x.map.getD page.toNat 0),0) else(0,4)):=fun i x e=>by rw[e];rfl
 have OK:Hid (zck (dvN ws ps es qs) (dvD ws ps es qs)=true->∀ i:Nat,i<16->∀ x,x=zan (dvN ws ps es qs) i->(0<=x.size/\x.size<=8)/\∀ j:Nat,j<8->zeo (x.map.getD j 0)=true):=fun hi i h16 x e=>by
  have q:=(zbu.1 hi).ok i h16;rw[<- e]at q;refine⟨(zbq q).2.1,fun j hj=>(zfj q).1 _ ?_⟩;rw[List.getD_eq_getElem?_getD,List.getElem?_eq_getElem (show j<x.map.length from hj)];exact List.getElem_mem _
 obtain⟨dW,eW,dP,eP,dS,eS,dQ,eQ,rfl,-,-⟩:=h.form;clear h hT hE hF hN
 obtain⟨W,hW⟩:=zE (w.alloc (.cells #[.slice dW ws.length eW,.slice dP ps.length eP,.slice dS es.length eS,.slice dQ qs.length eQ] 31))
 have CD:Hid (∀ w',zB W w'->w'.cell? ⟨w.heap.size,0,none⟩=some (.slice dW ws.length eW)/\w'.cell? ⟨w.heap.size,1,none⟩=some (.slice dP ps.length eP)/\w'.cell? ⟨w.heap.size,2,none⟩=some (.slice dS es.length eS)/\w'.cell? ⟨w.heap.size,3,none⟩=some (.slice dQ qs.length eQ)):=fun w' hb=>by
  have:w'.heap[w.heap.size]?=some (.cells #[.slice dW ws.length eW,.slice dP ps.length eP,.slice dS es.length eS,.slice dQ qs.length eQ] 31 (0,0)):=(hb.block _ (by rw[hW];simp)).trans (by rw[hW];exact zaf rfl);obtain⟨x0,x1,x2,x3,-,-,-,-⟩:=zai this;exact⟨x0,x1,x2,x3⟩
 have BW:Hid (zB w W):=by rw[hW];exact zR.alloc zL _
 obtain⟨x0,x1,x2,x3⟩:=CD.o _ zR;generalize dvN ws ps es qs=dn at *;generalize dvD ws ps es qs=dd at *;generalize rpR ws ps es qs s page=res at *;generalize hfl:flR dn dd s=lr at *;obtain⟨li,lc⟩:=lr
 obtain⟨x,hx⟩:=zE (faI dn (li,lc))
 have LF2:=zaa (fun v2 w1 hb h2=>LF.o v2 w1 hb h2 x li lc hx rfl);have HX:=zaa hx;simp only at EL FL;clear LF hfl hx
 -- nothing is read: the code is told
 have FAIL:∀ c:Int,¬ c=0->res=(0,c)->FtIs x li lc (0<=page/\page<x.size) zcf 0 c->zC 13 #[.agg #[.slice dW ws.length eW,.slice dP ps.length eP,.slice dS es.length eS,.slice dQ qs.length eQ],.string s,.I page] w fun e w'=>e=.returned (.tuple #[.I res.1,.I res.2])/\zB w w':=by
  rintro c cn rfl hq;have LF3:=zaa (fun v2 w1 hb h2=>LF2.o v2 w1 hb h2 zcf 0 c hq)
  have q:(c != 0)=true:=by rw[bne_iff_ne];exact cn
  clear EL FL EF OK LV HX LF2 hq cn;go_enter Tryz.func13,Tryz.ntmps13;go_wp2_with fail;rw[<- hW];clear hW;refine(LI.o _ BW.o).mono ?_;rintro e w1 ⟨v1,rfl,hR,hb1⟩;have B1:=zaa (zab BW.o hb1 BW.o.size);have R1:=zaa hR.rd;clear hR hb1 x0 x1 x2 x3 LI;go_wp2_with fail;refine(LF3.o _ _ B1.o R1.o).mono ?_;rintro e w2 ⟨rfl,hb2⟩;have B2:=zaa (zab B1.o hb2 B1.o.size);have BX:=zaa (B2.o.alloc B2.o.size (.cells #[.I zcf.kind,.I zcf.size,.I zcf.links,.I zcf.m0,.I zcf.m1,.I zcf.m2,.I zcf.m3,.I zcf.m4,.I zcf.m5,.I zcf.m6,.I zcf.m7,.I 0] 61));clear hb2 B1 R1 LF3;go_wp2;go_ret2;exact⟨rfl,BX.o⟩
 by_cases cl:lc=0
 case neg=>exact FAIL lc cl (by rw[if_neg cl]at EL;exact EL.o) (.inl ⟨cl,rfl,rfl,rfl⟩)
 subst cl;rw[if_pos rfl]at EL;obtain⟨hP,hB,hi,i,i16,ei⟩:=FL.o rfl;have LV2:=zaa (LV.o hP hB);subst ei;have hx:x=zan dn i:=HX.o.trans ((if_pos rfl).trans (by simp only[Int.toNat_natCast]));obtain⟨⟨z0,z8⟩,ti⟩:=OK.o hi i i16 x hx;have TI:=zaa ti;rw[EF.o i x hx]at EL
 by_cases c:0<=page/\page<x.size
 case neg=>exact FAIL 4 (by decide) (by rw[if_neg c]at EL;exact EL.o) (.inr (.inl ⟨rfl,c,rfl,rfl,rfl⟩))
 clear FAIL FL OK EF LV HX hP hB hi ti hx;rw[if_pos c]at EL;have LF3:=zaa (fun v2 w1 hb h2=>LF2.o v2 w1 hb h2 x i 0 (.inr (.inr ⟨rfl,c,rfl,rfl,rfl⟩)));clear LF2;go_enter Tryz.func13,Tryz.ntmps13;go_wp2_with fail;rw[<- hW];clear hW;refine(LI.o _ BW.o).mono ?_;rintro e w1 ⟨v1,rfl,hR,hb1⟩;have A1:=zaa hb1;have B1:=zaa (zab BW.o hb1 BW.o.size);have R1:=zaa hR.rd;clear hR hb1 x0 x1 x2 x3 LI;go_wp2_with fail;refine(LF3.o _ _ B1.o R1.o).mono ?_;rintro e w2 ⟨rfl,hb2⟩;have A2:=zaa (zik A1.o hb2);have B2:=zaa (zab B1.o hb2 B1.o.size);clear hb2 A1 B1 R1 LF3;have BX:=zaa (B2.o.alloc B2.o.size (.cells #[.I x.kind,.I x.size,.I x.links,.I x.m0,.I x.m1,.I x.m2,.I x.m3,.I x.m4,.I x.m5,.I x.m6,.I x.m7,.I (i:Int)] 61));have VX:Hid ((w2.alloc (.cells #[.I x.kind,.I x.size,.I x.links,.I x.m0,.I x.m1,.I x.m2,.I x.m3,.I x.m4,.I x.m5,.I x.m6,.I x.m7,.I (i:Int)] 61)).heap[w2.heap.size]?=some (.cells (x.fa (i:Int)).toArray 61 (0,0))):=zaf rfl;have AX:=zaa (A2.o.alloc A2.o.size (.cells #[.I x.kind,.I x.size,.I x.links,.I x.m0,.I x.m1,.I x.m2,.I x.m3,.I x.m4,.I x.m5,.I x.m6,.I x.m7,.I (i:Int)] 61))
 obtain⟨w3,hw3⟩:=zE (w2.alloc (.cells #[.I x.kind,.I x.size,.I x.links,.I x.m0,.I x.m1,.I x.m2,.I x.m3,.I x.m4,.I x.m5,.I x.m6,.I x.m7,.I (i:Int)] 61))
 rw[<- hw3]at VX AX BX;have hz3:w2.heap.size<w3.heap.size:=(Array.getElem?_eq_some_iff.1 VX.o).1
 have KS:Hid (∀ w',zB w3 w'->w'.cell? ⟨w2.heap.size,1,none⟩=some (.I x.size)):=fun w' hb=>(hb.cell (p:=⟨w2.heap.size,1,none⟩) hz3).trans (zak VX.o 1).1
 have KM:Hid (∀ w',zB w3 w'->∀ m,m<8->w'.cell? ⟨w2.heap.size,3+m,none⟩=some (.I (x.map.getD m 0))):=fun w' hb m hm=>((hb.cell (p:=⟨w2.heap.size,3+m,none⟩) hz3).trans (zak VX.o (3+m)).1).trans (x.faM _ m hm)
 have y1:=KS.o _ zR;clear VX A2 B2
 obtain⟨j,rfl⟩:∃ j:Nat,page=(j:Int):=⟨page.toNat,by omega⟩
 rw[Int.toNat_natCast]at EL
 have j8:j<8:=by omega
 have te:=zaa (TI.o j j8);have LV3:=zaa (fun w1 hb=>LV2.o w1 hb _ te.o)
 have j0:(0:Int)<=(j:Int):=by omega
 have j1:(j:Int)<8:=by omega
 have KE:Hid (∀ w',zB w3 w'->w'.cell? ⟨w.heap.size,0,none⟩=some (.slice dW ws.length eW)/\w'.cell? ⟨w.heap.size,1,none⟩=some (.slice dP ps.length eP)/\w'.cell? ⟨w.heap.size,2,none⟩=some (.slice dS es.length eS)/\w'.cell? ⟨w.heap.size,3,none⟩=some (.slice dQ qs.length eQ)/\w'.cell? ⟨w2.heap.size,3+j,none⟩=some (.I (x.map.getD j 0))):=fun w' hb=>by
  obtain⟨a0,a1,a2,a3⟩:=CD.o w' (zik AX.o hb);exact⟨a0,a1,a2,a3,KM.o w' hb j j8⟩
 generalize x.map.getD j 0=pz at *;have B3r:=zaa (Below.refl w3.heap.size w3);obtain⟨r0,r1,r2,r3,r4⟩:=KE.o _ B3r.o;rw[hw3]at r0 r1 r2 r3 r4;go_wp2_with fail;rw[<- hw3]at r0 r1 r2 r3 r4 ⊢;clear hw3 c y1 KS KM TI te LV2 CD
 go_region_held3 (fun w'=>w'.cell? ⟨w.heap.size,0,none⟩=some (.slice dW ws.length eW)/\w'.cell? ⟨w.heap.size,1,none⟩=some (.slice dP ps.length eP)/\w'.cell? ⟨w.heap.size,2,none⟩=some (.slice dS es.length eS)/\w'.cell? ⟨w.heap.size,3,none⟩=some (.slice dQ qs.length eQ)/\w'.cell? ⟨w2.heap.size,3+j,none⟩=some (.I pz))
  (first | with_reducible exact KE.o _ A4.o | with_reducible exact KE.o _ B3r.o | with_reducible exact KE.o _ B3r.o.drew)
  (first
   | (go_at_call 35;refine(LV3.o _ (by first | with_reducible exact BX.o | with_reducible exact BX.o.drew)).mono ?_;rintro e w4 ⟨rfl,hb4⟩;have A4:=zaa (zdx hb4);clear hb4;obtain⟨t0,t1,t2,t3,t4⟩:=KE.o _ A4.o))
 all_goals
  have B4:=zaa (zab BX.o A4.o BX.o.size);obtain rfl:=EL.o;go_wp2;go_ret2;exact⟨rfl,B4.o⟩
theorem zwu(v:Value)(ws:List Int)(ps:List St)(es:List Int)(qs:List Se)(x:Ino)(w:World)(h:RdDev w v ws ps es qs)(hP:pmB ws ps=true)(hB:zdk es qs=true)(hx:zer x=true)(hT:TS w)(hN:NW w) :
  zC 20 #[v,.agg #[.I x.kind,.I x.size,.I x.links,.I x.m0,.I x.m1,.I x.m2,.I x.m3,.I x.m4,.I x.m5,.I x.m6,.I x.m7]] w fun e w'=>∃ v',e=.returned v'/\Row w' 3 1 w.heap.size w'.heap.size v' (pgL ws ps es qs x x.size.toNat).length (zcl (pgL ws ps es qs x x.size.toNat))/\zB w w':=by
 have LV2:=zaa (fun w1 (hb:zB w w1) z (hz:zeo z=true)=>zqm v ws ps es qs z w1 (h.below hb) hP hB hz (hT.below hb) (hN.below hb))
 have OK:Hid ((0<=x.size/\x.size<=8)/\∀ j:Nat,j<8->zeo (x.map.getD j 0)=true):=by
  refine⟨(zbq hx).2.1,fun j hj=>(zfj hx).1 _ ?_⟩;rw[List.getD_eq_getElem?_getD,List.getElem?_eq_getElem (show j<x.map.length from hj)];exact List.getElem_mem _
 obtain⟨dW,eW,dP,eP,dS,eS,dQ,eQ,rfl,-,-⟩:=h.form;clear h hT hN hP hB hx
 obtain⟨w3,hw3⟩:=zE ((w.alloc (.cells #[.slice dW ws.length eW,.slice dP ps.length eP,.slice dS es.length eS,.slice dQ qs.length eQ] 31)).alloc (.cells #[.I x.kind,.I x.size,.I x.links,.I x.m0,.I x.m1,.I x.m2,.I x.m3,.I x.m4,.I x.m5,.I x.m6,.I x.m7] 59))
 have hz3:w.heap.size+1<w3.heap.size:=by rw[hw3];simp
 have hz4:w.heap.size<w3.heap.size:=by omega
 have BX:Hid (zB w w3):=by rw[hw3];exact(zR.alloc zL _).alloc (by simp) _
 have KE:Hid (∀ w',zB w3 w'->w'.cell? ⟨w.heap.size,0,none⟩=some (.slice dW ws.length eW)/\w'.cell? ⟨w.heap.size,1,none⟩=some (.slice dP ps.length eP)/\w'.cell? ⟨w.heap.size,2,none⟩=some (.slice dS es.length eS)/\w'.cell? ⟨w.heap.size,3,none⟩=some (.slice dQ qs.length eQ)):=fun w' hb=>by
  have:w'.heap[w.heap.size]?=some (.cells #[.slice dW ws.length eW,.slice dP ps.length eP,.slice dS es.length eS,.slice dQ qs.length eQ] 31 (0,0)):=(hb.block _ hz4).trans (by rw[hw3];exact zaj (zaf rfl));obtain⟨x0,x1,x2,x3,-,-,-,-⟩:=zai this;exact⟨x0,x1,x2,x3⟩
 have VX:Hid (w3.heap[w.heap.size+1]?=some (.cells x.cs.toArray 59 (0,0))):=by
  rw[hw3];have q:=zaf (w:=w.alloc (.cells #[.slice dW ws.length eW,.slice dP ps.length eP,.slice dS es.length eS,.slice dQ qs.length eQ] 31)) (o:=.cells x.cs.toArray 59) rfl;rw[World.size_alloc]at q;exact q
 have KS:Hid (∀ w',zB w3 w'->w'.cell? ⟨w.heap.size+1,1,none⟩=some (.I x.size)):=fun w' hb=>(hb.cell (p:=⟨w.heap.size+1,1,none⟩) hz3).trans (zak (xs:=x.cs) VX.o 1).1
 have KM:Hid (∀ w',zB w3 w'->∀ m,m<8->w'.cell? ⟨w.heap.size+1,3+m,none⟩=some (.I (x.map.getD m 0))):=fun w' hb m hm=>((hb.cell (p:=⟨w.heap.size+1,3+m,none⟩) hz3).trans (zak (xs:=x.cs) VX.o (3+m)).1).trans (x.at m hm)
 obtain⟨⟨z0,z8⟩,ti⟩:=OK.o;have TI:=zaa ti;clear VX OK ti;have y1:=KS.o _ zR
 obtain⟨N,hN⟩:∃ N:Nat,x.size=(N:Int):=⟨x.size.toNat,by omega⟩
 have N8:N<=8:=by omega
 have EN:=zaa (show x.size.toNat=N by omega);rw[EN.o];rw[hN]at KS y1
 have START:Hid (InI w3 w3 (.N) (pgL ws ps es qs x 0)):=⟨World.ownsRow_nil _ _ _ _,zR⟩
 have nn:(0:Int)<=(N:Int):=by omega
 have n8:(N:Int)<=8:=by omega
 have hsl:∀ w1,(Instr.sliceAt 57 (.pointer (some ⟨w.heap.size+1,3,none⟩)) none (some (.I x.size)) none).run Tryz.prog w1=.ok (.slice (some ⟨w.heap.size+1,3,none⟩) N 8) w1:=fun w1=>by rw[hN];exact yajp w1 _ N N8
 rw[hN]at hsl;clear EN z0 z8;go_enter Tryz.func20,Tryz.ntmps20;rw[hN]at hw3 ⊢;go_wp2;rw[<- hw3];clear hw3 y1 hN
 go_loopw [5,13] (fun vL k wr=>∃ m:Nat,m<=N/\k=.I (m:Int)/\Hid (InI w3 wr vL (pgL ws ps es qs x m))) (fun _ k _=>N-(intOf k).toNat)
 case atStart=>exact⟨0,by omega,rfl,START⟩
 case round =>
  obtain⟨m,hm,rfl,J⟩:=hrel;clear START
  have m0:(0:Int)<=(m:Int):=by omega
  have JW:=zaa (zab BX.o J.o.b BX.o.size)
  by_cases hlt:m<N
  ·have m1:(m:Int)<(N:Int):=by omega
   have m8:m<8:=by omega
   have LV3:=zaa (fun w1 hb=>LV2.o w1 hb _ (TI.o m m8));have EM:=zaa (yasj ws ps es qs x m)
   have l2:(pgL ws ps es qs x m).length<=8:=by rw[yawx];omega
   have y2:=KM.o wr J.o.b m m8;obtain⟨r0,r1,r2,r3⟩:=KE.o wr J.o.b;generalize pgV ws ps es qs (x.map.getD m 0)=y at *;generalize x.map.getD m 0=z at *;go_wp2_with fail;refine(LV3.o _ JW.o).mono ?_;rintro e w5 ⟨rfl,hb5⟩;have JB:Hid (InI w3 (w5.alloc (.cells #[.I y] 3)) u5 (pgL ws ps es qs x m)):=(J.o.below hb5).below (zR.alloc zL _);have RB:=zaa (zxv w5 y);have hzb:=JB.o.z;clear hb5 r0 r1 r2 r3 y2;go_wp2_with (at_builtin;refine zae _ rfl (.tmp 17) (.tmp 21) 23 rfl w3.heap.size 3 (.I 0) 1 8 Tryz.underlying23 zim rfl (by decide) _ _ _ rfl JB.o.l _ 1 _ rfl RB.o (zsg _) (by first | omega | (simp[maxLen];omega)) (by first | omega | (simp;omega)) hzb ?_);intro vN wN hownN hgrN;have G:=zaa (JB.o.grow y hownN hgrN);rw[<- EM.o]at G;clear hownN hgrN JB RB J;go_wp2
   go_roundw
   case rel=>exact⟨m+1,by omega,by go_num,G⟩
   case measure=>simp[intOf];omega
  ·obtain rfl:m=N:=by omega
   obtain⟨-,aN,cN,hvN,-⟩:=(zad J.o.l).rd;subst hvN;go_wp2;go_ret;exact⟨_,rfl,(zad J.o.l).wide BX.o.size zL,JW.o⟩
theorem yavv{ws:List Int}{ps:List St}{es:List Int}{qs:List Se}{s:ByteArray}:psR ws ps es qs s=if (flR (dvN ws ps es qs) (dvD ws ps es qs) s).2=0 then(pgL ws ps es qs (zan (dvN ws ps es qs) (flR (dvN ws ps es qs) (dvD ws ps es qs) s).1.toNat) (zan (dvN ws ps es qs) (flR (dvN ws ps es qs) (dvD ws ps es qs) s).1.toNat).size.toNat,0) else([],(flR (dvN ws ps es qs) (dvD ws ps es qs) s).2):=by
 unfold psR flR;rw[yafz]
 by_cases c:65536<s.size
 ·rw[if_pos c,if_pos c];rfl
 ·rw[if_neg c,if_neg c]
  by_cases d:dvB ws ps es qs=true
  ·rw[if_pos d,if_pos d,<- (zfp d).2.2.1,<- (zfp d).2.2.2.1];rfl
  ·rw[if_neg d,if_neg d];rfl
theorem zjf(v:Value)(ws:List Int)(ps:List St)(es:List Int)(qs:List Se)(s:ByteArray)(w:World)(h:RdDev w v ws ps es qs)(hw:ws.length<=1048576)(hp:ps.length<=1048576)(he:es.length<=1048576)(hq:qs.length<=1048576)(hT:TS w)(hE:ED w)(hF:FD w)(hN:NW w) :
  zC 8 #[v,.string s] w fun e w'=>∃ v',e=.returned (.tuple #[v',.I (psR ws ps es qs s).2])/\Row w' 3 1 w.heap.size w'.heap.size v' (psR ws ps es qs s).1.length (zcl (psR ws ps es qs s).1)/\zB w w':=by
 have LI:=zaa (fun w1 (hb:zB w w1)=>zia v ws ps es qs w1 (h.below hb) hw hp he hq (hT.below hb) (hE.below hb) (hF.below hb));have LF:=zaa (fun v2 w1 (hb:zB w w1) h2=>zjl v2 (dvN ws ps es qs) (dvD ws ps es qs) s w1 h2 (zoi ws ps es qs).1 (zoi ws ps es qs).2 (hT.below hb) (hE.below hb) (hF.below hb) dv_R zwx);have LV:=zaa (fun hP hB x (hz:zer x=true) w1 (hb:zB w w1)=>zwu v ws ps es qs x w1 (h.below hb) hP hB hz (hT.below hb) (hN.below hb));have EL:=zaa (yavv (ws:=ws) (ps:=ps) (es:=es) (qs:=qs) (s:=s));have FL:=zaa (fun h=>yawn (ws:=ws) (ps:=ps) (es:=es) (qs:=qs) (s:=s) h)
 have OK:Hid (zck (dvN ws ps es qs) (dvD ws ps es qs)=true->∀ i:Nat,i<16->∀ x,x=zan (dvN ws ps es qs) i->zer x=true):=fun hi i h16 x e=>by
  have q:=(zbu.1 hi).ok i h16;rw[<- e]at q;exact q
 obtain⟨dW,eW,dP,eP,dS,eS,dQ,eQ,rfl,-,-⟩:=h.form;clear h hT hE hF hN
 obtain⟨W,hW⟩:=zE (w.alloc (.cells #[.slice dW ws.length eW,.slice dP ps.length eP,.slice dS es.length eS,.slice dQ qs.length eQ] 31))
 have CD:Hid (∀ w',zB W w'->w'.cell? ⟨w.heap.size,0,none⟩=some (.slice dW ws.length eW)/\w'.cell? ⟨w.heap.size,1,none⟩=some (.slice dP ps.length eP)/\w'.cell? ⟨w.heap.size,2,none⟩=some (.slice dS es.length eS)/\w'.cell? ⟨w.heap.size,3,none⟩=some (.slice dQ qs.length eQ)):=fun w' hb=>by
  have:w'.heap[w.heap.size]?=some (.cells #[.slice dW ws.length eW,.slice dP ps.length eP,.slice dS es.length eS,.slice dQ qs.length eQ] 31 (0,0)):=(hb.block _ (by rw[hW];simp)).trans (by rw[hW];exact zaf rfl);obtain⟨x0,x1,x2,x3,-,-,-,-⟩:=zai this;exact⟨x0,x1,x2,x3⟩
 have BW:Hid (zB w W):=by rw[hW];exact zR.alloc zL _
 obtain⟨x0,x1,x2,x3⟩:=CD.o _ zR;generalize dvN ws ps es qs=dn at *;generalize dvD ws ps es qs=dd at *;generalize psR ws ps es qs s=res at *;generalize hfl:flR dn dd s=lr at *;obtain⟨li,lc⟩:=lr
 obtain⟨x,hx⟩:=zE (faI dn (li,lc))
 have LF2:=zaa (fun v2 w1 hb h2=>LF.o v2 w1 hb h2 x hx);have HX:=zaa hx;simp only at EL FL LF2;clear LF hfl hx;go_enter Tryz.func8,Tryz.ntmps8;go_wp2_with fail;rw[<- hW];clear hW;refine(LI.o _ BW.o).mono ?_;rintro e w1 ⟨v1,rfl,hR,hb1⟩;have A1:=zaa hb1;have B1:=zaa (zab BW.o hb1 BW.o.size);have R1:=zaa hR.rd;clear hR hb1 x0 x1 x2 x3 LI;go_wp2_with fail;refine(LF2.o _ _ B1.o R1.o).mono ?_;rintro e w2 ⟨rfl,hb2⟩;have A2:=zaa (zik A1.o hb2);have B2:=zaa (zab B1.o hb2 B1.o.size);clear hb2 A1 B1 R1 LF2;have BX:=zaa (B2.o.alloc B2.o.size (.cells #[.I x.kind,.I x.size,.I x.links,.I x.m0,.I x.m1,.I x.m2,.I x.m3,.I x.m4,.I x.m5,.I x.m6,.I x.m7,.I li] 61))
 by_cases c:lc=0
 case neg =>
  rw[if_neg c]at EL;obtain rfl:=EL.o
  have q:(lc != 0)=true:=by rw[bne_iff_ne];exact c
  clear EL c FL OK LV HX;go_wp2;go_ret2;exact⟨_,rfl,Row.nil _ _ _ _ _,BX.o⟩
 subst c;rw[if_pos rfl]at EL;obtain⟨hP,hB,hi,i,i16,ei⟩:=FL.o rfl;subst ei;have hx:x=zan dn i:=HX.o.trans ((if_pos rfl).trans (by simp only[Int.toNat_natCast]));have LV2:=zaa (LV.o hP hB x (OK.o hi i i16 x hx));simp only[Int.toNat_natCast]at EL;rw[<- hx]at EL;clear FL OK LV HX hP hB hi hx
 obtain⟨w3,hw3⟩:=zE (w2.alloc (.cells #[.I x.kind,.I x.size,.I x.links,.I x.m0,.I x.m1,.I x.m2,.I x.m3,.I x.m4,.I x.m5,.I x.m6,.I x.m7,.I (i:Int)] 61))
 have VX:Hid (w3.heap[w2.heap.size]?=some (.cells (x.fa (i:Int)).toArray 61 (0,0))):=by rw[hw3];exact zaf rfl
 have AX:Hid (zB W w3):=by rw[hw3];exact A2.o.alloc A2.o.size _
 rw[<- hw3]at BX;obtain⟨r0,r1,r2,r3⟩:=CD.o w3 AX.o;have G:=zaa (zak VX.o);have g0:=(G.o 0).1;have g1:=(G.o 1).1;have g2:=(G.o 2).1;have g3:=(G.o 3).1;have g4:=(G.o 4).1;have g5:=(G.o 5).1;have g6:=(G.o 6).1;have g7:=(G.o 7).1;have g8:=(G.o 8).1;have g9:=(G.o 9).1;have g10:=(G.o 10).1;simp only[Ino.fa,List.getElem?_cons_zero,List.getElem?_cons_succ]at g0 g1 g2 g3 g4 g5 g6 g7 g8 g9 g10;rw[hw3]at r0 r1 r2 r3 g0 g1 g2 g3 g4 g5 g6 g7 g8 g9 g10;have LV3:=zaa (LV2.o w3 BX.o);clear G VX CD LV2;go_wp2_with fail;rw[<- hw3];clear hw3 r0 r1 r2 r3 g0 g1 g2 g3 g4 g5 g6 g7 g8 g9 g10;refine LV3.o.mono ?_;rintro e w4 ⟨v4,rfl,hr4,hb4⟩;have B4:=zaa (zab BX.o hb4 BX.o.size);have R4:=zaa (hr4.wide BX.o.size zL);clear hr4 hb4 LV3;obtain rfl:=EL.o;go_wp2;go_ret2;exact⟨_,rfl,R4.o,B4.o⟩
end Go.Proofs.YtdiaiejmoocpmaaGreatDoor
