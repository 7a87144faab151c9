/- A page is written: by the program. -/
import Derived.Test.YtdiaiejmoocpmaaGreatDoorZBU
set_option maxRecDepth 100000
set_option maxHeartbeats 16000000
namespace Go.Proofs.YtdiaiejmoocpmaaGreatDoor
open Go.RowKit
def npT(ns:List Ino):Int:=if 0<=fpI ns then 1 else 2
def npA(ns:List Ino):Int:=if 0<=fpI ns then fpI ns else ztk (fsI ns)
def npC(ns:List Ino):Int:=if 0<=fpI ns then 0 else zsn (fsI ns)
theorem zuu(ns:List Ino):fpI ns<24:=by
 have:=(zcs (fun i=>!zey (zaw (zao ns) 1) (i:Int)) 24).2;unfold fpI;omega
theorem yaez(ns:List Ino):fsI ns<32:=by
 have:=(zcs (fun i=>!zey (zaw (zao ns) 2) (i:Int)) 32).2;unfold fsI;omega
theorem zxp(v:Value)(ns:List Ino)(ds:List Den)(w:World)(h:RdIm w v ns ds)(hi:zck ns ds=true)(hw:ns.length<=1048576)(hp:ds.length<=1048576)(hT:TS w)(hE:ED w)(hF:FD w)(hr:∀ k (h:k<ns.length),ns[k].R)(hs:∀ k (h:k<ds.length),ds[k].name.size<=maxLen) :
  zC 22 #[v] w fun e w'=>e=.returned (.tuple #[.I (npT ns),.I (npA ns),.I (npC ns)])/\zB w w':=by
 have L1:=zaa (fun w1 (hb:zB w w1)=>zov v ns ds w1 (h.below hb) hw hp (hT.below hb) (hE.below hb) (hF.below hb) hr hs);have L2:=zaa (fun w1 (hb:zB w w1)=>znb v ns ds w1 (h.below hb) hw hp (hT.below hb) (hE.below hb) (hF.below hb) hr hs);rw[hi,show zbg (fun i=>!zey (zaw (zao ns) 1) (i:Int)) 24=fpI ns from rfl,show fpV true (fpI ns)=ztk (fpI ns)from rfl,show fpC true (fpI ns)=zsn (fpI ns)from rfl]at L1;rw[hi,show zbg (fun i=>!zey (zaw (zao ns) 2) (i:Int)) 32=fsI ns from rfl,show fpV true (fsI ns)=ztk (fsI ns)from rfl,show fpC true (fsI ns)=zsn (fsI ns)from rfl]at L2;have E1:=zaa (show npT ns=if 0<=fpI ns then 1 else 2 from rfl);have E2:=zaa (show npA ns=if 0<=fpI ns then fpI ns else ztk (fsI ns)from rfl);have E3:=zaa (show npC ns=if 0<=fpI ns then 0 else zsn (fsI ns)from rfl);obtain⟨vW,vP,rfl,h1,h2⟩:=h;obtain⟨aW,cW,rfl,_,_⟩:=h1.shape;obtain⟨aP,cP,rfl,_,_⟩:=h2.shape;clear h1 h2 hr hs hT hE hF
 obtain⟨W,hW⟩:=zE (w.alloc (.cells #[.slice aW ns.length cW,.slice aP ds.length cP] 67))
 have CA:Hid (∀ w',zB W w'->w'.cell? ⟨w.heap.size,0,none⟩=some (.slice aW ns.length cW)/\w'.cell? ⟨w.heap.size,1,none⟩=some (.slice aP ds.length cP)):=fun w' hb=>by
  have:w'.heap[w.heap.size]?=some (.cells #[.slice aW ns.length cW,.slice aP ds.length cP] 67 (0,0)):=(hb.block _ (by rw[hW];simp)).trans (by rw[hW];exact zaf rfl);exact⟨(zac this).1,(zac this).2.1⟩
 have BW:Hid (zB w W):=by rw[hW];exact zR.alloc zL _
 obtain⟨x0,x1⟩:=CA.o _ zR;rw[hW]at x0 x1;generalize npT ns=r1 at *;generalize npA ns=r2 at *;generalize npC ns=r3 at *;generalize fpI ns=fp at *;generalize fsI ns=fs at *;go_enter Tryz.func22,Tryz.ntmps22;go_wp2_with fail;rw[<- hW];clear hW x0 x1;refine(L1.o _ BW.o).mono ?_;rintro e w1 ⟨rfl,hb1⟩;have A1:=zaa hb1;have B1:=zaa (zab BW.o A1.o BW.o.size);clear hb1 L1
 by_cases c:0<=fp
 ·rw[if_pos c]at E1 E2 E3;rw[show ztk fp=fp from if_neg (by omega),show zsn fp=0 from if_neg (by omega)];obtain rfl:=E1.o;obtain rfl:=E2.o;obtain rfl:=E3.o;clear E1 E2 E3;go_wp2;go_ret3;exact⟨rfl,B1.o⟩
 ·rw[if_neg c]at E1 E2 E3;rw[show ztk fp=0 from if_pos (by omega),show zsn fp=7 from if_pos (by omega)];obtain rfl:=E1.o;obtain rfl:=E2.o;obtain rfl:=E3.o;clear E1 E2 E3 c;obtain⟨x0,x1⟩:=CA.o _ A1.o;go_wp2_with fail;refine(L2.o _ B1.o).mono ?_;rintro e w2 ⟨rfl,hb2⟩;have B2:=zaa (zab B1.o hb2 B1.o.size);clear hb2 x0 x1;go_wp2;go_ret3;exact⟨rfl,B2.o⟩
theorem yasb(m:Mi):zec [[m]] 1=m::zbb [m.at_]:=by simp[zec,segM,zra]
theorem yaam(a x:Int)(w:World)(ha:0<=a/\a<24) :
  zC 26 #[.I 1,.I a,.I x] w fun e w'=>∃ v',e=.returned v'/\Row w' 84 3 w.heap.size w'.heap.size v' (⟨1,312+a,x⟩::zbb [312+a]:List Mi).length (mis (⟨1,312+a,x⟩::zbb [312+a]))/\zB w w':=by
 have ES:Hid (zec [[⟨1,312+a,x⟩]] 1=(⟨1,312+a,x⟩::zbb [312+a]:List Mi)):=yasb _
 have wp:IntKind.i64.wrap (312+a)=312+a:=by rw[IntKind.wrap_i64];omega
 obtain⟨W,hW⟩:=zE ((w.alloc (.cells #[.I 1,.I (312+a),.I x] 84)).alloc (.cells #[.slice (some ⟨w.heap.size,0,none⟩) 1 1] 32))
 have hzW:W.heap.size=w.heap.size+1+1:=by rw[hW];simp
 have BW:Hid (zB w W):=by rw[hW];exact(zR.alloc zL _).alloc (by simp) _
 have BI:Hid (Below (w.alloc (.cells #[.I 1,.I (312+a),.I x] 84)).heap.size (w.alloc (.cells #[.I 1,.I (312+a),.I x] 84)) W):=by rw[hW];exact zR.alloc zL _
 have LS:=zaa (zit (w.heap.size+1) 0 1 [[⟨1,312+a,x⟩]] W (by omega) (by simp) (fun k hk=>by
   obtain rfl:k=0:=by simp at hk;omega
   refine⟨some ⟨w.heap.size,0,none⟩,1,?_,?_⟩
   ·have q:W.heap[w.heap.size+1]?=some (.cells ([.slice (some ⟨w.heap.size,0,none⟩) 1 1]:List Value).toArray 32 (0,0)):=by
     rw[hW];have:=zaf (w:=w.alloc (.cells #[.I 1,.I (312+a),.I x] 84)) (o:=.cells #[.slice (some ⟨w.heap.size,0,none⟩) 1 1] 32) rfl;rw[World.size_alloc]at this;exact this
    exact(zak q 0).1
   ·exact Rd.below (zjc w 1 (312+a) x) BI.o) (fun k hk=>by
   obtain rfl:k=0:=by simp at hk;omega
   refine⟨by simp,fun j hj=>?_⟩
   obtain rfl:j=0:=by simp at hj;omega
   exact⟨by show 0<=312+a;omega,by show 312+a<336;omega⟩))
 rw[show([[⟨1,312+a,x⟩]]:List (List Mi)).length=1 from rfl,ES.o]at LS;clear ES hzW BI ha;generalize (⟨1,312+a,x⟩::zbb [312+a]:List Mi)=L at *;go_enter Tryz.func26,Tryz.ntmps26;go_wp2_with fail;rw[<- hW];clear hW;refine LS.o.mono ?_;rintro e w1 ⟨v1,rfl,hr1,hb1⟩;have B1:=zaa (zab BW.o hb1 BW.o.size);have R1:=zaa (hr1.wide (lo':=w.heap.size) (hi':=w1.heap.size) BW.o.size zL);obtain⟨-,a1,c1,hv1,-⟩:=hr1.rd;subst hv1;clear hr1 hb1 LS;go_wp2;go_ret;exact⟨_,rfl,R1.o,B1.o⟩
theorem zyq(a x:Int)(w:World) :
  zC 26 #[.I 2,.I a,.I x] w fun e w'=>∃ v',e=.returned v'/\Row w' 84 3 w.heap.size w'.heap.size v' ([⟨4,a,x⟩,⟨5,0,0⟩]:List Mi).length (mis [⟨4,a,x⟩,⟨5,0,0⟩])/\zB w w':=by
 go_enter Tryz.func26,Tryz.ntmps26;go_wp2;go_ret;exact⟨_,rfl,zad (World.ownsRow_lit w _ 2 zL (by simp[maxLen]) rfl),zR.alloc zL _⟩
theorem yamv(ns:List Ino)(x:Int)(w:World)(h:npC ns=0) :
  zC 26 #[.I (npT ns),.I (npA ns),.I x] w fun e w'=>∃ v',e=.returned v'/\Row w' 84 3 w.heap.size w'.heap.size v' (wrS ns x).length (mis (wrS ns x))/\zB w w':=by
 unfold npT npA wrS;unfold npC at h;have b1:=zuu ns
 by_cases c:0<=fpI ns
 ·rw[if_pos c,if_pos c,if_pos c];exact yaam (fpI ns) x w ⟨c,b1⟩
 ·rw[if_neg c]at h;rw[if_neg c,if_neg c,if_neg c,show ztk (fsI ns)=fsI ns from if_neg (fun q=>by rw[show zsn (fsI ns)=7 from if_pos q]at h;omega)];exact zyq (fsI ns) x w
theorem yaxa(ns:List Ino):(¬ npC ns=0/\npC ns=7/\(fpI ns<0/\fsI ns<0))\/(npC ns=0/\¬ (fpI ns<0/\fsI ns<0)/\entV (npT ns) (npA ns)=wrE ns):=by
 unfold npC npT npA wrE entV zfb;have b1:=zuu ns;have b2:=yaez ns
 by_cases c:0<=fpI ns
 ·rw[if_pos c,if_pos c,if_pos c,if_pos c];exact .inr ⟨rfl,by omega,by rw[if_pos (by simp;omega)]⟩
 ·rw[if_neg c,if_neg c,if_neg c,if_neg c]
  by_cases d:fsI ns<0
  ·rw[show zsn (fsI ns)=7 from if_pos d];exact .inl ⟨by omega,rfl,by omega,d⟩
  ·rw[show zsn (fsI ns)=0 from if_neg d,show ztk (fsI ns)=fsI ns from if_neg d];exact .inr ⟨rfl,fun q=>d q.2,by rw[if_pos (by simp;omega)]⟩
theorem yarj(ns:List Ino)(h:¬ (fpI ns<0/\fsI ns<0)):0<=wrE ns/\wrE ns<1048576:=by
 unfold wrE;have b1:=zuu ns;have b2:=yaez ns
 by_cases c:0<=fpI ns
 ·rw[if_pos c];omega
 ·rw[if_neg c];omega
theorem yaim{i page size e:Int}(hi:0<=i/\i<16)(hp:0<=page/\page<8)(he:0<=e/\e<1048576):jpC (wrU i page size e)=0/\jpL (wrU i page size e)=zdc (zdt (wrU i page size e)):=by
 have l:=zvk i page size e
 have u:upsB (wrU i page size e)=true:=by
  refine decide_eq_true fun k hk=>?_
  have m:=List.getElem_mem hk
  revert m
  generalize (wrU i page size e)[k]=z;unfold wrU;intro m
  rcases List.mem_cons.1 m with rfl | m
  ·exact⟨by show 48<=48+12*i+(3+page)/\48+12*i+(3+page)<336;omega,by show 0<=e/\e<1099511627776;omega⟩
  ·split at m
   ·rw[List.mem_singleton.1 m];exact⟨by show 48<=48+12*i+1/\48+12*i+1<336;omega,by show 0<=page+1/\page+1<1099511627776;omega⟩
   ·cases m
 rcases zwn (wrU i page size e)with ⟨c,_⟩ | ⟨_,c,_⟩ | ⟨_,_,c,_⟩ | ⟨_,_,_,c⟩
 ·omega
 ·omega
 ·rw[u]at c;cases c
 ·exact c
theorem yayl{ws:List Int}{ps:List St}{es:List Int}{qs:List Se}{s:ByteArray}{page y:Int}:wrR ws ps es qs s page y=if (flR (dvN ws ps es qs) (dvD ws ps es qs) s).2=0 then wrF (dvN ws ps es qs) (flR (dvN ws ps es qs) (dvD ws ps es qs) s).1 page y else([],(flR (dvN ws ps es qs) (dvD ws ps es qs) s).2):=by
 unfold wrR flR;rw[yafz]
 by_cases c:65536<s.size
 ·rw[if_pos c,if_pos c];rfl
 ·rw[if_neg c,if_neg c]
  by_cases d:dvB ws ps es qs=true
  ·rw[if_pos d,if_pos d,<- (zfp d).2.2.1,<- (zfp d).2.2.2.1];rfl
  ·rw[if_neg d,if_neg d];rfl
theorem yavo{w w1:World}{c:Int}(B:zB w w1):zph w w1 (.returned (.tuple #[.N,.I c])) ([],c):=⟨_,rfl,Row.nil _ _ _ _ _,B⟩
theorem znl(v:Value)(ws:List Int)(ps:List St)(es:List Int)(qs:List Se)(s:ByteArray)(page y:Int)(w:World)(h:RdDev w v ws ps es qs)(hw:ws.length<=1048576)(hp:ps.length<=1048576)(he:es.length<=1048576)(hq:qs.length<=1048576)(hT:TS w)(hE:ED w)(hF:FD w) :
  zC 9 #[v,.string s,.I page,.I y] w fun e w'=>zph w w' e (wrR ws ps es qs s page y):=by
 have LI:=zaa (fun w1 (hb:zB w w1)=>zia v ws ps es qs w1 (h.below hb) hw hp he hq (hT.below hb) (hE.below hb) (hF.below hb));have LF:=zaa (fun v2 w1 (hb:zB w w1) h2=>zqx v2 (dvN ws ps es qs) (dvD ws ps es qs) s page y w1 h2 (zoi ws ps es qs).1 (zoi ws ps es qs).2 (hT.below hb) (hE.below hb) (hF.below hb) dv_R zwx);have LN:=zaa (fun hi v2 w1 (hb:zB w w1) h2=>zxp v2 (dvN ws ps es qs) (dvD ws ps es qs) w1 h2 hi (zoi ws ps es qs).1 (zoi ws ps es qs).2 (hT.below hb) (hE.below hb) (hF.below hb) dv_R zwx);have LE:=zaa (fun t a w1 (hb:zB w w1)=>zng t a w1 (hT.below hb));have LA:=zaa (fun w1 h=>yamv (dvN ws ps es qs) y w1 h);have EL:=zaa (yayl (ws:=ws) (ps:=ps) (es:=es) (qs:=qs) (s:=s) (page:=page) (y:=y));have FL:=zaa (fun h=>yawn (ws:=ws) (ps:=ps) (es:=es) (qs:=qs) (s:=s) h);have NP:=zaa (yaxa (dvN ws ps es qs));have WE:=zaa (yarj (dvN ws ps es qs))
 have EF:Hid (∀ i:Nat,∀ x,x=zan (dvN ws ps es qs) i->wrF (dvN ws ps es qs) (i:Int) page y=if (0<=page/\page<8)/\zat y=true then(if fpI (dvN ws ps es qs)<0/\fsI (dvN ws ps es qs)<0 then([],7) else(wrS (dvN ws ps es qs) y++zdc (zdt (wrU (i:Int) page x.size (wrE (dvN ws ps es qs)))),0)) else([],4)):=fun i x e=>by rw[e];rfl
 have SL:Hid ((wrS (dvN ws ps es qs) y).length<=1000):=by
  unfold Hid wrS
  split
  ·have:=zbi [312+fpI (dvN ws ps es qs)];simp only[List.length_cons,List.length_nil]at this ⊢;omega
  ·simp
 obtain⟨dW,eW,dP,eP,dS,eS,dQ,eQ,rfl,-,-⟩:=h.form;clear h hT hE hF
 obtain⟨W,hW⟩:=zE (w.alloc (.cells #[.slice dW ws.length eW,.slice dP ps.length eP,.slice dS es.length eS,.slice dQ qs.length eQ] 31))
 have BW:Hid (zB w W):=by rw[hW];exact zR.alloc zL _
 obtain⟨x0,x1,x2,x3,-,-,-,-⟩:=zai (zaf (w:=w) (o:=.cells #[.slice dW ws.length eW,.slice dP ps.length eP,.slice dS es.length eS,.slice dQ qs.length eQ] 31) rfl);generalize dvN ws ps es qs=dn at *;generalize dvD ws ps es qs=dd at *;generalize wrR ws ps es qs s page y=res at *;generalize flR dn dd s=lr at *;obtain⟨li,lc⟩:=lr
 obtain⟨x,hx⟩:=zE (faI dn (li,lc))
 have LF2:=zaa (fun v2 w1 hb h2=>LF.o v2 w1 hb h2 x li lc hx rfl);have HX:=zaa hx;simp only at EL FL;clear LF hx
 -- nothing is planned: the code is told
 have FAIL:∀ c:Int,¬ c=0->res=([],c)->FtIs x li lc ((0<=page/\page<8)/\zat y=true) zcf 0 c->zC 9 #[.agg #[.slice dW ws.length eW,.slice dP ps.length eP,.slice dS es.length eS,.slice dQ qs.length eQ],.string s,.I page,.I y] w fun e w'=>zph w w' e res:=by
  rintro c cn rfl hq;have LF3:=zaa (fun v2 w1 hb h2=>LF2.o v2 w1 hb h2 zcf 0 c hq)
  have q:(c != 0)=true:=by rw[bne_iff_ne];exact cn
  clear EL FL EF HX LF2 hq cn LN LE LA NP WE SL;go_enter Tryz.func9,Tryz.ntmps9;go_wp2_with fail;rw[<- hW];clear hW x0 x1 x2 x3;refine(LI.o _ BW.o).mono ?_;rintro e w1 ⟨v1,rfl,hR,hb1⟩;have HR:=zaa hR;obtain⟨vI,vD,rfl,hI,hD⟩:=hR;obtain⟨-,a1,k1,hv1,-⟩:=hI.rd;obtain⟨-,a2,k2,hv2,-⟩:=hD.rd;subst hv1;subst hv2;have B1:=zaa (zab BW.o hb1 BW.o.size);have BC:Hid (zB w1 (w1.alloc (.cells #[.slice a1 dn.length k1,.slice a2 dd.length k2] 67))):=zR.alloc zL _;have VM:Hid ((w1.alloc (.cells #[.slice a1 dn.length k1,.slice a2 dd.length k2] 67)).heap[w1.heap.size]?=some (.cells #[.slice a1 dn.length k1,.slice a2 dd.length k2] 67 (0,0))):=zaf rfl
  obtain⟨w2,hw2⟩:=zE (w1.alloc (.cells #[.slice a1 dn.length k1,.slice a2 dd.length k2] 67))
  obtain⟨y0,y1,_,_⟩:=zac VM.o;rw[<- hw2]at BC VM;have B2:=zaa (zab B1.o BC.o B1.o.size);have R2:=zaa (HR.o.below BC.o zL).rd;have hz2:w1.heap.size<w2.heap.size:=(Array.getElem?_eq_some_iff.1 VM.o).1
  have CI:Hid (∀ w',zB w2 w'->w'.cell? ⟨w1.heap.size,0,none⟩=some (.slice a1 dn.length k1)/\w'.cell? ⟨w1.heap.size,1,none⟩=some (.slice a2 dd.length k2)):=fun w' hb=>by
   have q:=(hb.block _ hz2).trans VM.o;exact⟨(zac q).1,(zac q).2.1⟩
  clear hb1 HR hI hD LI B1 BC VM;go_wp2_with fail;rw[<- hw2];clear hw2 y0 y1;refine(LF3.o _ _ B2.o R2.o).mono ?_;rintro e w3 ⟨rfl,hb3⟩;have B3:=zaa (zab B2.o hb3 B2.o.size);have C3:=zaa hb3;clear hb3 LF3;have BX:=zaa (B3.o.alloc B3.o.size (.cells #[.I zcf.kind,.I zcf.size,.I zcf.links,.I zcf.m0,.I zcf.m1,.I zcf.m2,.I zcf.m3,.I zcf.m4,.I zcf.m5,.I zcf.m6,.I zcf.m7,.I 0] 61));go_wp2;go_ret2;exact yavo BX.o
 by_cases cl:lc=0
 case neg=>exact FAIL lc cl (by rw[if_neg cl]at EL;exact EL.o) (.inl ⟨cl,rfl,rfl,rfl⟩)
 subst cl;rw[if_pos rfl]at EL;obtain⟨-,-,hi,i,i16,ei⟩:=FL.o rfl;have LN2:=zaa (LN.o hi);subst ei;have hx:x=zan dn i:=HX.o.trans ((if_pos rfl).trans (by simp only[Int.toNat_natCast]));rw[EF.o i x hx]at EL
 by_cases cc:(0<=page/\page<8)/\zat y=true
 case neg=>exact FAIL 4 (by decide) (by rw[if_neg cc]at EL;exact EL.o) (.inr (.inl ⟨rfl,cc,rfl,rfl,rfl⟩))
 clear FAIL FL EF HX hx LN hi;rw[if_pos cc]at EL;have LF3:=zaa (fun v2 w1 hb h2=>LF2.o v2 w1 hb h2 x i 0 (.inr (.inr ⟨rfl,cc,rfl,rfl,rfl⟩)));obtain⟨c,cy⟩:=cc;clear LF2 cy;go_enter Tryz.func9,Tryz.ntmps9;go_wp2_with fail;rw[<- hW];clear hW x0 x1 x2 x3;refine(LI.o _ BW.o).mono ?_;rintro e w1 ⟨v1,rfl,hR,hb1⟩;have HR:=zaa hR;obtain⟨vI,vD,rfl,hI,hD⟩:=hR;obtain⟨-,a1,k1,hv1,-⟩:=hI.rd;obtain⟨-,a2,k2,hv2,-⟩:=hD.rd;subst hv1;subst hv2;have B1:=zaa (zab BW.o hb1 BW.o.size);have BC:Hid (zB w1 (w1.alloc (.cells #[.slice a1 dn.length k1,.slice a2 dd.length k2] 67))):=zR.alloc zL _;have VM:Hid ((w1.alloc (.cells #[.slice a1 dn.length k1,.slice a2 dd.length k2] 67)).heap[w1.heap.size]?=some (.cells #[.slice a1 dn.length k1,.slice a2 dd.length k2] 67 (0,0))):=zaf rfl
 obtain⟨w2,hw2⟩:=zE (w1.alloc (.cells #[.slice a1 dn.length k1,.slice a2 dd.length k2] 67))
 obtain⟨y0,y1,_,_⟩:=zac VM.o;rw[<- hw2]at BC VM;have B2:=zaa (zab B1.o BC.o B1.o.size);have R2:=zaa (HR.o.below BC.o zL).rd;have hz2:w1.heap.size<w2.heap.size:=(Array.getElem?_eq_some_iff.1 VM.o).1
 have CI:Hid (∀ w',zB w2 w'->w'.cell? ⟨w1.heap.size,0,none⟩=some (.slice a1 dn.length k1)/\w'.cell? ⟨w1.heap.size,1,none⟩=some (.slice a2 dd.length k2)):=fun w' hb=>by
  have q:=(hb.block _ hz2).trans VM.o;exact⟨(zac q).1,(zac q).2.1⟩
 clear hb1 HR hI hD LI B1 BC VM;go_wp2_with fail;rw[<- hw2];clear hw2 y0 y1;refine(LF3.o _ _ B2.o R2.o).mono ?_;rintro e w3 ⟨rfl,hb3⟩;have B3:=zaa (zab B2.o hb3 B2.o.size);have C3:=zaa hb3;clear hb3 LF3;have BX:=zaa (B3.o.alloc B3.o.size (.cells #[.I x.kind,.I x.size,.I x.links,.I x.m0,.I x.m1,.I x.m2,.I x.m3,.I x.m4,.I x.m5,.I x.m6,.I x.m7,.I (i:Int)] 61));have VX:Hid ((w3.alloc (.cells #[.I x.kind,.I x.size,.I x.links,.I x.m0,.I x.m1,.I x.m2,.I x.m3,.I x.m4,.I x.m5,.I x.m6,.I x.m7,.I (i:Int)] 61)).heap[w3.heap.size]?=some (.cells (x.fa (i:Int)).toArray 61 (0,0))):=zaf rfl;have CX:=zaa (C3.o.alloc C3.o.size (.cells #[.I x.kind,.I x.size,.I x.links,.I x.m0,.I x.m1,.I x.m2,.I x.m3,.I x.m4,.I x.m5,.I x.m6,.I x.m7,.I (i:Int)] 61))
 obtain⟨w4,hw4⟩:=zE (w3.alloc (.cells #[.I x.kind,.I x.size,.I x.links,.I x.m0,.I x.m1,.I x.m2,.I x.m3,.I x.m4,.I x.m5,.I x.m6,.I x.m7,.I (i:Int)] 61))
 rw[<- hw4]at VX BX CX;have hz4:w3.heap.size<w4.heap.size:=(Array.getElem?_eq_some_iff.1 VX.o).1
 have KE:Hid (∀ w',zB w4 w'->w'.cell? ⟨w3.heap.size,0,none⟩=some (.I x.kind)/\w'.cell? ⟨w3.heap.size,1,none⟩=some (.I x.size)/\w'.cell? ⟨w3.heap.size,2,none⟩=some (.I x.links)/\w'.cell? ⟨w3.heap.size,3,none⟩=some (.I x.m0)/\w'.cell? ⟨w3.heap.size,4,none⟩=some (.I x.m1)/\w'.cell? ⟨w3.heap.size,5,none⟩=some (.I x.m2)/\w'.cell? ⟨w3.heap.size,6,none⟩=some (.I x.m3)/\w'.cell? ⟨w3.heap.size,7,none⟩=some (.I x.m4)/\w'.cell? ⟨w3.heap.size,8,none⟩=some (.I x.m5)/\w'.cell? ⟨w3.heap.size,9,none⟩=some (.I x.m6)/\w'.cell? ⟨w3.heap.size,10,none⟩=some (.I x.m7)/\w'.cell? ⟨w3.heap.size,11,none⟩=some (.I (i:Int))):=fun w' hb=>by
  have q:=(hb.block _ hz4).trans VX.o;exact⟨(zak q 0).1,(zak q 1).1,(zak q 2).1,(zak q 3).1,(zak q 4).1,(zak q 5).1,(zak q 6).1,(zak q 7).1,(zak q 8).1,(zak q 9).1,(zak q 10).1,(zak q 11).1⟩
 clear VX B3 C3;obtain⟨x0,x1⟩:=CI.o _ CX.o;rw[hw4]at x0 x1;go_wp2_with fail;rw[<- hw4];clear hw4;refine(LN2.o _ _ BX.o (R2.o.below CX.o)).mono ?_;rintro e w5 ⟨rfl,hb5⟩;have D5:=zaa hb5;have B5:=zaa (zab BX.o hb5 BX.o.size);clear hb5 x0 x1 LN2 CI CX R2
 rcases NP.o with ⟨c1,c2,c3⟩ | ⟨c1,c2,c3⟩
 ·rw[if_pos c3]at EL;obtain rfl:=EL.o;rw[c2];clear c1 c2 c3 EL NP WE LA;go_wp2;go_ret2;exact yavo B5.o
 rw[if_neg c2]at EL;obtain⟨e1,e2⟩:=WE.o c2;have LA2:=zaa (fun w1=>LA.o w1 c1);have C1:=c1;obtain⟨j1,j2⟩:=yaim (i:=(i:Int)) (page:=page) (size:=x.size) (e:=wrE dn) (by omega) c ⟨e1,e2⟩;have J2:=zaa j2;have LJ:=zaa (fun vu w1 h=>zlg vu (wrU (i:Int) page x.size (wrE dn)) w1 h (by have:=zvk (i:Int) page x.size (wrE dn);omega));rw[j1,j2]at LJ;have LU:=zaa (fun w1=>zpf x (i:Int) page (wrE dn) w1 (by omega) c);have EN:=zaa c3
 have PL:Hid ((zdc (zdt (wrU (i:Int) page x.size (wrE dn)))).length<=16777216):=by
  unfold Hid;rw[<- j2];exact yawv _
 rw[c1];clear c1 c2 c3 NP WE LA e1 e2 j1 j2 J2 c;generalize npT dn=pt at *;generalize npA dn=pa at *;generalize wrE dn=en at *;generalize wrS dn y=LS at *;have LE2:=zaa (fun w1 hb=>LE.o pt pa w1 hb);rw[EN.o]at LE2;clear LE EN;generalize entC pt pa=ec at *;go_wp2_with fail;refine(LE2.o _ B5.o).mono ?_;rintro e w' ⟨rfl,hw'⟩;subst w';obtain⟨k0,k1,k2,k3,k4,k5,k6,k7,k8,k9,k10,k11⟩:=KE.o _ D5.o;clear LE2;have BY:=zaa (B5.o.alloc B5.o.size (.cells #[.I x.kind,.I x.size,.I x.links,.I x.m0,.I x.m1,.I x.m2,.I x.m3,.I x.m4,.I x.m5,.I x.m6,.I x.m7,.I (i:Int),.I page,.I en] 75));have VY:Hid ((w5.alloc (.cells #[.I x.kind,.I x.size,.I x.links,.I x.m0,.I x.m1,.I x.m2,.I x.m3,.I x.m4,.I x.m5,.I x.m6,.I x.m7,.I (i:Int),.I page,.I en] 75)).heap[w5.heap.size]?=some (.cells ([.I x.kind,.I x.size,.I x.links,.I x.m0,.I x.m1,.I x.m2,.I x.m3,.I x.m4,.I x.m5,.I x.m6,.I x.m7,.I (i:Int),.I page,.I en]:List Value).toArray 75 (0,0))):=zaf rfl
 have KY:(w5.alloc (.cells #[.I x.kind,.I x.size,.I x.links,.I x.m0,.I x.m1,.I x.m2,.I x.m3,.I x.m4,.I x.m5,.I x.m6,.I x.m7,.I (i:Int),.I page,.I en] 75)).cell? ⟨w5.heap.size,0,none⟩=some (.I x.kind)/\(w5.alloc (.cells #[.I x.kind,.I x.size,.I x.links,.I x.m0,.I x.m1,.I x.m2,.I x.m3,.I x.m4,.I x.m5,.I x.m6,.I x.m7,.I (i:Int),.I page,.I en] 75)).cell? ⟨w5.heap.size,1,none⟩=some (.I x.size)/\(w5.alloc (.cells #[.I x.kind,.I x.size,.I x.links,.I x.m0,.I x.m1,.I x.m2,.I x.m3,.I x.m4,.I x.m5,.I x.m6,.I x.m7,.I (i:Int),.I page,.I en] 75)).cell? ⟨w5.heap.size,2,none⟩=some (.I x.links)/\(w5.alloc (.cells #[.I x.kind,.I x.size,.I x.links,.I x.m0,.I x.m1,.I x.m2,.I x.m3,.I x.m4,.I x.m5,.I x.m6,.I x.m7,.I (i:Int),.I page,.I en] 75)).cell? ⟨w5.heap.size,3,none⟩=some (.I x.m0)/\(w5.alloc (.cells #[.I x.kind,.I x.size,.I x.links,.I x.m0,.I x.m1,.I x.m2,.I x.m3,.I x.m4,.I x.m5,.I x.m6,.I x.m7,.I (i:Int),.I page,.I en] 75)).cell? ⟨w5.heap.size,4,none⟩=some (.I x.m1)/\(w5.alloc (.cells #[.I x.kind,.I x.size,.I x.links,.I x.m0,.I x.m1,.I x.m2,.I x.m3,.I x.m4,.I x.m5,.I x.m6,.I x.m7,.I (i:Int),.I page,.I en] 75)).cell? ⟨w5.heap.size,5,none⟩=some (.I x.m2)/\(w5.alloc (.cells #[.I x.kind,.I x.size,.I x.links,.I x.m0,.I x.m1,.I x.m2,.I x.m3,.I x.m4,.I x.m5,.I x.m6,.I x.m7,.I (i:Int),.I page,.I en] 75)).cell? ⟨w5.heap.size,6,none⟩=some (.I x.m3)/\(w5.alloc (.cells #[.I x.kind,.I x.size,.I x.links,.I x.m0,.I x.m1,.I x.m2,.I x.m3,.I x.m4,.I x.m5,.I x.m6,.I x.m7,.I (i:Int),.I page,.I en] 75)).cell? ⟨w5.heap.size,7,none⟩=some (.I x.m4)/\(w5.alloc (.cells #[.I x.kind,.I x.size,.I x.links,.I x.m0,.I x.m1,.I x.m2,.I x.m3,.I x.m4,.I x.m5,.I x.m6,.I x.m7,.I (i:Int),.I page,.I en] 75)).cell? ⟨w5.heap.size,8,none⟩=some (.I x.m5)/\(w5.alloc (.cells #[.I x.kind,.I x.size,.I x.links,.I x.m0,.I x.m1,.I x.m2,.I x.m3,.I x.m4,.I x.m5,.I x.m6,.I x.m7,.I (i:Int),.I page,.I en] 75)).cell? ⟨w5.heap.size,9,none⟩=some (.I x.m6)/\(w5.alloc (.cells #[.I x.kind,.I x.size,.I x.links,.I x.m0,.I x.m1,.I x.m2,.I x.m3,.I x.m4,.I x.m5,.I x.m6,.I x.m7,.I (i:Int),.I page,.I en] 75)).cell? ⟨w5.heap.size,10,none⟩=some (.I x.m7)/\(w5.alloc (.cells #[.I x.kind,.I x.size,.I x.links,.I x.m0,.I x.m1,.I x.m2,.I x.m3,.I x.m4,.I x.m5,.I x.m6,.I x.m7,.I (i:Int),.I page,.I en] 75)).cell? ⟨w5.heap.size,11,none⟩=some (.I (i:Int))/\(w5.alloc (.cells #[.I x.kind,.I x.size,.I x.links,.I x.m0,.I x.m1,.I x.m2,.I x.m3,.I x.m4,.I x.m5,.I x.m6,.I x.m7,.I (i:Int),.I page,.I en] 75)).cell? ⟨w5.heap.size,12,none⟩=some (.I page)/\(w5.alloc (.cells #[.I x.kind,.I x.size,.I x.links,.I x.m0,.I x.m1,.I x.m2,.I x.m3,.I x.m4,.I x.m5,.I x.m6,.I x.m7,.I (i:Int),.I page,.I en] 75)).cell? ⟨w5.heap.size,13,none⟩=some (.I en):=⟨(zak VY.o 0).1,(zak VY.o 1).1,(zak VY.o 2).1,(zak VY.o 3).1,(zak VY.o 4).1,(zak VY.o 5).1,(zak VY.o 6).1,(zak VY.o 7).1,(zak VY.o 8).1,(zak VY.o 9).1,(zak VY.o 10).1,(zak VY.o 11).1,(zak VY.o 12).1,(zak VY.o 13).1⟩
 obtain⟨m0,m1,m2,m3,m4,m5,m6,m7,m8,m9,m10,m11,m12,m13⟩:=KY
 obtain⟨w6,hw6⟩:=zE (w5.alloc (.cells #[.I x.kind,.I x.size,.I x.links,.I x.m0,.I x.m1,.I x.m2,.I x.m3,.I x.m4,.I x.m5,.I x.m6,.I x.m7,.I (i:Int),.I page,.I en] 75))
 rw[<- hw6]at BY;clear VY;go_wp2_with fail;rw[<- hw6];clear hw6 m0 m1 m2 m3 m4 m5 m6 m7 m8 m9 m10 m11 m12 m13 k0 k1 k2 k3 k4 k5 k6 k7 k8 k9 k10 k11;refine(LU.o _).mono ?_;rintro e w7 ⟨v7,rfl,hr7,hb7⟩;have B7:=zaa (zab BY.o hb7 BY.o.size);have R7:=zaa hr7.rd;clear hr7 hb7 LU;go_wp2_with fail;refine(LJ.o _ _ R7.o).mono ?_;rintro e w8 ⟨v8,rfl,hr8,hb8⟩;have B8:=zaa (zab B7.o hb8 B7.o.size);have R8:=zaa hr8.rd;obtain⟨a8,c8,e8⟩:=RdM.form hr8.rd rfl;subst e8;clear hr8 hb8 LJ R7;go_wp2_with fail;refine(LA2.o _).mono ?_;rintro e w9 ⟨v9,rfl,hr9,hb9⟩;have B9:=zaa (zab B8.o hb9 B8.o.size);have R89:=zaa (Rd.below R8.o hb9);have R9:=zaa (hr9.wide (lo':=w.heap.size) (hi':=w9.heap.size) B8.o.size zL).1;have hz9:w.heap.size<=w9.heap.size:=B9.o.size;obtain⟨a9,c9,e9⟩:=RdM.form hr9.rd rfl;subst e9;clear hr9 hb9 LA2 R8;have s1:=SL.o;have s2:=PL.o;generalize zdc (zdt (wrU (i:Int) page x.size en))=PP at *;go_wp2_with (at_builtin;refine zae _ rfl (.tmp 61) (.tmp 62) 32 rfl w.heap.size 84 (.agg #[.I 0,.I 0,.I 0]) 3 24 Tryz.underlying32 zbj rfl (by decide) _ LS.length (mis LS) rfl R9.o _ PP.length (mis PP) rfl R89.o (zcg _) (by first | omega | (simp[maxLen];omega)) (by omega) (by omega) ?_);intro vN wN hownN hgrN;have G:Hid (MiI w wN vN (LS++PP)):=MiI.grow (vL:=.slice a9 LS.length c9) ⟨R9.o,B9.o⟩ PP hownN hgrN;obtain⟨-,aN,cN,hvN,-⟩:=(zad G.o.l).rd;rw[List.length_append]at hvN;subst hvN;clear hownN hgrN R9 R89;obtain rfl:=EL.o;go_wp2;go_ret2;exact⟨_,rfl,zad G.o.l,G.o.b⟩
end Go.Proofs.YtdiaiejmoocpmaaGreatDoor
