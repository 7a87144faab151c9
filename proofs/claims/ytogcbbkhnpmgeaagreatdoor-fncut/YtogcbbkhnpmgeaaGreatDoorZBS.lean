import Derived.Test.YtogcbbkhnpmgeaaGreatDoorZBR
set_option maxRecDepth 100000
set_option maxHeartbeats 16000000
namespace Go.Proofs.YtogcbbkhnpmgeaaGreatDoor
open Go.RowKit
def FsIdle(w:World)(v:Value):Prop:=∃ ws es ns ds hs,RdFs w v ws es hs [] 0 0 [] false/\Idle ws es ns ds/\ziu hs=true
theorem FsIdle.below{w w':World}{v:Value}(h:FsIdle w v)(hb:zB w w'):FsIdle w' v:=by
 obtain⟨ws,es,ns,ds,hs,a,b,c⟩:=h;exact⟨ws,es,ns,ds,hs,a.below hb,b,c⟩
theorem zcb{ws es:List Int}{ns:List Ino}{ds:List Den}(h:Idle ws es ns ds):3<=ws.length/\3<=es.length:=by
 have a:=h.wi.len;have b:=(zcy h.bk).1;omega
theorem FsIdle.soft{w w':World}{v:Value}(h:FsIdle w v)(s:Soft w w'):FsIdle w' v:=by
 obtain⟨ws,es,ns,ds,hs,a,b,c⟩:=h;exact⟨ws,es,ns,ds,hs,a.soft s (zcb b).1 (zcb b).2 (by have:=(zbm c).1;omega),b,c⟩
theorem zos(v:Value)(k:Int)(p t:ByteArray)(g y:Int)(w:World)(h:FsIdle w v)(hp:p.size<=65536)(ht:t.size<=65536) :
  zC 48 #[v,.agg #[.I k,.string p,.string t,.I g,.I y]] w fun e w'=>∃ v' cd vl a n c,e=.returned (.tuple #[v',.agg #[.I cd,.I vl,.slice a n c],.I 0])/\FsIdle w' v'/\zB w w':=by
 obtain⟨ws,es,ns,ds,hs,h,hi,hh⟩:=h;obtain⟨⟨ws',es',ns',ds',run,hi'⟩,hm,hl,-⟩:=yaep hi k p t g y;have LS:=zaa (fun w1 (hb:zB w w1)=>zwa v ws es hs ns ds 0 0 [] k p t g y w1 (h.below hb) hi hh hp ht);have LF:=zaa (fun v2 hs2 cd vl nm w1 (h2:RdFs w1 v2 ws es hs2 (opI ws [] es [] ns ds k p t g y).steps cd vl nm true) (q:ziu hs2=true)=>zjx v2 ws es hs2 _ cd vl nm true ws' es' w1 h2 hi.pm hi.bk (by have:=(zbm q).1;omega) hm (by omega) run hi'.pm hi'.bk);have LT:=zaa (fun v2 hs2 cd vl nm w1 (h2:RdFs w1 v2 ws' es' hs2 [] cd vl nm true) (q:ziu hs2=true)=>zxk v2 ws' es' hs2 cd vl nm w1 h2 (zcb hi').1 (zcb hi').2 (by have:=(zbm q).1;omega));have HI':=zaa hi';obtain⟨aW,cW,aP,cP,aS,cS,aQ,cQ,aH,cH,aT,cT,aN,cN,rfl,-,-,-,-⟩:=h;clear hi hi' hh hp ht hm hl run;rw[show([]:List Mi).length=0 from rfl,show([]:List ByteArray).length=0 from rfl]at LS ⊢;generalize opI ws [] es [] ns ds k p t g y=A at *
 obtain⟨V,hV⟩:=zE ((((w.alloc (.cells #[.slice aW ws.length cW,.slice aP 0 cP,.slice aS es.length cS,.slice aQ 0 cQ,.slice aH hs.length cH,.slice aT 0 cT,.I 0,.I 0,.slice aN 0 cN,.bool false] 37)).alloc (.cells #[.I k,.string p,.string t,.I g,.I y] 40)).alloc (.cells zdz.toArray 37)).alloc (.cells #[.I 0,.I 0,.N] 35))
 have HZ:Hid (V.heap.size=w.heap.size+1+1+1+1):=by rw[hV];simp[Hid]
 have BV:Hid (zB w V):=by rw[hV];exact(((zR.alloc zL _).alloc (by simp) _).alloc (by simp<;>omega) _).alloc (by simp<;>omega) _
 have XV:Hid (V.heap[w.heap.size]?=some (.cells #[.slice aW ws.length cW,.slice aP 0 cP,.slice aS es.length cS,.slice aQ 0 cQ,.slice aH hs.length cH,.slice aT 0 cT,.I 0,.I 0,.slice aN 0 cN,.bool false] 37 (0,0))):=by rw[hV];exact zal (zal (zal (zah rfl)))
 have OV:Hid (V.heap[w.heap.size+1]?=some (.cells #[.I k,.string p,.string t,.I g,.I y] 40 (0,0))):=by rw[hV];exact zal (zal (zah (by simp)))
 have YV:Hid (V.heap[w.heap.size+1+1]?=some (.cells zdz.toArray 37 (0,0))):=by rw[hV];exact zal (zah (by simp))
 have ZV:Hid (V.heap[w.heap.size+1+1+1]?=some (.cells #[.I 0,.I 0,.N] 35 (0,0))):=by rw[hV];exact zah (by simp)
 unfold zdz at hV;go_enter Tryz.func48,Tryz.ntmps48;go_upto_region 1 with fail;rw[<- hV];clear hV;obtain⟨x0,x1,x2,x3,x4,x5,x6,x7,x8,x9,-⟩:=zaj XV.o;obtain⟨o0,o1,o2,o3,o4⟩:=zhu OV.o;go_wp2_with fail;refine(LS.o _ BV.o).mono ?_;rintro e w1 ⟨v1,hs1,rfl,hh1,hF1,hb1⟩;have HH1:=zaa hh1;have R1:=zaa hF1;obtain⟨bW,dW,bP,dP,bS,dS,bQ,dQ,bH,dH,bT,dT,bN,dN,rfl,-,-,-,-⟩:=hF1;have z1:Hid (V.heap.size<=w1.heap.size):=hb1.size;have B1:=zaa hb1;clear x0 x1 x2 x3 x4 x5 x6 x7 x8 x9 o0 o1 o2 o3 o4 hb1 hh1 LS XV OV
 obtain⟨V1,hV1⟩:=zE (w1.alloc (.cells #[.slice bW ws.length dW,.slice bP 0 dP,.slice bS es.length dS,.slice bQ 0 dQ,.slice bH hs1.length dH,.slice bT A.steps.length dT,.I A.code,.I A.val,.slice bN A.names.length dN,.bool true] 37))
 have BC:Hid (zB w1 V1):=by rw[hV1];exact zR.alloc zL _
 have X1:Hid (V1.heap[w1.heap.size]?=some (.cells #[.slice bW ws.length dW,.slice bP 0 dP,.slice bS es.length dS,.slice bQ 0 dQ,.slice bH hs1.length dH,.slice bT A.steps.length dT,.I A.code,.I A.val,.slice bN A.names.length dN,.bool true] 37 (0,0))):=by rw[hV1];exact zah rfl
 have BV1:=zaa (zab B1.o BC.o B1.o.size);have R2:=zaa (R1.o.below BC.o);go_upto_region 2 with fail;rw[<- hV1];clear hV1;obtain⟨x0,x1,x2,x3,x4,x5,x6,x7,x8,x9,-⟩:=zaj X1.o;go_wp2_with fail;refine(LF.o _ _ _ _ _ _ R2.o HH1.o).mono ?_;rintro e w2 ⟨v2,rfl,hF2,hb2⟩;have R3:=zaa hF2;have B2:=zaa (zab BV1.o hb2 BV1.o.size);obtain⟨_,_,_,_,_,_,_,_,_,_,_,_,_,_,rfl,-,-,-,-⟩:=hF2;clear x0 x1 x2 x3 x4 x5 x6 x7 x8 x9 hb2 LF R1 R2 X1 BC B1 BV1;go_wp2_with fail;refine(LT.o _ _ _ _ _ _ R3.o HH1.o).mono ?_;rintro e w3 ⟨v3,aA,nA,cA,rfl,hF3,hb3⟩;have R4:=zaa hF3;have B3:=zaa (zab B2.o hb3 B2.o.size);obtain⟨eW,fW,eP,fP,eS,fS,eQ,fQ,eH,fH,eT,fT,eN,fN,rfl,-,-,-,-⟩:=hF3;rw[show([]:List Mi).length=0 from rfl,show([]:List ByteArray).length=0 from rfl]at R4 ⊢;clear hb3 LT R3 B2;have Y3:=zaa ((B3.o.block (w.heap.size+1+1) (by have q:=HZ.o;omega)).trans YV.o);have Z3:=zaa ((B3.o.block (w.heap.size+1+1+1) (by have q:=HZ.o;omega)).trans ZV.o);have z3:Hid (V.heap.size<=w3.heap.size):=B3.o.size;have BB:=zaa (zab BV.o B3.o BV.o.size);have Y3':w3.heap[w.heap.size+1+1]?=some (.cells #[.N,.N,.N,.N,.N,.N,.I 0,.I 0,.N,.bool false] 37 (0,0)):=Y3.o;obtain⟨y0,y1,y2,y3,y4,y5,y6,y7,y8,y9,g0,g1,g2,g3,g4,g5,g6,g7,g8,g9⟩:=zaj Y3';obtain⟨m0,m1,m2,k0,k1,k2⟩:=tri3 Z3.o;clear Y3' YV ZV;have O5:=zaa (zbt w3 (w.heap.size+1+1) (.slice eW ws'.length fW) (.slice eP 0 fP) (.slice eS es'.length fS) (.slice eQ 0 fQ) (.slice eH hs1.length fH) (.slice eT 0 fT) (.I 0) (.I 0) (.slice eN 0 fN) (.bool false));have E5:=zaa (zqc w3 (w.heap.size+1+1) (.slice eW ws'.length fW) (.slice eP 0 fP) (.slice eS es'.length fS) (.slice eQ 0 fQ) (.slice eH hs1.length fH) (.slice eT 0 fT) (.I 0) (.I 0) (.slice eN 0 fN) (.bool false));have S5:=zaa (Soft.outside O5.o Y3.o rfl);have Z6:=zaa ((O5.o.block (w.heap.size+1+1+1) (by have q:=HZ.o;have q1:=z3.o;omega) (by omega)).trans Z3.o);have B5:=zaa (BB.o.trans (O5.o.below (B:=w.heap.size) (by omega) (by have q:=HZ.o;have q1:=z3.o;omega)));have O6:=zaa (zzt (zge w3 (w.heap.size+1+1) (.slice eW ws'.length fW) (.slice eP 0 fP) (.slice eS es'.length fS) (.slice eQ 0 fQ) (.slice eH hs1.length fH) (.slice eT 0 fT) (.I 0) (.I 0) (.slice eN 0 fN) (.bool false)) (w.heap.size+1+1+1) (.I A.code) (.I A.val) (.slice aA nA cA));have S6:=zaa (S5.o.trans (Soft.outside O6.o Z6.o rfl));have B6:=zaa (B5.o.trans (O6.o.below (B:=w.heap.size) (by omega) (by have q:=HZ.o;have q1:=z3.o;have q2:=E5.o;omega)));have F6:=zaa (show FsIdle _ _ from⟨ws',es',ns',ds',hs1,R4.o.soft S6.o (zcb HI'.o).1 (zcb HI'.o).2 (by have:=(zbm HH1.o).1;omega),HI'.o,HH1.o⟩);clear O5 E5 S5 Z6 B5 O6 S6 Y3 Z3;go_wp2;refine bodyPost_ret (v:=.tuple #[.agg #[.slice eW ws'.length fW,.slice eP 0 fP,.slice eS es'.length fS,.slice eQ 0 fQ,.slice eH hs1.length fH,.slice eT 0 fT,.I 0,.I 0,.slice eN 0 fN,.bool false],.agg #[.I A.code,.I A.val,.slice aA nA cA],.I 0]) (by simp[results,Tryz.results48,go_sem,y0,y1,y2,y3,y4,y5,y6,y7,y8,y9,m0,m1,m2]) rfl ?_;exact⟨_,_,_,_,_,_,rfl,F6.o,B6.o⟩
theorem zrk(vd v:Value)(ws:List Int)(ps:List St)(es:List Int)(qs:List Se)(ns:List Ino)(ds:List Den)(i p:Nat)(w:World)(hd:RdDev w vd ws ps es qs)(hP:pmB ws ps=true)(hB:zfj es qs=true)(h:RdIm w v ns ds)(hi:zcr ns ds=true)(i16:i<16)(p8:p<8) :
  zC 107 #[vd,v,.I (i:Int),.I (p:Int)] w fun e w'=>yagw w w' e (deF ns (enI ns (i:Int) (p:Int)) (pgV ws ps es qs (enI ns (i:Int) (p:Int))) (i:Int) (p:Int)):=by
 have TE:zef (enI ns (i:Int) (p:Int))=true:=by
  unfold enI;rw[Int.toNat_natCast,Int.toNat_natCast];exact yajs hi i16 p
 have LV:=zaa (fun w1 (hb:zB w w1)=>zgz vd ws ps es qs (enI ns (i:Int) (p:Int)) w1 (hd.below hb) hP hB TE);obtain⟨z0,z1⟩:=zdv TE;obtain⟨l16,l24,_⟩:=zaw hi
 have TR:∀ k (h:k<ns.length),∀ z∈ns[k].map,0<=z/\z<=1048576:=fun k hk z hz=>by
  have t:=(zet ((zbi.1 hi).ok k (by omega))).1 z (by rw[zbj hk];exact hz);exact zdv t
 have LF:Hid (∀ w1,zB w w1->zC 141 #[v,.I 2,.I 32] w1 fun e w'=>e=.returned (.I (fsI ns))/\zB w1 w'):=fun w1 hb=>zgr v ns ds 2 32 w1 (h.below hb) (by omega) TR (by omega)
 have L16:=zaa l16
 have F1:Hid (0<=fsI ns->∃ k:Nat,k<32/\fsI ns=(k:Int)):=fun c=>by
  obtain⟨k,a,b,-⟩:=zcx c;exact⟨k,a,b⟩
 have EL:=zaa (fun x=>show deF ns (enI ns (i:Int) (p:Int)) x (i:Int) (p:Int)=if enI ns (i:Int) (p:Int)=0\/¬ enI ns (i:Int) (p:Int)%4=1 then([],5)else if fsI ns<0 then([],7) else(deS ns x++swL (i:Int) (p:Int) (4*fsI ns+2),0)from rfl);obtain⟨vW,vP,rfl,h1,h2⟩:=h;obtain⟨aW,cW,rfl,_,hcW⟩:=h1.shape;obtain⟨aP,cP,rfl,_,hcP⟩:=h2.shape;obtain⟨bW,oW,rfl,hblW,hcellW⟩:=hcW (by omega)
 have HM:Hid (∀ w',zB w w'->w'.cell? ⟨bW,oW+i*11+3+p,none⟩=some (.I (enI ns (i:Int) (p:Int)))):=fun w' hb=>by
  unfold enI;rw[Int.toNat_natCast,Int.toNat_natCast,zbj (by have:=L16.o;omega:i<ns.length)];obtain⟨a0,a1,a2,a3,a4,a5,a6,a7,a8,a9,a10⟩:=hcellW i (by have:=L16.o;omega)
  rcases(show p=0\/p=1\/p=2\/p=3\/p=4\/p=5\/p=6\/p=7 by omega)with rfl|rfl|rfl|rfl|rfl|rfl|rfl|rfl
  ·exact(hb.cell (p:=⟨bW,oW+i*11+3,none⟩) hblW).trans a3
  ·exact(hb.cell (p:=⟨bW,oW+i*11+4,none⟩) hblW).trans a4
  ·exact(hb.cell (p:=⟨bW,oW+i*11+5,none⟩) hblW).trans a5
  ·exact(hb.cell (p:=⟨bW,oW+i*11+6,none⟩) hblW).trans a6
  ·exact(hb.cell (p:=⟨bW,oW+i*11+7,none⟩) hblW).trans a7
  ·exact(hb.cell (p:=⟨bW,oW+i*11+8,none⟩) hblW).trans a8
  ·exact(hb.cell (p:=⟨bW,oW+i*11+9,none⟩) hblW).trans a9
  ·exact(hb.cell (p:=⟨bW,oW+i*11+10,none⟩) hblW).trans a10
 obtain⟨dW,eW,dP,eP,dS,eS,dQ,eQ,rfl,-,-⟩:=hd.form
 have i1:(i:Int)<(ns.length:Int):=by have:=L16.o;omega
 have i0:(0:Int)<=(i:Int):=by omega
 have p0:(0:Int)<=(p:Int):=by omega
 have p1:(p:Int)<8:=by omega
 clear h1 h2 hi hcW hcP hcellW l16 l24 TR hd hP hB L16 TE
 obtain⟨W0,hW0⟩:=zE (w.alloc (.cells #[.slice dW ws.length eW,.slice dP ps.length eP,.slice dS es.length eS,.slice dQ qs.length eQ] 31))
 obtain⟨W,hW⟩:=zE (W0.alloc (.cells #[.slice (some ⟨bW,oW,none⟩) ns.length cW,.slice aP ds.length cP] 51))
 have z0':W0.heap.size=w.heap.size+1:=by rw[hW0];simp
 have CA:Hid (∀ w',zB W w'->w'.cell? ⟨w.heap.size+1,0,none⟩=some (.slice (some ⟨bW,oW,none⟩) ns.length cW)/\w'.cell? ⟨w.heap.size+1,1,none⟩=some (.slice aP ds.length cP)):=fun w' hb=>by
  have:w'.heap[w.heap.size+1]?=some (.cells #[.slice (some ⟨bW,oW,none⟩) ns.length cW,.slice aP ds.length cP] 51 (0,0)):=(hb.block _ (by rw[hW];simp;omega)).trans (by rw[hW,<- z0'];exact zah rfl);exact⟨(zac this).1,(zac this).2.1⟩
 have CD:Hid (∀ w',zB W w'->w'.cell? ⟨w.heap.size,0,none⟩=some (.slice dW ws.length eW)/\w'.cell? ⟨w.heap.size,1,none⟩=some (.slice dP ps.length eP)/\w'.cell? ⟨w.heap.size,2,none⟩=some (.slice dS es.length eS)/\w'.cell? ⟨w.heap.size,3,none⟩=some (.slice dQ qs.length eQ)):=fun w' hb=>by
  have:w'.heap[w.heap.size]?=some (.cells #[.slice dW ws.length eW,.slice dP ps.length eP,.slice dS es.length eS,.slice dQ qs.length eQ] 31 (0,0)):=(hb.block _ (by rw[hW];simp;omega)).trans (by
   rw[hW]
   exact(((Below.refl W0.heap.size W0).alloc zL _).block _ (by omega)).trans (by rw[hW0];exact zah rfl))
  obtain⟨a,b,c,d,-⟩:=zao this;exact⟨a,b,c,d⟩
 have BW:Hid (zB w W):=by rw[hW,hW0];exact(zR.alloc zL _).alloc (by simp) _
 generalize enI ns (i:Int) (p:Int)=e at *;generalize pgV ws ps es qs e=x at *;have EL1:=zaa (EL.o x);have te:Int.tmod e 4=e%4:=Int.tmod_eq_emod_of_nonneg z0;clear EL z0';generalize deF ns e x (i:Int) (p:Int)=res at *;obtain⟨x0,x1⟩:=CA.o _ zR;have e0:=HM.o _ BW.o;go_enter Tryz.func107,Tryz.ntmps107;go_upto_region 1 with fail;rw[<- hW0,<- hW];clear hW hW0
 by_cases c1:e=0
 ·rw[if_pos (.inl c1)]at EL1;obtain rfl:=EL1.o;subst c1;clear EL1 LV LF;go_wp2;go_ret2;exact zfr BW.o rfl
 have q1:(e == 0)=false:=by rw[beq_eq_false_iff_ne];exact c1
 by_cases c2:e%4=1
 case neg =>
  rw[if_pos (.inr c2)]at EL1;obtain rfl:=EL1.o
  have q2:(e%4 != 1)=true:=by rw[bne_iff_ne];exact c2
  clear EL1 LV LF c1 c2;go_wp2;go_ret2;exact zfr BW.o rfl
 have q2:(e%4 != 1)=false:=by rw[bne_eq_false_iff_eq];exact c2
 rw[if_neg (fun h=>h.elim c1 (fun h=>h c2))]at EL1;clear c1 c2;go_wp2_with fail;refine(LF.o _ BW.o).mono ?_;rintro r w1 ⟨rfl,hb1⟩;have A1:=zaa hb1;have B1:=zaa (zab BW.o hb1 BW.o.size);clear hb1 x0 x1 e0 LF
 by_cases c:fsI ns<0
 ·rw[if_pos c]at EL1;obtain rfl:=EL1.o;generalize fsI ns=fr at *;clear EL1 LV F1;go_wp2;go_ret2;exact zfr B1.o rfl
 rw[if_neg c]at EL1;obtain⟨k,k1,ek⟩:=F1.o (by omega);have KS:=zaa ek;rw[ek]at EL1 ⊢
 have c':¬ (k:Int)<0:=by omega
 clear F1 c ek;obtain⟨x0,x1,x2,x3⟩:=CD.o _ A1.o;have EX:=zaa (show deS ns x=[⟨4,(k:Int),x⟩,⟨5,0,0⟩] by unfold deS;rw[KS.o]);rw[EX.o]at EL1;have l7:=zxo (i:Int) (p:Int) (4*(k:Int)+2);have LSw:=zaa (fun w1=>zli (i:Int) (p:Int) (4*(k:Int)+2) w1 ⟨i0,by omega⟩ ⟨p0,p1⟩)
 have kr:0<=(k:Int)/\(k:Int)<32:=by omega
 clear EX KS;generalize swL (i:Int) (p:Int) (4*(k:Int)+2)=SW at *;go_wp2_with fail;refine(LV.o _ B1.o).mono ?_;rintro r w2 ⟨rfl,hb2⟩;have B2:=zaa (zab B1.o hb2 B1.o.size)
 have M2:Hid (MiI w (w2.alloc (.cells #[.I 4,.I (k:Int),.I x,.I 5,.I 0,.I 0] 82)) (.slice (some ⟨w2.heap.size,0,none⟩) 2 2) [⟨4,(k:Int),x⟩,⟨5,0,0⟩]):=⟨World.ownsRow_lit w2 _ 2 B2.o.size (by simp[maxLen]) rfl,B2.o.alloc B2.o.size _⟩
 clear hb2 x0 x1 x2 x3 LV;go_wp2_with fail;refine(zfn _ _ _ (by omega) kr).mono ?_;rintro r w' ⟨rfl,hw'⟩;subst w';go_wp2_with fail;refine(LSw.o _).mono ?_;rintro r w7 ⟨v7,rfl,hr7,hb7⟩;have M7:=zaa (M2.o.below hb7);have R7:=zaa hr7.rd;have hz7:=M7.o.z;clear hr7 hb7 M2 LSw;go_wp2_with (at_builtin;refine zae _ rfl (.tmp 41) (.tmp 46) 32 rfl w.heap.size 82 (.agg #[.I 0,.I 0,.I 0]) 3 24 Tryz.underlying32 zbx rfl (by decide) _ _ _ rfl M7.o.l _ _ _ rfl R7.o (zcv _) (by first | omega | (simp[maxLen];done) | (simp[maxLen];omega)) (by first | omega | (simp;done) | (simp;omega)) hz7 ?_);intro vT wT hownT hgrT;have M:=zaa (M7.o.grow SW hownT hgrT);obtain⟨-,aT,cT,hvT,-⟩:=(zad hownT).rd;subst hvT;obtain rfl:=EL1.o;clear hownT hgrT M7 R7 EL1;go_wp2;go_ret2;exact⟨_,rfl,zad M.o.l,M.o.b⟩
theorem zpl(vd v:Value)(ws:List Int)(ps:List St)(es:List Int)(qs:List Se)(ns:List Ino)(ds:List Den)(i p:Nat)(w:World)(hd:RdDev w vd ws ps es qs)(hP:pmB ws ps=true)(hB:zfj es qs=true)(h:RdIm w v ns ds)(hi:zcr ns ds=true)(i16:i<16)(p8:p<8) :
  zC 106 #[vd,v,.I (i:Int),.I (p:Int)] w fun e w'=>yagw w w' e (prF ns (enI ns (i:Int) (p:Int)) (pgV ws ps es qs (enI ns (i:Int) (p:Int))) (i:Int) (p:Int)):=by
 have TE:zef (enI ns (i:Int) (p:Int))=true:=by
  unfold enI;rw[Int.toNat_natCast,Int.toNat_natCast];exact yajs hi i16 p
 have LV:=zaa (fun w1 (hb:zB w w1)=>zgz vd ws ps es qs (enI ns (i:Int) (p:Int)) w1 (hd.below hb) hP hB TE);obtain⟨z0,z1⟩:=zdv TE;obtain⟨l16,l24,_⟩:=zaw hi
 have TR:∀ k (h:k<ns.length),∀ z∈ns[k].map,0<=z/\z<=1048576:=fun k hk z hz=>by
  have t:=(zet ((zbi.1 hi).ok k (by omega))).1 z (by rw[zbj hk];exact hz);exact zdv t
 have LF:Hid (∀ w1,zB w w1->zC 141 #[v,.I 1,.I 24] w1 fun e w'=>e=.returned (.I (fpI ns))/\zB w1 w'):=fun w1 hb=>zgr v ns ds 1 24 w1 (h.below hb) (by omega) TR (by omega)
 have L16:=zaa l16
 have F1:Hid (0<=fpI ns->∃ k:Nat,k<24/\fpI ns=(k:Int)):=fun c=>by
  obtain⟨k,a,b,-⟩:=zcx c;exact⟨k,a,b⟩
 have EL:=zaa (fun x=>show prF ns (enI ns (i:Int) (p:Int)) x (i:Int) (p:Int)=if enI ns (i:Int) (p:Int)=0\/¬ enI ns (i:Int) (p:Int)%4=2 then([],5)else if fpI ns<0 then([],7) else(prS ns x++swL (i:Int) (p:Int) (4*fpI ns+1),0)from rfl);obtain⟨vW,vP,rfl,h1,h2⟩:=h;obtain⟨aW,cW,rfl,_,hcW⟩:=h1.shape;obtain⟨aP,cP,rfl,_,hcP⟩:=h2.shape;obtain⟨bW,oW,rfl,hblW,hcellW⟩:=hcW (by omega)
 have HM:Hid (∀ w',zB w w'->w'.cell? ⟨bW,oW+i*11+3+p,none⟩=some (.I (enI ns (i:Int) (p:Int)))):=fun w' hb=>by
  unfold enI;rw[Int.toNat_natCast,Int.toNat_natCast,zbj (by have:=L16.o;omega:i<ns.length)];obtain⟨a0,a1,a2,a3,a4,a5,a6,a7,a8,a9,a10⟩:=hcellW i (by have:=L16.o;omega)
  rcases(show p=0\/p=1\/p=2\/p=3\/p=4\/p=5\/p=6\/p=7 by omega)with rfl|rfl|rfl|rfl|rfl|rfl|rfl|rfl
  ·exact(hb.cell (p:=⟨bW,oW+i*11+3,none⟩) hblW).trans a3
  ·exact(hb.cell (p:=⟨bW,oW+i*11+4,none⟩) hblW).trans a4
  ·exact(hb.cell (p:=⟨bW,oW+i*11+5,none⟩) hblW).trans a5
  ·exact(hb.cell (p:=⟨bW,oW+i*11+6,none⟩) hblW).trans a6
  ·exact(hb.cell (p:=⟨bW,oW+i*11+7,none⟩) hblW).trans a7
  ·exact(hb.cell (p:=⟨bW,oW+i*11+8,none⟩) hblW).trans a8
  ·exact(hb.cell (p:=⟨bW,oW+i*11+9,none⟩) hblW).trans a9
  ·exact(hb.cell (p:=⟨bW,oW+i*11+10,none⟩) hblW).trans a10
 obtain⟨dW,eW,dP,eP,dS,eS,dQ,eQ,rfl,-,-⟩:=hd.form
 have i1:(i:Int)<(ns.length:Int):=by have:=L16.o;omega
 have i0:(0:Int)<=(i:Int):=by omega
 have p0:(0:Int)<=(p:Int):=by omega
 have p1:(p:Int)<8:=by omega
 clear h1 h2 hi hcW hcP hcellW l16 l24 TR hd hP hB L16 TE
 obtain⟨W0,hW0⟩:=zE (w.alloc (.cells #[.slice dW ws.length eW,.slice dP ps.length eP,.slice dS es.length eS,.slice dQ qs.length eQ] 31))
 obtain⟨W,hW⟩:=zE (W0.alloc (.cells #[.slice (some ⟨bW,oW,none⟩) ns.length cW,.slice aP ds.length cP] 51))
 have z0':W0.heap.size=w.heap.size+1:=by rw[hW0];simp
 have CA:Hid (∀ w',zB W w'->w'.cell? ⟨w.heap.size+1,0,none⟩=some (.slice (some ⟨bW,oW,none⟩) ns.length cW)/\w'.cell? ⟨w.heap.size+1,1,none⟩=some (.slice aP ds.length cP)):=fun w' hb=>by
  have:w'.heap[w.heap.size+1]?=some (.cells #[.slice (some ⟨bW,oW,none⟩) ns.length cW,.slice aP ds.length cP] 51 (0,0)):=(hb.block _ (by rw[hW];simp;omega)).trans (by rw[hW,<- z0'];exact zah rfl);exact⟨(zac this).1,(zac this).2.1⟩
 have CD:Hid (∀ w',zB W w'->w'.cell? ⟨w.heap.size,0,none⟩=some (.slice dW ws.length eW)/\w'.cell? ⟨w.heap.size,1,none⟩=some (.slice dP ps.length eP)/\w'.cell? ⟨w.heap.size,2,none⟩=some (.slice dS es.length eS)/\w'.cell? ⟨w.heap.size,3,none⟩=some (.slice dQ qs.length eQ)):=fun w' hb=>by
  have:w'.heap[w.heap.size]?=some (.cells #[.slice dW ws.length eW,.slice dP ps.length eP,.slice dS es.length eS,.slice dQ qs.length eQ] 31 (0,0)):=(hb.block _ (by rw[hW];simp;omega)).trans (by
   rw[hW]
   exact(((Below.refl W0.heap.size W0).alloc zL _).block _ (by omega)).trans (by rw[hW0];exact zah rfl))
  obtain⟨a,b,c,d,-⟩:=zao this;exact⟨a,b,c,d⟩
 have BW:Hid (zB w W):=by rw[hW,hW0];exact(zR.alloc zL _).alloc (by simp) _
 generalize enI ns (i:Int) (p:Int)=e at *;generalize pgV ws ps es qs e=x at *;have EL1:=zaa (EL.o x);have te:Int.tmod e 4=e%4:=Int.tmod_eq_emod_of_nonneg z0;clear EL z0';generalize prF ns e x (i:Int) (p:Int)=res at *;obtain⟨x0,x1⟩:=CA.o _ zR;have e0:=HM.o _ BW.o;go_enter Tryz.func106,Tryz.ntmps106;go_upto_region 1 with fail;rw[<- hW0,<- hW];clear hW hW0
 by_cases c1:e=0
 ·rw[if_pos (.inl c1)]at EL1;obtain rfl:=EL1.o;subst c1;clear EL1 LV LF;go_wp2;go_ret2;exact zfr BW.o rfl
 have q1:(e == 0)=false:=by rw[beq_eq_false_iff_ne];exact c1
 by_cases c2:e%4=2
 case neg =>
  rw[if_pos (.inr c2)]at EL1;obtain rfl:=EL1.o
  have q2:(e%4 != 2)=true:=by rw[bne_iff_ne];exact c2
  clear EL1 LV LF c1 c2;go_wp2;go_ret2;exact zfr BW.o rfl
 have q2:(e%4 != 2)=false:=by rw[bne_eq_false_iff_eq];exact c2
 rw[if_neg (fun h=>h.elim c1 (fun h=>h c2))]at EL1;clear c1 c2;go_wp2_with fail;refine(LF.o _ BW.o).mono ?_;rintro r w1 ⟨rfl,hb1⟩;have A1:=zaa hb1;have B1:=zaa (zab BW.o hb1 BW.o.size);clear hb1 x0 x1 e0 LF
 by_cases c:fpI ns<0
 ·rw[if_pos c]at EL1;obtain rfl:=EL1.o;generalize fpI ns=fr at *;clear EL1 LV F1;go_wp2;go_ret2;exact zfr B1.o rfl
 rw[if_neg c]at EL1;obtain⟨k,k1,ek⟩:=F1.o (by omega);have KS:=zaa ek;rw[ek]at EL1 ⊢
 have c':¬ (k:Int)<0:=by omega
 clear F1 c ek;obtain⟨x0,x1,x2,x3⟩:=CD.o _ A1.o
 have wpk:IntKind.i64.wrap (312+(k:Int))=312+(k:Int):=by rw[IntKind.wrap_i64];omega
 have EX:=zaa (show prS ns x=[⟨1,312+(k:Int),x⟩]++zbf [312+(k:Int)] by unfold prS;rw[KS.o];rfl);rw[EX.o]at EL1;have l7:=zxo (i:Int) (p:Int) (4*(k:Int)+1);have LSw:=zaa (fun w1=>zli (i:Int) (p:Int) (4*(k:Int)+1) w1 ⟨i0,by omega⟩ ⟨p0,p1⟩)
 have kr:0<=(k:Int)/\(k:Int)<32:=by omega
 have l6:(zbf [312+(k:Int)]).length<=2:=zbv [312+(k:Int)];have LFl:=zaa (fun v w1 h=>zcu v [312+(k:Int)] w1 h (by simp) (by intro j h;simp at h;subst h;simp;omega));clear EX KS;generalize swL (i:Int) (p:Int) (4*(k:Int)+1)=SW at *;generalize zbf [312+(k:Int)]=FL at *;go_wp2_with fail;refine(LV.o _ B1.o).mono ?_;rintro r w2 ⟨rfl,hb2⟩;have B2:=zaa (zab B1.o hb2 B1.o.size);clear hb2 x0 x1 x2 x3 LV;go_wp2_with fail;refine(zct _ _ _).mono ?_;rintro r w4 ⟨rfl,hb4⟩;have B4:=zaa (zab B2.o hb4 B2.o.size)
 have M4:Hid (MiI w (w4.alloc (.cells #[.I 1,.I (312+(k:Int)),.I x] 82)) (.slice (some ⟨w4.heap.size,0,none⟩) 1 1) [⟨1,312+(k:Int),x⟩]):=⟨World.ownsRow_lit w4 _ 1 B4.o.size (by simp[maxLen]) rfl,B4.o.alloc B4.o.size _⟩
 have M6:=zaa (M4.o.below (zR.alloc zL (.cells #[.I (312+(k:Int))] 3)));have R6:=zaa (zks (w4.alloc (.cells #[.I 1,.I (312+(k:Int)),.I x] 82)) (312+(k:Int)));simp only[World.size_alloc]at R6;clear hb4 M4;go_wp2_with fail;refine(LFl.o _ _ R6.o).mono ?_;rintro r w5 ⟨v5,rfl,hr5,hb5⟩;have M5:=zaa (M6.o.below hb5);have R5:=zaa hr5.rd;have hz5:=M5.o.z;clear hr5 hb5 M6 R6 LFl;go_wp2_with (at_builtin;refine zae _ rfl (.tmp 40) (.tmp 44) 32 rfl w.heap.size 82 (.agg #[.I 0,.I 0,.I 0]) 3 24 Tryz.underlying32 zbx rfl (by decide) _ _ _ rfl M5.o.l _ _ _ rfl R5.o (zcv _) (by first | omega | (simp[maxLen];done) | (simp[maxLen];omega)) (by first | omega | (simp;done) | (simp;omega)) hz5 ?_);intro vS wS hownS hgrS;have M6:=zaa (M5.o.grow FL hownS hgrS)
 have l8:([(⟨1,312+(k:Int),x⟩:Mi)]++FL).length<=3:=by simp;omega
 generalize [(⟨1,312+(k:Int),x⟩:Mi)]++FL=LL at *;clear hownS hgrS M5 R5;go_wp2_with fail;refine(zfn _ _ _ (by omega) kr).mono ?_;rintro r w' ⟨rfl,hw'⟩;subst w';go_wp2_with fail;refine(LSw.o _).mono ?_;rintro r w7 ⟨v7,rfl,hr7,hb7⟩;have M7:=zaa (M6.o.below hb7);have R7:=zaa hr7.rd;have hz7:=M7.o.z;clear hr7 hb7 M6 LSw;go_wp2_with (at_builtin;refine zae _ rfl (.tmp 46) (.tmp 51) 32 rfl w.heap.size 82 (.agg #[.I 0,.I 0,.I 0]) 3 24 Tryz.underlying32 zbx rfl (by decide) _ _ _ rfl M7.o.l _ _ _ rfl R7.o (zcv _) (by first | omega | (simp[maxLen];done) | (simp[maxLen];omega)) (by first | omega | (simp;done) | (simp;omega)) hz7 ?_);intro vT wT hownT hgrT;have M:=zaa (M7.o.grow SW hownT hgrT);obtain⟨-,aT,cT,hvT,-⟩:=(zad hownT).rd;subst hvT;obtain rfl:=EL1.o;clear hownT hgrT M7 R7 EL1;go_wp2;go_ret2;exact⟨_,rfl,zad M.o.l,M.o.b⟩
end Go.Proofs.YtogcbbkhnpmgeaaGreatDoor
