import Derived.Test.YtogcbbkhnpmgeaaGreatDoorZAW
set_option maxRecDepth 100000
set_option maxHeartbeats 16000000
namespace Go.Proofs.YtogcbbkhnpmgeaaGreatDoor
open Go.RowKit
theorem UpI.wide{w w3 w1:World}{v:Value}{L:List Se}(h:UpI w3 w1 v L)(B:zB w w3):UpI w w1 v L:=⟨((zad h.l).wide B.size zL).1,zab B h.b B.size⟩
theorem yaie{ps:List Den}{d:Int}(h:¬ zbm ps d=[]):0<(zdl (zbm ps d)).length:=by
 rw[zhi];exact List.length_pos_iff.2 h
theorem yajg{ps:List Den}{d:Int}(h:zbm ps d=[]):(zdl (zbm ps d)).length=0:=by
 rw[zhi,h];rfl
theorem zwb(v:Value)(ws:List Ino)(ps:List Den)(s:ByteArray)(w:World)(h:RdIm w v ws ps)(hi:zbg ws ps=true)(hs:s.size<=65536) :
  zC 149 #[v,.string s] w fun e w'=>zgh w w' e (rmI ws ps s):=by
 have LP:=zaa (fun w1 (hb:zB w w1)=>zeo v ws ps s w1 (h.below hb) hi hs);have LE:=zaa (fun d nm w1 (hb:zB w w1)=>zfg v ws ps d nm w1 (h.below hb) (by have:=(zas hi).2.1;omega));have LN:=zaa (fun d w1 (hb:zB w w1)=>zoc v ws ps d w1 (h.below hb) (by have:=(zas hi).2.1;omega));have EL:=zaa (show rmI ws ps s=if (paI ws ps s).2.2=0 then rmN ws ps (paI ws ps s).1 (paI ws ps s).2.1 else([],(paI ws ps s).2.2)from rfl);have EN:=zaa (fun d nm=>show rmN ws ps d nm=match zbi ps d nm with | none=>([],5) | some k=>rmC ws ps k from rfl);have EC:=zaa (fun k=>show rmC ws ps k=if zaj ws (zao ps k)=2/\¬ zbm ps (zao ps k)=[] then([],11) else(rmU (k:Int) (zao ps k) (zdr ws (zao ps k)),0)from rfl);have CR:=zaa (fun d nm k e=>zef hi (d:=d) (nm:=nm) (k:=k) e);have LR:=zaa (fun i h0=>zjy hi (i:=i) h0);obtain⟨l16,l24,_⟩:=zas hi;have L16:=zaa l16;have L24:=zaa l24;obtain⟨vW,vP,rfl,h1,h2⟩:=h;obtain⟨aW,cW,rfl,_,hcW⟩:=h1.shape;obtain⟨aP,cP,rfl,_,hcP⟩:=h2.shape;obtain⟨bW,oW,rfl,hblW,hcellW⟩:=hcW (by omega);obtain⟨bP,oP,rfl,hblP,hcellP⟩:=hcP (by omega);have HW:=zaa hcellW;have HP:=zaa hcellP;clear h1 h2 hi hs hcW hcP hcellW hcellP l16 l24
 have CA:Hid (∀ w',Below (w.alloc (.cells #[.slice (some ⟨bW,oW,none⟩) ws.length cW,.slice (some ⟨bP,oP,none⟩) ps.length cP] 51)).heap.size (w.alloc (.cells #[.slice (some ⟨bW,oW,none⟩) ws.length cW,.slice (some ⟨bP,oP,none⟩) ps.length cP] 51)) w'->w'.cell? ⟨w.heap.size,0,none⟩=some (.slice (some ⟨bW,oW,none⟩) ws.length cW)/\w'.cell? ⟨w.heap.size,1,none⟩=some (.slice (some ⟨bP,oP,none⟩) ps.length cP)):=fun w' hb=>by
  have:w'.heap[w.heap.size]?=some (.cells #[.slice (some ⟨bW,oW,none⟩) ws.length cW,.slice (some ⟨bP,oP,none⟩) ps.length cP] 51 (0,0)):=(hb.block _ (by simp)).trans (zaf rfl);exact⟨(zac this).1,(zac this).2.1⟩
 have BW:Hid (zB w (w.alloc (.cells #[.slice (some ⟨bW,oW,none⟩) ws.length cW,.slice (some ⟨bP,oP,none⟩) ps.length cP] 51))):=zR.alloc zL _;obtain⟨x0,x1⟩:=CA.o _ zR
 obtain⟨W,hW⟩:=zE (w.alloc (.cells #[.slice (some ⟨bW,oW,none⟩) ws.length cW,.slice (some ⟨bP,oP,none⟩) ps.length cP] 51))
 rw[<- hW]at CA BW
 have hz:w.heap.size<W.heap.size:=by rw[hW];simp
 generalize rmI ws ps s=res at *;generalize paI ws ps s=pr at *;obtain⟨pd,pn,pc⟩:=pr;simp only at EL LP;go_enter Tryz.func149,Tryz.ntmps149;go_wp2_with fail;rw[<- hW];clear hW x0 x1;refine(LP.o _ BW.o).mono ?_;rintro e w1 ⟨rfl,hb1⟩;have A1:=zaa hb1;have B1:=zaa (zab BW.o hb1 BW.o.size);obtain⟨x0,x1⟩:=CA.o _ hb1;clear hb1 LP
 by_cases c:pc=0
 case neg =>
  rw[if_neg c]at EL;obtain rfl:=EL.o
  have q:(pc != 0)=true:=by rw[bne_iff_ne];exact c
  clear EL c x0 x1;go_wp2;go_ret2;exact zde B1.o
 rw[if_pos c]at EL;subst c;rw[EN.o]at EL;have LE2:=zaa (fun w1 hb=>LE.o pd pn w1 hb);clear EN LE
 cases he:zbi ps pd pn with
 | none =>
  rw[he]at EL;obtain rfl:=EL.o;have e1:=(ziz (ps:=ps) (d:=pd) (nm:=pn)).1 he;generalize zkq ps pd pn=ei at *;clear EL he;go_wp2_with fail;refine(LE2.o _ B1.o).mono ?_;rintro e w2 ⟨rfl,hb2⟩;have B2:=zaa (zab B1.o hb2 B1.o.size);clear hb2 x0 x1
  have e2:ei<0:=by omega
  clear e1;go_wp2;go_ret2;exact zde B2.o
 | some k =>
 rw[he]at EL;have EL2:Hid (res=rmC ws ps k):=EL.o;rw[EC.o]at EL2;rw[zjr he]at LE2;obtain⟨k1,k2⟩:=CR.o _ _ _ he;have lr:=LR.o _ k2;have HPk:=zaa (fun w' (hb:zB w w')=>((hb.cell (p:=⟨bP,oP+k*3+2,none⟩) hblP).trans (HP.o k k1).2.2).trans (by rw[<- zbn k1]));have LNk:=zaa (fun w1 hb=>LN.o (zao ps k) w1 hb);have KN:=zaa (@yaie ps (zao ps k));have KM:=zaa (@yajg ps (zao ps k))
 obtain⟨i,hi'⟩:∃ i:Nat,zao ps k=(i:Int):=⟨(zao ps k).toNat,by omega⟩
 rw[hi']at EL2 lr HPk LNk KN KM
 have i1:i<ws.length:=by have:=L16.o;omega
 have CI:=zaa (HW.o i i1);rw[<- zbk i1,<- zgi i1]at CI
 have k24:k<24:=by have:=L24.o;omega
 have i16:i<16:=by omega
 have kl:(k:Int)<(ps.length:Int):=by omega
 have il:(i:Int)<(ws.length:Int):=by omega
 have k0:(0:Int)<=(k:Int):=by omega
 have i0:(0:Int)<=(i:Int):=by omega
 clear EL EC CR LR he HP HW LN hi' k2 hblP L16 L24;generalize ws[i]=xi at *;generalize zaj ws (i:Int)=kd at *;generalize zdr ws (i:Int)=lk at *;generalize zbm ps (i:Int)=nms at *;go_wp2_with fail;refine(LE2.o _ B1.o).mono ?_;rintro e w2 ⟨rfl,hb2⟩;have A2:=zaa (zab A1.o hb2 A1.o.size);have B2:=zaa (zab B1.o hb2 B1.o.size);have z2:W.heap.size<=w2.heap.size:=A2.o.size;clear x0 x1 hb2 A1 B1 LE2;obtain⟨x0,x1⟩:=CA.o _ A2.o;have y0:=HPk.o _ B2.o;obtain⟨c0,c1,c2,c3,c4,c5,c6,c7,c8,c9,c10⟩:=CI.o;have d0:=(B2.o.cell (p:=⟨bW,oW+i*11,none⟩) hblW).trans c0;have d1:=(B2.o.cell (p:=⟨bW,oW+i*11+1,none⟩) hblW).trans c1;have d2:=(B2.o.cell (p:=⟨bW,oW+i*11+2,none⟩) hblW).trans c2;have d3:=(B2.o.cell (p:=⟨bW,oW+i*11+3,none⟩) hblW).trans c3;have d4:=(B2.o.cell (p:=⟨bW,oW+i*11+4,none⟩) hblW).trans c4;have d5:=(B2.o.cell (p:=⟨bW,oW+i*11+5,none⟩) hblW).trans c5;have d6:=(B2.o.cell (p:=⟨bW,oW+i*11+6,none⟩) hblW).trans c6;have d7:=(B2.o.cell (p:=⟨bW,oW+i*11+7,none⟩) hblW).trans c7;have d8:=(B2.o.cell (p:=⟨bW,oW+i*11+8,none⟩) hblW).trans c8;have d9:=(B2.o.cell (p:=⟨bW,oW+i*11+9,none⟩) hblW).trans c9;have d10:=(B2.o.cell (p:=⟨bW,oW+i*11+10,none⟩) hblW).trans c10;clear c0 c1 c2 c3 c4 c5 c6 c7 c8 c9 c10 CI;have AX:=zaa (A2.o.alloc A2.o.size (.cells #[.I kd,.I xi.size,.I lk,.I xi.m0,.I xi.m1,.I xi.m2,.I xi.m3,.I xi.m4,.I xi.m5,.I xi.m6,.I xi.m7] 87));have BX:=zaa (B2.o.alloc B2.o.size (.cells #[.I kd,.I xi.size,.I lk,.I xi.m0,.I xi.m1,.I xi.m2,.I xi.m3,.I xi.m4,.I xi.m5,.I xi.m6,.I xi.m7] 87));have VX:Hid ((w2.alloc (.cells #[.I kd,.I xi.size,.I lk,.I xi.m0,.I xi.m1,.I xi.m2,.I xi.m3,.I xi.m4,.I xi.m5,.I xi.m6,.I xi.m7] 87)).heap[w2.heap.size]?=some (.cells #[.I kd,.I xi.size,.I lk,.I xi.m0,.I xi.m1,.I xi.m2,.I xi.m3,.I xi.m4,.I xi.m5,.I xi.m6,.I xi.m7] 87 (0,0))):=zaf rfl;have EU:=zaa (show rmU (k:Int) (i:Int) lk=enL (k:Int) freeD++(if 1<lk then[⟨48+12*(i:Int)+2,lk-1⟩]else wrL (i:Int) zbb 8)from rfl);generalize rmU (k:Int) (i:Int) lk=ru at *;have LA:=zaa (fun w1=>zgx (k:Int) freeD w1 (by omega) (by decide) (.inl rfl));rw[show freeD.v=.agg #[.I 0,.string ⟨#[]⟩,.I (-1)]from rfl]at LA;have l3:(enL (k:Int) freeD).length<=3:=Nat.le_refl _;generalize enL (k:Int) freeD=EN at *;have LW:=zaa (fun w1=>zzy (i:Int) zbb w1 (by omega));rw[show zbb.v=.agg #[.I 0,.I 0,.I 0,.I 0,.I 0,.I 0,.I 0,.I 0,.I 0,.I 0,.I 0]from rfl]at LW
 have l11:(wrL (i:Int) zbb 8).length<=11:=by rw[zvg];omega
 generalize wrL (i:Int) zbb 8=WL at *
 have wpl:IntKind.i64.wrap (lk-1)=lk-1:=by rw[IntKind.wrap_i64];omega
 have CASES:(kd=2/\¬ nms=[])\/((kd=2/\nms=[])\/¬ kd=2):=by
  by_cases q:kd=2
  ·by_cases r:nms=[]
   ·exact .inr (.inl ⟨q,r⟩)
   ·exact .inl ⟨q,r⟩
  ·exact .inr (.inr q)
 rcases CASES with ⟨q,r⟩ | CASES
 ·rw[if_pos ⟨q,r⟩]at EL2;obtain rfl:=EL2.o;have KN2:=KN.o r
  have q1:(kd == 2)=true:=by rw[q];rfl
  clear EL2 q KM LA LW EU r KN;generalize (zdl nms).length=nl at *
  have nlp:(nl:Int)>0:=by omega
  obtain⟨x0',x1'⟩:=CA.o _ AX.o;go_wp2_with fail;refine(LNk.o _ BX.o).mono ?_;rintro e w3 ⟨v3,rfl,hr3,hb3⟩;have B3:=zaa (zab BX.o hb3 BX.o.size);obtain⟨-,aL,cL,hvL,-⟩:=hr3.rd;subst hvL;clear hr3 hb3 x0 x1 x0' x1' y0 d0 d1 d2 d3 d4 d5 d6 d7 d8 d9 d10;go_wp2;go_ret2;exact zde B3.o
 have EL3:Hid (res=(ru,0)):=EL2.o.trans (if_neg (by rintro⟨a,b⟩;rcases CASES with ⟨_,r⟩ | r;exact b r;exact r a));clear EL2;obtain rfl:=EL3.o;clear EL3
 rcases CASES with ⟨q,r⟩ | q
 case' inl =>
  have KM2:=KM.o r
  have q1:(kd == 2)=true:=by rw[q];rfl
  clear q KM r KN;generalize (zdl nms).length=nl at *;subst KM2;obtain⟨x0',x1'⟩:=CA.o _ AX.o;go_wp2_with fail;refine(LNk.o _ BX.o).mono ?_;rintro e w3 ⟨v3,rfl,hr3,hb3⟩;have A3:=zaa (zab AX.o hb3 AX.o.size);have B3:=zaa (zab BX.o hb3 BX.o.size);have V3:=zaa ((hb3.block w2.heap.size (by simp)).trans VX.o);obtain⟨-,aL,cL,hvL,-⟩:=hr3.rd;subst hvL;clear hr3 hb3 x0 x1 x0' x1' y0 d0 d1 d2 d3 d4 d5 d6 d7 d8 d9 d10 A2 B2 AX BX VX q1;go_wp2_with fail
 case' inr =>
  have q1:(kd == 2)=false:=by rw[beq_eq_false_iff_ne];exact q
  clear q KM KN;go_wp2_with fail
  obtain⟨w3,hw3⟩:=zE (w2.alloc (.cells #[.I kd,.I xi.size,.I lk,.I xi.m0,.I xi.m1,.I xi.m2,.I xi.m3,.I xi.m4,.I xi.m5,.I xi.m6,.I xi.m7] 87))
  rw[<- hw3];rw[<- hw3]at AX BX VX;have A3:=AX;have B3:=BX;have V3:=VX;clear hw3 AX BX VX x0 x1 y0 d0 d1 d2 d3 d4 d5 d6 d7 d8 d9 d10 A2 B2 q1
 all_goals
  have SK:Hid (∀ w',zB w3 w'->w'.cell? ⟨w2.heap.size,2,none⟩=some (.I lk)):=fun w' hb=>(zag (xs:=[.I kd,.I xi.size,.I lk,.I xi.m0,.I xi.m1,.I xi.m2,.I xi.m3,.I xi.m4,.I xi.m5,.I xi.m6,.I xi.m7]) ((hb.block _ ((Array.getElem?_eq_some_iff.1 V3.o).1)).trans V3.o) 2).1
  clear V3 CA LNk;refine(LA.o _).mono ?_;rintro e w4 ⟨v4,rfl,hr4,hb4⟩
  have J4:Hid (UpI w3 w4 v4 EN):=⟨hr4.1,hb4⟩
  obtain⟨-,aE,cE,hvE,-⟩:=hr4.rd;subst hvE;have y2:=SK.o _ hb4;clear hr4 hb4 LA
  by_cases r:1<lk
  ·rw[if_pos r]at EU;have r1:lk>1:=r;have JA:=zaa (J4.o.below (zR.alloc zL (.cells #[.I (48+12*(i:Int)+2),.I (lk-1)] 104)));have JB:=zaa ((J4.o.below ((Below.refl w4.heap.size w4).drew)).below (zR.alloc zL (.cells #[.I (48+12*(i:Int)+2),.I (lk-1)] 104)));have RA:=zaa (zhs w4 (48+12*(i:Int)+2) (lk-1));have RB:=zaa (zhs w4.drew (48+12*(i:Int)+2) (lk-1))
   have fr:0<=(i:Int)/\(i:Int)<16:=by omega
   clear LW r;go_wp2_with fail
   go_region_held3 (fun w'=>w'.cell? ⟨w2.heap.size,2,none⟩=some (.I lk))
    (first | exact SK.o _ G.o.b | exact SK.o _ J4.o.b | exact SK.o _ J4.o.b.drew | exact SK.o _ JA.o.b | exact SK.o _ JB.o.b)
    (first
     | (go_at_call 93;refine(zbh _ _ _ fr (by omega)).mono ?_;rintro e w' ⟨rfl,hw'⟩;subst w')
     | (refine zap rfl (.tmp 59) (.tmp 66) 58 rfl w3.heap.size 104 (.agg #[.I 0,.I 0]) 2 16 Tryz.underlying58 zgr rfl (by decide) _ EN.length (ses EN) rfl (by first | exact JA.o.l | exact JB.o.l) _ 1 (ses [⟨48+12*(i:Int)+2,lk-1⟩]) rfl (by first | exact RA.o | exact RB.o) (zdi _) (by simp[maxLen];omega) (by omega) (by first | exact JA.o.z | exact JB.o.z) ?_;intro vN wN hownN hgrN;have G:=(by first | exact zaa (JA.o.grow [⟨48+12*(i:Int)+2,lk-1⟩] hownN hgrN) | exact zaa (JB.o.grow [⟨48+12*(i:Int)+2,lk-1⟩] hownN hgrN):Hid (UpI w3 wN vN (EN++[⟨48+12*(i:Int)+2,lk-1⟩])));clear hownN hgrN))
   all_goals
    rw[<- EU.o]at G;have G2:=zaa (G.o.wide B3.o);obtain⟨-,aN,cN,hvN,-⟩:=(zad G2.o.l).rd;subst hvN;clear J4 JA JB RA RB y2 SK G;go_wp2;go_ret2;exact zqw 0 G2.o
  ·rw[if_neg r]at EU;have r1:¬ lk>1:=r;clear r SK;go_wp2_with fail;refine(LW.o _).mono ?_;rintro e w5 ⟨v5,rfl,hr5,hb5⟩;have J5:=zaa (J4.o.below hb5);have R5:=zaa hr5.rd;obtain⟨-,aF,cF,hvF,-⟩:=hr5.rd;subst hvF;have z5:w3.heap.size<=w5.heap.size:=J5.o.z;clear hr5 hb5 J4 LW y2;go_wp2_with (at_builtin;refine zae _ rfl (.tmp 68) (.tmp 71) 58 rfl w3.heap.size 104 (.agg #[.I 0,.I 0]) 2 16 Tryz.underlying58 zgr rfl (by decide) _ _ _ rfl J5.o.l _ _ _ rfl R5.o (zdi _) (by simp[maxLen];omega) (by omega) z5 ?_);intro vN wN hownN hgrN;have G:=zaa (J5.o.grow WL hownN hgrN);rw[<- EU.o]at G;have G2:=zaa (G.o.wide B3.o);obtain⟨-,aN,cN,hvN,-⟩:=(zad G2.o.l).rd;subst hvN;clear hownN hgrN J5 R5 G;go_wp2;go_ret2;exact zqw 0 G2.o
theorem yacc(v:Value)(ws:List Ino)(ps:List Den)(s t:ByteArray)(w:World)(h:RdIm w v ws ps)(hi:zbg ws ps=true)(hs0:s.size<=65536/\t.size<=65536) :
  zC 150 #[v,.string s,.string t] w fun e w'=>zgh w w' e (lnI ws ps s t):=by
 have LL:=zaa (fun w1 (hb:zB w w1)=>zfu v ws ps s w1 (h.below hb) hi hs0.1);have LP:=zaa (fun w1 (hb:zB w w1)=>zeo v ws ps t w1 (h.below hb) hi hs0.2);have LE:=zaa (fun d nm w1 (hb:zB w w1)=>zfg v ws ps d nm w1 (h.below hb) (by have:=(zas hi).2.1;omega));have LK:=zaa (fun w1 (hb:zB w w1)=>zhn v ws ps w1 (h.below hb) (by have:=(zas hi).2.1;omega));have EL:=zaa (show lnI ws ps s t=if (lkI ws ps s).2=0 then(if zaj ws (lkI ws ps s).1=2 then([],9)else lnP ws ps t (lkI ws ps s).1) else([],(lkI ws ps s).2)from rfl);have EP:=zaa (fun i=>show lnP ws ps t i=if (paI ws ps t).2.2=0 then lnN ws ps i (paI ws ps t).1 (paI ws ps t).2.1 else([],(paI ws ps t).2.2)from rfl);have EN:=zaa (fun i d nm=>show lnN ws ps i d nm=if 0<=zkq ps d nm then([],8)else if feI ps<0 then([],7) else(enL (feI ps) ⟨d,nm,i⟩++[⟨48+12*i+2,zdr ws i+1⟩],0)from rfl);have PO:=zaa (fun c=>zgq (s:=t) hi c);have LO:=zaa (zoe (s:=s) hi);have LR:=zaa (fun i h0=>zjy hi (i:=i) h0);have f2:=zpd hi;obtain⟨l16,l24,_⟩:=zas hi;have L16:=zaa l16;have L24:=zaa l24;obtain⟨vW,vP,rfl,h1,h2⟩:=h;obtain⟨aW,cW,rfl,_,hcW⟩:=h1.shape;obtain⟨aP,cP,rfl,_,hcP⟩:=h2.shape;obtain⟨bW,oW,rfl,hblW,hcellW⟩:=hcW (by omega);obtain⟨bP,oP,rfl,hblP,hcellP⟩:=hcP (by omega)
 have HW:Hid (∀ i (h:i<ws.length) w',zB w w'->w'.cell? ⟨bW,oW+i*11,none⟩=some (.I (zaj ws (i:Int)))/\w'.cell? ⟨bW,oW+i*11+2,none⟩=some (.I (zdr ws (i:Int)))):=fun i h w' hb =>
  ⟨((hb.cell (p:=⟨bW,oW+i*11,none⟩) hblW).trans (hcellW i h).1).trans (by rw[<- zbk h]),((hb.cell (p:=⟨bW,oW+i*11+2,none⟩) hblW).trans (hcellW i h).2.2.1).trans (by rw[<- zgi h])⟩
 have HP:Hid (∀ k (h:k<ps.length) w',zB w w'->w'.cell? ⟨bP,oP+k*3+2,none⟩=some (.I (zao ps k))):=fun k h w' hb =>
  ((hb.cell (p:=⟨bP,oP+k*3+2,none⟩) hblP).trans (hcellP k h).2.2).trans (by rw[<- zbn h])
 clear h1 h2 hi hs0 hcW hcP hcellW hcellP l16 l24
 have CA:Hid (∀ w',Below (w.alloc (.cells #[.slice (some ⟨bW,oW,none⟩) ws.length cW,.slice (some ⟨bP,oP,none⟩) ps.length cP] 51)).heap.size (w.alloc (.cells #[.slice (some ⟨bW,oW,none⟩) ws.length cW,.slice (some ⟨bP,oP,none⟩) ps.length cP] 51)) w'->w'.cell? ⟨w.heap.size,0,none⟩=some (.slice (some ⟨bW,oW,none⟩) ws.length cW)/\w'.cell? ⟨w.heap.size,1,none⟩=some (.slice (some ⟨bP,oP,none⟩) ps.length cP)):=fun w' hb=>by
  have:w'.heap[w.heap.size]?=some (.cells #[.slice (some ⟨bW,oW,none⟩) ws.length cW,.slice (some ⟨bP,oP,none⟩) ps.length cP] 51 (0,0)):=(hb.block _ (by simp)).trans (zaf rfl);exact⟨(zac this).1,(zac this).2.1⟩
 have BW:Hid (zB w (w.alloc (.cells #[.slice (some ⟨bW,oW,none⟩) ws.length cW,.slice (some ⟨bP,oP,none⟩) ps.length cP] 51))):=zR.alloc zL _;obtain⟨x0,x1⟩:=CA.o _ zR
 obtain⟨W,hW⟩:=zE (w.alloc (.cells #[.slice (some ⟨bW,oW,none⟩) ws.length cW,.slice (some ⟨bP,oP,none⟩) ps.length cP] 51))
 rw[<- hW]at CA BW
 have hz:w.heap.size<W.heap.size:=by rw[hW];simp
 generalize lnI ws ps s t=res at *;generalize paI ws ps t=pr at *;generalize lkI ws ps s=lr at *;generalize feI ps=fe at *;obtain⟨pd,pn,pc⟩:=pr;obtain⟨li,lc⟩:=lr;simp only at EL EP PO LO LL LP
 obtain⟨i,rfl⟩:∃ i:Nat,li=(i:Int):=⟨li.toNat,by have:=LO.o;omega⟩
 have i16:i<16:=by have:=LO.o;omega
 have i1:i<ws.length:=by have:=L16.o;omega
 have i0:(0:Int)<=(i:Int):=by omega
 have il:(i:Int)<(ws.length:Int):=by omega
 have lkr:=LR.o (i:Int) (by omega);have HWi:=zaa (HW.o i i1);have EN2:=zaa (EN.o (i:Int));rw[EP.o]at EL;clear EP EN LR HW HP LO;generalize zaj ws (i:Int)=kd at *;generalize zdr ws (i:Int)=lk at *;go_enter Tryz.func150,Tryz.ntmps150;go_wp2_with fail;rw[<- hW];clear hW x0 x1;refine(LL.o _ BW.o).mono ?_;rintro e w1 ⟨rfl,hb1⟩;have A1:=zaa hb1;have B1:=zaa (zab BW.o A1.o BW.o.size);obtain⟨x0,x1⟩:=CA.o _ A1.o;clear hb1
 by_cases c:lc=0
 case neg =>
  rw[if_neg c]at EL;obtain rfl:=EL.o
  have q:(lc != 0)=true:=by rw[bne_iff_ne];exact c
  clear EL c x0 x1;go_wp2;go_ret2;exact zde B1.o
 rw[if_pos c]at EL;subst c;have d0:=(HWi.o _ B1.o).1
 by_cases c:kd=2
 ·rw[if_pos c]at EL;obtain rfl:=EL.o
  have q:(kd == 2)=true:=by rw[c];rfl
  clear EL c;go_wp2;go_ret2;exact zde B1.o
 rw[if_neg c]at EL
 have q9:(kd == 2)=false:=by rw[beq_eq_false_iff_ne];exact c
 clear c;go_wp2_with fail;refine(LP.o _ B1.o).mono ?_;rintro e w2 ⟨rfl,hb2⟩;have A2:=zaa (zab A1.o hb2 A1.o.size);clear x0 x1;have B2:=zaa (zab BW.o A2.o BW.o.size);obtain⟨x0,x1⟩:=CA.o _ A2.o;clear hb2;clear A1 B1;clear d0 q9
 by_cases c:pc=0
 case neg =>
  rw[if_neg c]at EL;obtain rfl:=EL.o
  have q:(pc != 0)=true:=by rw[bne_iff_ne];exact c
  clear EL c x0 x1;go_wp2;go_ret2;exact zde B2.o
 rw[if_pos c]at EL;subst c;obtain⟨p1,-,p3⟩:=PO.o rfl;have NM:=zaa p3;rw[EN2.o]at EL;have LE2:=zaa (fun w1 hb=>LE.o pd pn w1 hb);generalize zkq ps pd pn=ei at *;clear PO p3 EN2 LE;go_wp2_with fail;refine(LE2.o _ B2.o).mono ?_;rintro e w3 ⟨rfl,hb3⟩;have A3:=zaa (zab A2.o hb3 A2.o.size);clear x0 x1;have B3:=zaa (zab BW.o A3.o BW.o.size);obtain⟨x0,x1⟩:=CA.o _ A3.o;clear hb3;clear A2 B2
 by_cases c:0<=ei
 ·rw[if_pos c]at EL;obtain rfl:=EL.o;have c1:ei>=0:=c;clear EL x0 x1 c;go_wp2;go_ret2;exact zde B3.o
 rw[if_neg c]at EL;have c1:¬ ei>=0:=c;clear c;go_wp2_with fail;refine(LK.o _ B3.o).mono ?_;rintro e w4 ⟨rfl,hb4⟩;have A4:=zaa (zab A3.o hb4 A3.o.size);clear x0 x1;have B4:=zaa (zab BW.o A4.o BW.o.size);obtain⟨x0,x1⟩:=CA.o _ A4.o;clear hb4;clear A3 B3;clear c1
 by_cases c3:fe<0
 ·rw[if_pos c3]at EL;obtain rfl:=EL.o;clear EL x0 x1;go_wp2;go_ret2;exact zde B4.o
 rw[if_neg c3]at EL;have LN:=zaa (fun w1=>zgx fe ⟨pd,pn,(i:Int)⟩ w1 (by omega) (show -1<=(i:Int)/\(i:Int)<=15 by omega) (.inr NM.o));rw[show(Den.mk pd pn (i:Int)).v=.agg #[.I pd,.string pn,.I (i:Int)]from rfl]at LN;have l3:(enL fe ⟨pd,pn,(i:Int)⟩).length<=3:=Nat.le_refl _;generalize enL fe ⟨pd,pn,(i:Int)⟩=EN at *
 have fr:0<=(i:Int)/\(i:Int)<16:=by omega
 have wpl:IntKind.i64.wrap (lk+1)=lk+1:=by rw[IntKind.wrap_i64];omega
 go_wp2_with fail;refine(LN.o _).mono ?_;rintro e w5 ⟨v5,rfl,hr5,hb5⟩
 have J4:Hid (UpI w4 w5 v5 EN):=⟨hr5.1,hb5⟩
 obtain⟨-,aE,cE,hvE,-⟩:=hr5.rd;subst hvE
 have SK:Hid (∀ w',zB w4 w'->w'.cell? ⟨w.heap.size,0,none⟩=some (.slice (some ⟨bW,oW,none⟩) ws.length cW)/\w'.cell? ⟨bW,oW+i*11+2,none⟩=some (.I lk)):=fun w' hb =>
  ⟨(CA.o _ (zab A4.o hb A4.o.size)).1,(HWi.o _ (zab B4.o hb B4.o.size)).2⟩
 clear x0 x1 hr5;obtain⟨x0,y2⟩:=SK.o _ hb5;clear hb5 LN CA;have JA:=zaa (J4.o.below (zR.alloc zL (.cells #[.I (48+12*(i:Int)+2),.I (lk+1)] 104)));have JB:=zaa ((J4.o.below ((Below.refl w5.heap.size w5).drew)).below (zR.alloc zL (.cells #[.I (48+12*(i:Int)+2),.I (lk+1)] 104)));have RA:=zaa (zhs w5 (48+12*(i:Int)+2) (lk+1));have RB:=zaa (zhs w5.drew (48+12*(i:Int)+2) (lk+1));obtain rfl:=EL.o;clear EL;go_wp2_with fail
 go_region_held3 (fun w'=>w'.cell? ⟨w.heap.size,0,none⟩=some (.slice (some ⟨bW,oW,none⟩) ws.length cW)/\w'.cell? ⟨bW,oW+i*11+2,none⟩=some (.I lk))
  (first | exact SK.o _ G.o.b | exact SK.o _ J4.o.b | exact SK.o _ J4.o.b.drew | exact SK.o _ JA.o.b | exact SK.o _ JB.o.b)
  (first
   | (go_at_call 93;refine(zbh _ _ _ fr (by omega)).mono ?_;rintro e w' ⟨rfl,hw'⟩;subst w')
   | (refine zap rfl (.tmp 60) (.tmp 71) 58 rfl w4.heap.size 104 (.agg #[.I 0,.I 0]) 2 16 Tryz.underlying58 zgr rfl (by decide) _ EN.length (ses EN) rfl (by first | exact JA.o.l | exact JB.o.l) _ 1 (ses [⟨48+12*(i:Int)+2,lk+1⟩]) rfl (by first | exact RA.o | exact RB.o) (zdi _) (by simp[maxLen];omega) (by omega) (by first | exact JA.o.z | exact JB.o.z) ?_;intro vN wN hownN hgrN;have G:=(by first | exact zaa (JA.o.grow [⟨48+12*(i:Int)+2,lk+1⟩] hownN hgrN) | exact zaa (JB.o.grow [⟨48+12*(i:Int)+2,lk+1⟩] hownN hgrN):Hid (UpI w4 wN vN (EN++[⟨48+12*(i:Int)+2,lk+1⟩])));clear hownN hgrN))
 all_goals
  have G2:=zaa (G.o.wide B4.o);obtain⟨-,aN,cN,hvN,-⟩:=(zad G2.o.l).rd;subst hvN;clear J4 JA JB RA RB y2 SK G x0;go_wp2;go_ret2;exact zqw 0 G2.o
theorem zvz(v:Value)(ws:List Ino)(ps:List Den)(s t:ByteArray)(w:World)(h:RdIm w v ws ps)(hi:zbg ws ps=true)(hs0:s.size<=65536/\t.size<=65536) :
  zC 151 #[v,.string s,.string t] w fun e w'=>zgh w w' e (rnI ws ps s t):=by
 have LL:=zaa (fun w1 (hb:zB w w1)=>zeo v ws ps s w1 (h.below hb) hi hs0.1);have LP:=zaa (fun w1 (hb:zB w w1)=>zeo v ws ps t w1 (h.below hb) hi hs0.2);have LE:=zaa (fun d nm w1 (hb:zB w w1)=>zfg v ws ps d nm w1 (h.below hb) (by have:=(zas hi).2.1;omega));have LB:=zaa (fun a b w1 (hb:zB w w1)=>ztl v ws ps a b w1 (h.below hb) (by have:=(zas hi).2.1;omega));have EL:=zaa (show rnI ws ps s t=if (paI ws ps s).2.2=0 then rnE ws ps t (paI ws ps s).1 (paI ws ps s).2.1 else([],(paI ws ps s).2.2)from rfl);have EE:=zaa (fun d nm=>show rnE ws ps t d nm=match zbi ps d nm with | none=>([],5) | some k=>rnP ws ps t k from rfl);have EP:=zaa (fun k=>show rnP ws ps t k=if (paI ws ps t).2.2=0 then rnN ws ps k (paI ws ps t).1 (paI ws ps t).2.1 else([],(paI ws ps t).2.2)from rfl);have EN:=zaa (fun k d nm=>show rnN ws ps k d nm=if 0<=zkq ps d nm then([],8)else if zaj ws (zao ps k)=2/\ziv ps 17 d (zao ps k)=true then([],13) else(enL (k:Int) ⟨d,nm,zao ps k⟩,0)from rfl);have PO:=zaa (fun c=>zgq (s:=t) hi c);have CR:=zaa (fun d nm k e=>zef hi (d:=d) (nm:=nm) (k:=k) e);obtain⟨l16,l24,_⟩:=zas hi;have L16:=zaa l16;have L24:=zaa l24;obtain⟨vW,vP,rfl,h1,h2⟩:=h;obtain⟨aW,cW,rfl,_,hcW⟩:=h1.shape;obtain⟨aP,cP,rfl,_,hcP⟩:=h2.shape;obtain⟨bW,oW,rfl,hblW,hcellW⟩:=hcW (by omega);obtain⟨bP,oP,rfl,hblP,hcellP⟩:=hcP (by omega)
 have HW:Hid (∀ i (h:i<ws.length) w',zB w w'->w'.cell? ⟨bW,oW+i*11,none⟩=some (.I (zaj ws (i:Int)))/\w'.cell? ⟨bW,oW+i*11+2,none⟩=some (.I (zdr ws (i:Int)))):=fun i h w' hb =>
  ⟨((hb.cell (p:=⟨bW,oW+i*11,none⟩) hblW).trans (hcellW i h).1).trans (by rw[<- zbk h]),((hb.cell (p:=⟨bW,oW+i*11+2,none⟩) hblW).trans (hcellW i h).2.2.1).trans (by rw[<- zgi h])⟩
 have HP:Hid (∀ k (h:k<ps.length) w',zB w w'->w'.cell? ⟨bP,oP+k*3+2,none⟩=some (.I (zao ps k))):=fun k h w' hb =>
  ((hb.cell (p:=⟨bP,oP+k*3+2,none⟩) hblP).trans (hcellP k h).2.2).trans (by rw[<- zbn h])
 clear h1 h2 hi hs0 hcW hcP hcellW hcellP l16 l24
 have CA:Hid (∀ w',Below (w.alloc (.cells #[.slice (some ⟨bW,oW,none⟩) ws.length cW,.slice (some ⟨bP,oP,none⟩) ps.length cP] 51)).heap.size (w.alloc (.cells #[.slice (some ⟨bW,oW,none⟩) ws.length cW,.slice (some ⟨bP,oP,none⟩) ps.length cP] 51)) w'->w'.cell? ⟨w.heap.size,0,none⟩=some (.slice (some ⟨bW,oW,none⟩) ws.length cW)/\w'.cell? ⟨w.heap.size,1,none⟩=some (.slice (some ⟨bP,oP,none⟩) ps.length cP)):=fun w' hb=>by
  have:w'.heap[w.heap.size]?=some (.cells #[.slice (some ⟨bW,oW,none⟩) ws.length cW,.slice (some ⟨bP,oP,none⟩) ps.length cP] 51 (0,0)):=(hb.block _ (by simp)).trans (zaf rfl);exact⟨(zac this).1,(zac this).2.1⟩
 have BW:Hid (zB w (w.alloc (.cells #[.slice (some ⟨bW,oW,none⟩) ws.length cW,.slice (some ⟨bP,oP,none⟩) ps.length cP] 51))):=zR.alloc zL _;obtain⟨x0,x1⟩:=CA.o _ zR
 obtain⟨W,hW⟩:=zE (w.alloc (.cells #[.slice (some ⟨bW,oW,none⟩) ws.length cW,.slice (some ⟨bP,oP,none⟩) ps.length cP] 51))
 rw[<- hW]at CA BW
 have hz:w.heap.size<W.heap.size:=by rw[hW];simp
 generalize rnI ws ps s t=res at *;generalize paI ws ps s=pr at *;generalize paI ws ps t=pt at *;obtain⟨pd,pn,pc⟩:=pr;obtain⟨td,tn,tc⟩:=pt;simp only at EL EP PO LL LP;go_enter Tryz.func151,Tryz.ntmps151;go_wp2_with fail;rw[<- hW];clear hW x0 x1;refine(LL.o _ BW.o).mono ?_;rintro e w1 ⟨rfl,hb1⟩;have A1:=zaa hb1;have B1:=zaa (zab BW.o A1.o BW.o.size);obtain⟨x0,x1⟩:=CA.o _ A1.o;clear hb1
 by_cases c:pc=0
 case neg =>
  rw[if_neg c]at EL;obtain rfl:=EL.o
  have q:(pc != 0)=true:=by rw[bne_iff_ne];exact c
  clear EL c x0 x1;go_wp2;go_ret2;exact zde B1.o
 rw[if_pos c]at EL;subst c;rw[EE.o]at EL;have LE2:=zaa (fun w1 hb=>LE.o pd pn w1 hb);clear EE
 cases he:zbi ps pd pn with
 | none =>
  rw[he]at EL;obtain rfl:=EL.o;have e1:=(ziz (ps:=ps) (d:=pd) (nm:=pn)).1 he;generalize zkq ps pd pn=ei at *;clear EL he;go_wp2_with fail;refine(LE2.o _ B1.o).mono ?_;rintro e w2 ⟨rfl,hb2⟩;have B2:=zaa (zab B1.o hb2 B1.o.size);clear hb2 x0 x1
  have e2:ei<0:=by omega
  clear e1;go_wp2;go_ret2;exact zde B2.o
 | some k =>
 rw[he]at EL;have EL2:Hid (res=rnP ws ps t k):=EL.o;rw[EP.o]at EL2;rw[zjr he]at LE2;obtain⟨k1,k2⟩:=CR.o _ _ _ he;have EN2:=zaa (EN.o k);have HPk:=zaa (HP.o k k1)
 obtain⟨i,hi'⟩:∃ i:Nat,zao ps k=(i:Int):=⟨(zao ps k).toNat,by omega⟩
 rw[hi']at EN2 HPk
 have i1:i<ws.length:=by have:=L16.o;omega
 have k24:k<24:=by have:=L24.o;omega
 have i16:i<16:=by omega
 have kl:(k:Int)<(ps.length:Int):=by omega
 have il:(i:Int)<(ws.length:Int):=by omega
 have k0:(0:Int)<=(k:Int):=by omega
 have i0:(0:Int)<=(i:Int):=by omega
 have HWi:=zaa (HW.o i i1);clear EL EP EN CR HW HP he hi' k2;generalize zaj ws (i:Int)=kd at *;go_wp2_with fail;refine(LE2.o _ B1.o).mono ?_;rintro e w2 ⟨rfl,hb2⟩;have A2:=zaa (zab A1.o hb2 A1.o.size);clear x0 x1;have B2:=zaa (zab BW.o A2.o BW.o.size);obtain⟨x0,x1⟩:=CA.o _ A2.o;clear hb2;clear A1 B1;go_wp2_with fail;refine(LP.o _ B2.o).mono ?_;rintro e w3 ⟨rfl,hb3⟩;have A3:=zaa (zab A2.o hb3 A2.o.size);clear x0 x1;have B3:=zaa (zab BW.o A3.o BW.o.size);obtain⟨x0,x1⟩:=CA.o _ A3.o;clear hb3;clear A2 B2
 by_cases c:tc=0
 case neg =>
  rw[if_neg c]at EL2;obtain rfl:=EL2.o
  have q:(tc != 0)=true:=by rw[bne_iff_ne];exact c
  clear EL2 c x0 x1;go_wp2;go_ret2;exact zde B3.o
 rw[if_pos c]at EL2;subst c;obtain⟨p1,-,p3⟩:=PO.o rfl;have NM:=zaa p3;rw[EN2.o]at EL2;have LE3:=zaa (fun w1 hb=>LE.o td tn w1 hb);have LB2:=zaa (fun w1 hb=>LB.o td (i:Int) w1 hb);generalize zkq ps td tn=ei at *;generalize ziv ps 17 td (i:Int)=bn at *;clear PO p3 EN2 LE LE2 LB;go_wp2_with fail;refine(LE3.o _ B3.o).mono ?_;rintro e w4 ⟨rfl,hb4⟩;have A4:=zaa (zab A3.o hb4 A3.o.size);clear x0 x1;have B4:=zaa (zab BW.o A4.o BW.o.size);obtain⟨x0,x1⟩:=CA.o _ A4.o;clear hb4;clear A3 B3
 by_cases c:0<=ei
 ·rw[if_pos c]at EL2;obtain rfl:=EL2.o;have c1:ei>=0:=c;clear EL2 x0 x1 c;go_wp2;go_ret2;exact zde B4.o
 rw[if_neg c]at EL2;have c1:¬ ei>=0:=c;have y0:=HPk.o _ B4.o;have d0:=(HWi.o _ B4.o).1;have LN:=zaa (fun w1=>zgx (k:Int) ⟨td,tn,(i:Int)⟩ w1 (by omega) (show -1<=(i:Int)/\(i:Int)<=15 by omega) (.inr NM.o));rw[show(Den.mk td tn (i:Int)).v=.agg #[.I td,.string tn,.I (i:Int)]from rfl]at LN;generalize enL (k:Int) ⟨td,tn,(i:Int)⟩=EN at *;clear c
 by_cases q:kd=2
 ·have q1:(kd == 2)=true:=by rw[q];rfl
  cases bn with
  | true =>
   rw[if_pos ⟨q,rfl⟩]at EL2;obtain rfl:=EL2.o;clear EL2 q;go_wp2_with fail;refine(LB2.o _ B4.o).mono ?_;rintro e w5 ⟨rfl,hb5⟩;have B5:=zaa (zab B4.o hb5 B4.o.size);clear hb5 x0 x1 y0 d0;go_wp2;go_ret2;exact zde B5.o
  | false =>
   rw[if_neg (by rintro⟨_,a⟩;cases a)]at EL2;obtain rfl:=EL2.o;clear EL2 q;go_wp2_with fail;refine(LB2.o _ B4.o).mono ?_;rintro e w5 ⟨rfl,hb5⟩;have B5:=zaa (zab B4.o hb5 B4.o.size);clear hb5 x0 x1 y0 d0;go_wp2_with fail;refine(LN.o _).mono ?_;rintro e w6 ⟨v6,rfl,hr6,hb6⟩;have R6:=zaa (hr6.wide B5.o.size zL);have B6:=zaa (zab B5.o hb6 B5.o.size);obtain⟨-,aN,cN,hvN,-⟩:=hr6.rd;subst hvN;clear hr6 hb6;go_wp2;go_ret2;exact⟨_,rfl,R6.o,B6.o⟩
 ·have q1:(kd == 2)=false:=by rw[beq_eq_false_iff_ne];exact q
  rw[if_neg (by rintro⟨a,_⟩;exact q a)]at EL2;obtain rfl:=EL2.o;clear EL2 q;go_wp2_with fail;refine(LN.o _).mono ?_;rintro e w6 ⟨v6,rfl,hr6,hb6⟩;have R6:=zaa (hr6.wide B4.o.size zL);have B6:=zaa (zab B4.o hb6 B4.o.size);obtain⟨-,aN,cN,hvN,-⟩:=hr6.rd;subst hvN;clear hr6 hb6 x0 x1 y0 d0;go_wp2;go_ret2;exact⟨_,rfl,R6.o,B6.o⟩
end Go.Proofs.YtogcbbkhnpmgeaaGreatDoor
