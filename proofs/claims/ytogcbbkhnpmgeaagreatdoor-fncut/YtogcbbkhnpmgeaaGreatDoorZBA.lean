import Derived.Test.YtogcbbkhnpmgeaaGreatDoorZAZ
set_option maxRecDepth 100000
set_option maxHeartbeats 16000000
namespace Go.Proofs.YtogcbbkhnpmgeaaGreatDoor
open Go.RowKit
theorem zyo(v:Value)(ws:List Ino)(ps:List Den)(s t:ByteArray)(w:World)(h:RdIm w v ws ps)(hi:zcr ws ps=true)(hs0:s.size<=65536/\t.size<=65536) :
  zC 150 #[v,.string s,.string t] w fun e w'=>zhy w w' e (lnI ws ps s t):=by
 have LL:=zaa (fun w1 (hb:zB w w1)=>zez v ws ps s w1 (h.below hb) hi hs0.1);have LP:=zaa (fun w1 (hb:zB w w1)=>zdq v ws ps t w1 (h.below hb) hi hs0.2);have LE:=zaa (fun d nm w1 (hb:zB w w1)=>zek v ws ps d nm w1 (h.below hb) (by have:=(zaw hi).2.1;omega));have LK:=zaa (fun w1 (hb:zB w w1)=>zga v ws ps w1 (h.below hb) (by have:=(zaw hi).2.1;omega));have EL:=zaa (show lnI ws ps s t=if (lkI ws ps s).2=0 then(if zai ws (lkI ws ps s).1=2 then([],9)else lnP ws ps t (lkI ws ps s).1) else([],(lkI ws ps s).2)from rfl);have EP:=zaa (fun i=>show lnP ws ps t i=if (paI ws ps t).2.2=0 then lnN ws ps i (paI ws ps t).1 (paI ws ps t).2.1 else([],(paI ws ps t).2.2)from rfl);have EN:=zaa (fun i d nm=>show lnN ws ps i d nm=if 0<=zlh ps d nm then([],8)else if feI ps<0 then([],7) else(enL (feI ps) ⟨d,nm,i⟩++[⟨48+12*i+2,zen ws i+1⟩],0)from rfl);have PO:=zaa (fun c=>zju (s:=t) hi c);have LO:=zaa (zul (s:=s) hi);have LR:=zaa (fun i h0=>zqm hi (i:=i) h0);have f2:=yaal hi;obtain⟨l16,l24,_⟩:=zaw hi;have L16:=zaa l16;have L24:=zaa l24;obtain⟨vW,vP,rfl,h1,h2⟩:=h;obtain⟨aW,cW,rfl,_,hcW⟩:=h1.shape;obtain⟨aP,cP,rfl,_,hcP⟩:=h2.shape;obtain⟨bW,oW,rfl,hblW,hcellW⟩:=hcW (by omega);obtain⟨bP,oP,rfl,hblP,hcellP⟩:=hcP (by omega)
 have HW:Hid (∀ i (h:i<ws.length) w',zB w w'->w'.cell? ⟨bW,oW+i*11,none⟩=some (.I (zai ws (i:Int)))/\w'.cell? ⟨bW,oW+i*11+2,none⟩=some (.I (zen ws (i:Int)))):=fun i h w' hb =>
  ⟨((hb.cell (p:=⟨bW,oW+i*11,none⟩) hblW).trans (hcellW i h).1).trans (by rw[<- zbk h]),((hb.cell (p:=⟨bW,oW+i*11+2,none⟩) hblW).trans (hcellW i h).2.2.1).trans (by rw[<- zki h])⟩
 have HP:Hid (∀ k (h:k<ps.length) w',zB w w'->w'.cell? ⟨bP,oP+k*3+2,none⟩=some (.I (zar ps k))):=fun k h w' hb =>
  ((hb.cell (p:=⟨bP,oP+k*3+2,none⟩) hblP).trans (hcellP k h).2.2).trans (by rw[<- zdl h])
 clear h1 h2 hi hs0 hcW hcP hcellW hcellP l16 l24
 have CA:Hid (∀ w',Below (w.alloc (.cells #[.slice (some ⟨bW,oW,none⟩) ws.length cW,.slice (some ⟨bP,oP,none⟩) ps.length cP] 51)).heap.size (w.alloc (.cells #[.slice (some ⟨bW,oW,none⟩) ws.length cW,.slice (some ⟨bP,oP,none⟩) ps.length cP] 51)) w'->w'.cell? ⟨w.heap.size,0,none⟩=some (.slice (some ⟨bW,oW,none⟩) ws.length cW)/\w'.cell? ⟨w.heap.size,1,none⟩=some (.slice (some ⟨bP,oP,none⟩) ps.length cP)):=fun w' hb=>by
  have:w'.heap[w.heap.size]?=some (.cells #[.slice (some ⟨bW,oW,none⟩) ws.length cW,.slice (some ⟨bP,oP,none⟩) ps.length cP] 51 (0,0)):=(hb.block _ (by simp)).trans (zah rfl);exact⟨(zac this).1,(zac this).2.1⟩
 have BW:Hid (zB w (w.alloc (.cells #[.slice (some ⟨bW,oW,none⟩) ws.length cW,.slice (some ⟨bP,oP,none⟩) ps.length cP] 51))):=zR.alloc zL _;obtain⟨x0,x1⟩:=CA.o _ zR
 obtain⟨W,hW⟩:=zE (w.alloc (.cells #[.slice (some ⟨bW,oW,none⟩) ws.length cW,.slice (some ⟨bP,oP,none⟩) ps.length cP] 51))
 rw[<- hW]at CA BW
 have hz:w.heap.size<W.heap.size:=by rw[hW];simp
 generalize lnI ws ps s t=res at *;generalize paI ws ps t=pr at *;generalize lkI ws ps s=lr at *;generalize feI ps=fe at *;obtain⟨pd,pn,pc⟩:=pr;obtain⟨li,lc⟩:=lr;simp only at EL EP PO LO LL LP
 obtain⟨i,rfl⟩:∃ i:Nat,li=(i:Int):=⟨li.toNat,by have:=LO.o;omega⟩
 have i16:i<16:=by have:=LO.o;omega
 have i1:i<ws.length:=by have:=L16.o;omega
 have i0:(0:Int)<=(i:Int):=by omega
 have il:(i:Int)<(ws.length:Int):=by omega
 have lkr:=LR.o (i:Int) (by omega);have HWi:=zaa (HW.o i i1);have EN2:=zaa (EN.o (i:Int));rw[EP.o]at EL;clear EP EN LR HW HP LO;generalize zai ws (i:Int)=kd at *;generalize zen ws (i:Int)=lk at *;go_enter Tryz.func150,Tryz.ntmps150;go_wp2_with fail;rw[<- hW];clear hW x0 x1;refine(LL.o _ BW.o).mono ?_;rintro e w1 ⟨rfl,hb1⟩;have A1:=zaa hb1;have B1:=zaa (zab BW.o A1.o BW.o.size);obtain⟨x0,x1⟩:=CA.o _ A1.o;clear hb1
 by_cases c:lc=0
 case neg =>
  rw[if_neg c]at EL;obtain rfl:=EL.o
  have q:(lc != 0)=true:=by rw[bne_iff_ne];exact c
  clear EL c x0 x1;go_wp2;go_ret2;exact zcj B1.o
 rw[if_pos c]at EL;subst c;have d0:=(HWi.o _ B1.o).1
 by_cases c:kd=2
 ·rw[if_pos c]at EL;obtain rfl:=EL.o
  have q:(kd == 2)=true:=by rw[c];rfl
  clear EL c;go_wp2;go_ret2;exact zcj B1.o
 rw[if_neg c]at EL
 have q9:(kd == 2)=false:=by rw[beq_eq_false_iff_ne];exact c
 clear c;go_wp2_with fail;refine(LP.o _ B1.o).mono ?_;rintro e w2 ⟨rfl,hb2⟩;have A2:=zaa (zab A1.o hb2 A1.o.size);clear x0 x1;have B2:=zaa (zab BW.o A2.o BW.o.size);obtain⟨x0,x1⟩:=CA.o _ A2.o;clear hb2;clear A1 B1;clear d0 q9
 by_cases c:pc=0
 case neg =>
  rw[if_neg c]at EL;obtain rfl:=EL.o
  have q:(pc != 0)=true:=by rw[bne_iff_ne];exact c
  clear EL c x0 x1;go_wp2;go_ret2;exact zcj B2.o
 rw[if_pos c]at EL;subst c;obtain⟨p1,-,p3⟩:=PO.o rfl;have NM:=zaa p3;rw[EN2.o]at EL;have LE2:=zaa (fun w1 hb=>LE.o pd pn w1 hb);generalize zlh ps pd pn=ei at *;clear PO p3 EN2 LE;go_wp2_with fail;refine(LE2.o _ B2.o).mono ?_;rintro e w3 ⟨rfl,hb3⟩;have A3:=zaa (zab A2.o hb3 A2.o.size);clear x0 x1;have B3:=zaa (zab BW.o A3.o BW.o.size);obtain⟨x0,x1⟩:=CA.o _ A3.o;clear hb3;clear A2 B2
 by_cases c:0<=ei
 ·rw[if_pos c]at EL;obtain rfl:=EL.o;have c1:ei>=0:=c;clear EL x0 x1 c;go_wp2;go_ret2;exact zcj B3.o
 rw[if_neg c]at EL;have c1:¬ ei>=0:=c;clear c;go_wp2_with fail;refine(LK.o _ B3.o).mono ?_;rintro e w4 ⟨rfl,hb4⟩;have A4:=zaa (zab A3.o hb4 A3.o.size);clear x0 x1;have B4:=zaa (zab BW.o A4.o BW.o.size);obtain⟨x0,x1⟩:=CA.o _ A4.o;clear hb4;clear A3 B3;clear c1
 by_cases c3:fe<0
 ·rw[if_pos c3]at EL;obtain rfl:=EL.o;clear EL x0 x1;go_wp2;go_ret2;exact zcj B4.o
 rw[if_neg c3]at EL;have LN:=zaa (fun w1=>zfm fe ⟨pd,pn,(i:Int)⟩ w1 (by omega) (show -1<=(i:Int)/\(i:Int)<=15 by omega) (.inr NM.o));rw[show(Den.mk pd pn (i:Int)).v=.agg #[.I pd,.string pn,.I (i:Int)]from rfl]at LN;have l3:(enL fe ⟨pd,pn,(i:Int)⟩).length<=3:=Nat.le_refl _;generalize enL fe ⟨pd,pn,(i:Int)⟩=EN at *
 have fr:0<=(i:Int)/\(i:Int)<16:=by omega
 have wpl:IntKind.i64.wrap (lk+1)=lk+1:=by rw[IntKind.wrap_i64];omega
 go_wp2_with fail;refine(LN.o _).mono ?_;rintro e w5 ⟨v5,rfl,hr5,hb5⟩
 have J4:Hid (UpI w4 w5 v5 EN):=⟨hr5.1,hb5⟩
 obtain⟨-,aE,cE,hvE,-⟩:=hr5.rd;subst hvE
 have SK:Hid (∀ w',zB w4 w'->w'.cell? ⟨w.heap.size,0,none⟩=some (.slice (some ⟨bW,oW,none⟩) ws.length cW)/\w'.cell? ⟨bW,oW+i*11+2,none⟩=some (.I lk)):=fun w' hb =>
  ⟨(CA.o _ (zab A4.o hb A4.o.size)).1,(HWi.o _ (zab B4.o hb B4.o.size)).2⟩
 clear x0 x1 hr5;obtain⟨x0,y2⟩:=SK.o _ hb5;clear hb5 LN CA;have JA:=zaa (J4.o.below (zR.alloc zL (.cells #[.I (48+12*(i:Int)+2),.I (lk+1)] 104)));have JB:=zaa ((J4.o.below ((Below.refl w5.heap.size w5).drew)).below (zR.alloc zL (.cells #[.I (48+12*(i:Int)+2),.I (lk+1)] 104)));have RA:=zaa (zig w5 (48+12*(i:Int)+2) (lk+1));have RB:=zaa (zig w5.drew (48+12*(i:Int)+2) (lk+1));obtain rfl:=EL.o;clear EL;go_wp2_with fail
 go_region_held3 (fun w'=>w'.cell? ⟨w.heap.size,0,none⟩=some (.slice (some ⟨bW,oW,none⟩) ws.length cW)/\w'.cell? ⟨bW,oW+i*11+2,none⟩=some (.I lk))
  (first | exact SK.o _ G.o.b | exact SK.o _ J4.o.b | exact SK.o _ J4.o.b.drew | exact SK.o _ JA.o.b | exact SK.o _ JB.o.b)
  (first
   | (go_at_call 93;refine(zay _ _ _ fr (by omega)).mono ?_;rintro e w' ⟨rfl,hw'⟩;subst w')
   | (refine zan rfl (.tmp 60) (.tmp 71) 58 rfl w4.heap.size 104 (.agg #[.I 0,.I 0]) 2 16 Tryz.underlying58 zkb rfl (by decide) _ EN.length (ses EN) rfl (by first | exact JA.o.l | exact JB.o.l) _ 1 (ses [⟨48+12*(i:Int)+2,lk+1⟩]) rfl (by first | exact RA.o | exact RB.o) (zev _) (by simp[maxLen];omega) (by omega) (by first | exact JA.o.z | exact JB.o.z) ?_;intro vN wN hownN hgrN;have G:=(by first | exact zaa (JA.o.grow [⟨48+12*(i:Int)+2,lk+1⟩] hownN hgrN) | exact zaa (JB.o.grow [⟨48+12*(i:Int)+2,lk+1⟩] hownN hgrN):Hid (UpI w4 wN vN (EN++[⟨48+12*(i:Int)+2,lk+1⟩])));clear hownN hgrN))
 all_goals
  have G2:=zaa (G.o.wide B4.o);obtain⟨-,aN,cN,hvN,-⟩:=(zad G2.o.l).rd;subst hvN;clear J4 JA JB RA RB y2 SK G x0;go_wp2;go_ret2;exact zzx 0 G2.o
theorem zsb(v:Value)(ws:List Ino)(ps:List Den)(s t:ByteArray)(w:World)(h:RdIm w v ws ps)(hi:zcr ws ps=true)(hs0:s.size<=65536/\t.size<=65536) :
  zC 151 #[v,.string s,.string t] w fun e w'=>zhy w w' e (rnI ws ps s t):=by
 have LL:=zaa (fun w1 (hb:zB w w1)=>zdq v ws ps s w1 (h.below hb) hi hs0.1);have LP:=zaa (fun w1 (hb:zB w w1)=>zdq v ws ps t w1 (h.below hb) hi hs0.2);have LE:=zaa (fun d nm w1 (hb:zB w w1)=>zek v ws ps d nm w1 (h.below hb) (by have:=(zaw hi).2.1;omega));have LB:=zaa (fun a b w1 (hb:zB w w1)=>zps v ws ps a b w1 (h.below hb) (by have:=(zaw hi).2.1;omega));have EL:=zaa (show rnI ws ps s t=if (paI ws ps s).2.2=0 then rnE ws ps t (paI ws ps s).1 (paI ws ps s).2.1 else([],(paI ws ps s).2.2)from rfl);have EE:=zaa (fun d nm=>show rnE ws ps t d nm=match zbs ps d nm with | none=>([],5) | some k=>rnP ws ps t k from rfl);have EP:=zaa (fun k=>show rnP ws ps t k=if (paI ws ps t).2.2=0 then rnN ws ps k (paI ws ps t).1 (paI ws ps t).2.1 else([],(paI ws ps t).2.2)from rfl);have EN:=zaa (fun k d nm=>show rnN ws ps k d nm=if 0<=zlh ps d nm then([],8)else if zai ws (zar ps k)=2/\zpt ps 17 d (zar ps k)=true then([],13) else(enL (k:Int) ⟨d,nm,zar ps k⟩,0)from rfl);have PO:=zaa (fun c=>zju (s:=t) hi c);have CR:=zaa (fun d nm k e=>zfg hi (d:=d) (nm:=nm) (k:=k) e);obtain⟨l16,l24,_⟩:=zaw hi;have L16:=zaa l16;have L24:=zaa l24;obtain⟨vW,vP,rfl,h1,h2⟩:=h;obtain⟨aW,cW,rfl,_,hcW⟩:=h1.shape;obtain⟨aP,cP,rfl,_,hcP⟩:=h2.shape;obtain⟨bW,oW,rfl,hblW,hcellW⟩:=hcW (by omega);obtain⟨bP,oP,rfl,hblP,hcellP⟩:=hcP (by omega)
 have HW:Hid (∀ i (h:i<ws.length) w',zB w w'->w'.cell? ⟨bW,oW+i*11,none⟩=some (.I (zai ws (i:Int)))/\w'.cell? ⟨bW,oW+i*11+2,none⟩=some (.I (zen ws (i:Int)))):=fun i h w' hb =>
  ⟨((hb.cell (p:=⟨bW,oW+i*11,none⟩) hblW).trans (hcellW i h).1).trans (by rw[<- zbk h]),((hb.cell (p:=⟨bW,oW+i*11+2,none⟩) hblW).trans (hcellW i h).2.2.1).trans (by rw[<- zki h])⟩
 have HP:Hid (∀ k (h:k<ps.length) w',zB w w'->w'.cell? ⟨bP,oP+k*3+2,none⟩=some (.I (zar ps k))):=fun k h w' hb =>
  ((hb.cell (p:=⟨bP,oP+k*3+2,none⟩) hblP).trans (hcellP k h).2.2).trans (by rw[<- zdl h])
 clear h1 h2 hi hs0 hcW hcP hcellW hcellP l16 l24
 have CA:Hid (∀ w',Below (w.alloc (.cells #[.slice (some ⟨bW,oW,none⟩) ws.length cW,.slice (some ⟨bP,oP,none⟩) ps.length cP] 51)).heap.size (w.alloc (.cells #[.slice (some ⟨bW,oW,none⟩) ws.length cW,.slice (some ⟨bP,oP,none⟩) ps.length cP] 51)) w'->w'.cell? ⟨w.heap.size,0,none⟩=some (.slice (some ⟨bW,oW,none⟩) ws.length cW)/\w'.cell? ⟨w.heap.size,1,none⟩=some (.slice (some ⟨bP,oP,none⟩) ps.length cP)):=fun w' hb=>by
  have:w'.heap[w.heap.size]?=some (.cells #[.slice (some ⟨bW,oW,none⟩) ws.length cW,.slice (some ⟨bP,oP,none⟩) ps.length cP] 51 (0,0)):=(hb.block _ (by simp)).trans (zah rfl);exact⟨(zac this).1,(zac this).2.1⟩
 have BW:Hid (zB w (w.alloc (.cells #[.slice (some ⟨bW,oW,none⟩) ws.length cW,.slice (some ⟨bP,oP,none⟩) ps.length cP] 51))):=zR.alloc zL _;obtain⟨x0,x1⟩:=CA.o _ zR
 obtain⟨W,hW⟩:=zE (w.alloc (.cells #[.slice (some ⟨bW,oW,none⟩) ws.length cW,.slice (some ⟨bP,oP,none⟩) ps.length cP] 51))
 rw[<- hW]at CA BW
 have hz:w.heap.size<W.heap.size:=by rw[hW];simp
 generalize rnI ws ps s t=res at *;generalize paI ws ps s=pr at *;generalize paI ws ps t=pt at *;obtain⟨pd,pn,pc⟩:=pr;obtain⟨td,tn,tc⟩:=pt;simp only at EL EP PO LL LP;go_enter Tryz.func151,Tryz.ntmps151;go_wp2_with fail;rw[<- hW];clear hW x0 x1;refine(LL.o _ BW.o).mono ?_;rintro e w1 ⟨rfl,hb1⟩;have A1:=zaa hb1;have B1:=zaa (zab BW.o A1.o BW.o.size);obtain⟨x0,x1⟩:=CA.o _ A1.o;clear hb1
 by_cases c:pc=0
 case neg =>
  rw[if_neg c]at EL;obtain rfl:=EL.o
  have q:(pc != 0)=true:=by rw[bne_iff_ne];exact c
  clear EL c x0 x1;go_wp2;go_ret2;exact zcj B1.o
 rw[if_pos c]at EL;subst c;rw[EE.o]at EL;have LE2:=zaa (fun w1 hb=>LE.o pd pn w1 hb);clear EE
 cases he:zbs ps pd pn with
 | none =>
  rw[he]at EL;obtain rfl:=EL.o;have e1:=(znw (ps:=ps) (d:=pd) (nm:=pn)).1 he;generalize zlh ps pd pn=ei at *;clear EL he;go_wp2_with fail;refine(LE2.o _ B1.o).mono ?_;rintro e w2 ⟨rfl,hb2⟩;have B2:=zaa (zab B1.o hb2 B1.o.size);clear hb2 x0 x1
  have e2:ei<0:=by omega
  clear e1;go_wp2;go_ret2;exact zcj B2.o
 | some k =>
 rw[he]at EL;have EL2:Hid (res=rnP ws ps t k):=EL.o;rw[EP.o]at EL2;rw[ztt he]at LE2;obtain⟨k1,k2⟩:=CR.o _ _ _ he;have EN2:=zaa (EN.o k);have HPk:=zaa (HP.o k k1)
 obtain⟨i,hi'⟩:∃ i:Nat,zar ps k=(i:Int):=⟨(zar ps k).toNat,by omega⟩
 rw[hi']at EN2 HPk
 have i1:i<ws.length:=by have:=L16.o;omega
 have k24:k<24:=by have:=L24.o;omega
 have i16:i<16:=by omega
 have kl:(k:Int)<(ps.length:Int):=by omega
 have il:(i:Int)<(ws.length:Int):=by omega
 have k0:(0:Int)<=(k:Int):=by omega
 have i0:(0:Int)<=(i:Int):=by omega
 have HWi:=zaa (HW.o i i1);clear EL EP EN CR HW HP he hi' k2;generalize zai ws (i:Int)=kd at *;go_wp2_with fail;refine(LE2.o _ B1.o).mono ?_;rintro e w2 ⟨rfl,hb2⟩;have A2:=zaa (zab A1.o hb2 A1.o.size);clear x0 x1;have B2:=zaa (zab BW.o A2.o BW.o.size);obtain⟨x0,x1⟩:=CA.o _ A2.o;clear hb2;clear A1 B1;go_wp2_with fail;refine(LP.o _ B2.o).mono ?_;rintro e w3 ⟨rfl,hb3⟩;have A3:=zaa (zab A2.o hb3 A2.o.size);clear x0 x1;have B3:=zaa (zab BW.o A3.o BW.o.size);obtain⟨x0,x1⟩:=CA.o _ A3.o;clear hb3;clear A2 B2
 by_cases c:tc=0
 case neg =>
  rw[if_neg c]at EL2;obtain rfl:=EL2.o
  have q:(tc != 0)=true:=by rw[bne_iff_ne];exact c
  clear EL2 c x0 x1;go_wp2;go_ret2;exact zcj B3.o
 rw[if_pos c]at EL2;subst c;obtain⟨p1,-,p3⟩:=PO.o rfl;have NM:=zaa p3;rw[EN2.o]at EL2;have LE3:=zaa (fun w1 hb=>LE.o td tn w1 hb);have LB2:=zaa (fun w1 hb=>LB.o td (i:Int) w1 hb);generalize zlh ps td tn=ei at *;generalize zpt ps 17 td (i:Int)=bn at *;clear PO p3 EN2 LE LE2 LB;go_wp2_with fail;refine(LE3.o _ B3.o).mono ?_;rintro e w4 ⟨rfl,hb4⟩;have A4:=zaa (zab A3.o hb4 A3.o.size);clear x0 x1;have B4:=zaa (zab BW.o A4.o BW.o.size);obtain⟨x0,x1⟩:=CA.o _ A4.o;clear hb4;clear A3 B3
 by_cases c:0<=ei
 ·rw[if_pos c]at EL2;obtain rfl:=EL2.o;have c1:ei>=0:=c;clear EL2 x0 x1 c;go_wp2;go_ret2;exact zcj B4.o
 rw[if_neg c]at EL2;have c1:¬ ei>=0:=c;have y0:=HPk.o _ B4.o;have d0:=(HWi.o _ B4.o).1;have LN:=zaa (fun w1=>zfm (k:Int) ⟨td,tn,(i:Int)⟩ w1 (by omega) (show -1<=(i:Int)/\(i:Int)<=15 by omega) (.inr NM.o));rw[show(Den.mk td tn (i:Int)).v=.agg #[.I td,.string tn,.I (i:Int)]from rfl]at LN;generalize enL (k:Int) ⟨td,tn,(i:Int)⟩=EN at *;clear c
 by_cases q:kd=2
 ·have q1:(kd == 2)=true:=by rw[q];rfl
  cases bn with
  | true =>
   rw[if_pos ⟨q,rfl⟩]at EL2;obtain rfl:=EL2.o;clear EL2 q;go_wp2_with fail;refine(LB2.o _ B4.o).mono ?_;rintro e w5 ⟨rfl,hb5⟩;have B5:=zaa (zab B4.o hb5 B4.o.size);clear hb5 x0 x1 y0 d0;go_wp2;go_ret2;exact zcj B5.o
  | false =>
   rw[if_neg (by rintro⟨_,a⟩;cases a)]at EL2;obtain rfl:=EL2.o;clear EL2 q;go_wp2_with fail;refine(LB2.o _ B4.o).mono ?_;rintro e w5 ⟨rfl,hb5⟩;have B5:=zaa (zab B4.o hb5 B4.o.size);clear hb5 x0 x1 y0 d0;go_wp2_with fail;refine(LN.o _).mono ?_;rintro e w6 ⟨v6,rfl,hr6,hb6⟩;have R6:=zaa (hr6.wide B5.o.size zL);have B6:=zaa (zab B5.o hb6 B5.o.size);obtain⟨-,aN,cN,hvN,-⟩:=hr6.rd;subst hvN;clear hr6 hb6;go_wp2;go_ret2;exact⟨_,rfl,R6.o,B6.o⟩
 ·have q1:(kd == 2)=false:=by rw[beq_eq_false_iff_ne];exact q
  rw[if_neg (by rintro⟨a,_⟩;exact q a)]at EL2;obtain rfl:=EL2.o;clear EL2 q;go_wp2_with fail;refine(LN.o _).mono ?_;rintro e w6 ⟨v6,rfl,hr6,hb6⟩;have R6:=zaa (hr6.wide B4.o.size zL);have B6:=zaa (zab B4.o hb6 B4.o.size);obtain⟨-,aN,cN,hvN,-⟩:=hr6.rd;subst hvN;clear hr6 hb6 x0 x1 y0 d0;go_wp2;go_ret2;exact⟨_,rfl,R6.o,B6.o⟩
theorem zgz(v:Value)(ws:List Int)(ps:List St)(es:List Int)(qs:List Se)(e:Int)(w:World)(h:RdDev w v ws ps es qs)(hP:pmB ws ps=true)(hB:zfj es qs=true)(te:zef e=true) :
  zC 145 #[v,.I e] w fun r w'=>r=.returned (.I (pgV ws ps es qs e))/\zB w w':=by
 obtain⟨aW,cW,aP,cP,aS,cS,aQ,cQ,rfl,h1,h2⟩:=h.form
 have te':0<=e/\((e%4=0/\e/4=0)\/(e%4=1/\0<=e/4/\e/4<24)\/(e%4=2/\0<=e/4/\e/4<32)):=by
  unfold zef zgp at te;rw[Bool.and_eq_true,decide_eq_true_eq,decide_eq_true_eq]at te;exact te
 have wl:=zed hP;have el:=zcy hB;have BW:Hid (zB w (w.alloc (.cells #[.slice aW ws.length cW,.slice aP ps.length cP,.slice aS es.length cS,.slice aQ qs.length cQ] 31))):=zR.alloc zL _;have LT:=zaa (fun w1=>zeb e w1 te'.1 (by omega));have EV:=zaa (show pgV ws ps es qs e=if e%4=1 then ldW ws ps (312+e/4).toNat else if e%4=2 then zfz (e/4) (es[(e/4).toNat]?.getD 0) qs else 0 from rfl)
 have L1:Hid (∀ (k:Nat),k<24->∀ w1,zB w w1->zC 139 #[.agg #[.slice aW ws.length cW,.slice aP ps.length cP],.I (312+(k:Int))] w1 fun r w'=>r=.returned (.I (ldW ws ps (312+k)))/\zB w1 w'):=fun k hk w1 hb=>by
  have:=znd _ ws ps (312+k) w1 (h1.below hb) (by omega) (by omega) (by omega);rw[<- yatg,show((312+k:Nat):Int)=312+(k:Int) by omega]at this;exact this
 have L2:Hid (∀ (k:Nat),k<32->∀ w1,zB w w1->zC 196 #[.agg #[.slice aS es.length cS,.slice aQ qs.length cQ],.I (k:Int)] w1 fun r w'=>r=.returned (.I (zfz (k:Int) (es[k]?.getD 0) qs))/\zB w1 w'):=fun k hk w1 hb=>by
  have:=zyb _ es qs k w1 (h2.below hb) (by omega) (by omega) (by omega);rw[show(es[k]?.getD 0)=es[k]'(by omega) by simp[show k<es.length by omega]];exact this
 clear h h1 h2 te hP hB wl el;generalize pgV ws ps es qs e=r at *;generalize e%4=t at *;generalize e/4=a at *
 rcases te'.2 with ⟨rfl,rfl⟩ | ⟨rfl,a0,a1⟩ | ⟨rfl,a0,a1⟩
 ·rw[if_neg (by omega),if_neg (by omega)]at EV;obtain rfl:=EV.o;clear te' L1 L2 EV;go_enter Tryz.func145,Tryz.ntmps145;go_wp2_with fail;refine(LT.o _).mono ?_;rintro r w1 ⟨rfl,rfl⟩;go_wp2;go_ret;exact⟨rfl,BW.o⟩
 ·obtain⟨k,rfl⟩:∃ k:Nat,a=(k:Int):=⟨a.toNat,by omega⟩
  rw[if_pos rfl,show(312+(k:Int)).toNat=312+k by omega]at EV;obtain rfl:=EV.o
  have k24:k<24:=by omega
  have Q:=zaa (L1.o k k24);clear te' L1 L2 EV a0 a1;go_enter Tryz.func145,Tryz.ntmps145;go_wp2_with fail;refine(LT.o _).mono ?_;rintro r w1 ⟨rfl,rfl⟩;go_wp2_with fail;refine(Q.o _ BW.o).mono ?_;rintro r w2 ⟨rfl,hb2⟩;have B2:=zaa (zab BW.o hb2 BW.o.size);clear hb2;go_wp2;go_ret;exact⟨rfl,B2.o⟩
 ·obtain⟨k,rfl⟩:∃ k:Nat,a=(k:Int):=⟨a.toNat,by omega⟩
  rw[if_neg (by omega),if_pos rfl,Int.toNat_natCast]at EV;obtain rfl:=EV.o
  have k32:k<32:=by omega
  have Q:=zaa (L2.o k k32);clear te' L1 L2 EV a0 a1;go_enter Tryz.func145,Tryz.ntmps145;go_wp2_with fail;refine(LT.o _).mono ?_;rintro r w1 ⟨rfl,rfl⟩;go_wp2_with fail;refine(Q.o _ BW.o).mono ?_;rintro r w2 ⟨rfl,hb2⟩;have B2:=zaa (zab BW.o hb2 BW.o.size);clear hb2;go_wp2;go_ret;exact⟨rfl,B2.o⟩
theorem zis(v:Value)(ns:List Ino)(ds:List Den)(s:ByteArray)(w:World)(h:RdIm w v ns ds)(hi:zcr ns ds=true)(hs:s.size<=65536) :
  zC 92 #[v,.string s] w fun e w'=>e=.returned (.tuple #[.I (flI ns ds s).1,.I (flI ns ds s).2])/\zB w w':=by
 have LL:=zaa (fun w1 (hb:zB w w1)=>zez v ns ds s w1 (h.below hb) hi hs);have EL:=zaa (show flI ns ds s=if (lkI ns ds s).2=0 then(if zai ns (lkI ns ds s).1=1 then((lkI ns ds s).1,0) else(0,9)) else(0,(lkI ns ds s).2)from rfl);have LO:=zaa (zul (s:=s) hi);obtain⟨l16,l24,_⟩:=zaw hi;have L16:=zaa l16;obtain⟨vW,vP,rfl,h1,h2⟩:=h;obtain⟨aW,cW,rfl,_,hcW⟩:=h1.shape;obtain⟨aP,cP,rfl,_,hcP⟩:=h2.shape;obtain⟨bW,oW,rfl,hblW,hcellW⟩:=hcW (by omega)
 have HW:Hid (∀ i (h:i<ns.length) w',zB w w'->w'.cell? ⟨bW,oW+i*11,none⟩=some (.I (zai ns (i:Int)))):=fun i h w' hb =>
  ((hb.cell (p:=⟨bW,oW+i*11,none⟩) hblW).trans (hcellW i h).1).trans (by rw[<- zbk h])
 clear h1 h2 hi hs hcW hcP hcellW l16 l24
 have CA:Hid (∀ w',Below (w.alloc (.cells #[.slice (some ⟨bW,oW,none⟩) ns.length cW,.slice aP ds.length cP] 51)).heap.size (w.alloc (.cells #[.slice (some ⟨bW,oW,none⟩) ns.length cW,.slice aP ds.length cP] 51)) w'->w'.cell? ⟨w.heap.size,0,none⟩=some (.slice (some ⟨bW,oW,none⟩) ns.length cW)/\w'.cell? ⟨w.heap.size,1,none⟩=some (.slice aP ds.length cP)):=fun w' hb=>by
  have:w'.heap[w.heap.size]?=some (.cells #[.slice (some ⟨bW,oW,none⟩) ns.length cW,.slice aP ds.length cP] 51 (0,0)):=(hb.block _ (by simp)).trans (zah rfl);exact⟨(zac this).1,(zac this).2.1⟩
 have BW:Hid (zB w (w.alloc (.cells #[.slice (some ⟨bW,oW,none⟩) ns.length cW,.slice aP ds.length cP] 51))):=zR.alloc zL _;obtain⟨x0,x1⟩:=CA.o _ zR
 obtain⟨W,hW⟩:=zE (w.alloc (.cells #[.slice (some ⟨bW,oW,none⟩) ns.length cW,.slice aP ds.length cP] 51))
 rw[<- hW]at CA BW
 have hz:w.heap.size<W.heap.size:=by rw[hW];simp
 generalize flI ns ds s=res at *;generalize lkI ns ds s=lr at *;obtain⟨li,lc⟩:=lr;simp only at EL LO LL
 obtain⟨i,rfl⟩:∃ i:Nat,li=(i:Int):=⟨li.toNat,by have:=LO.o;omega⟩
 have i1:i<ns.length:=by have:=LO.o;have:=L16.o;omega
 have i0:(0:Int)<=(i:Int):=by omega
 have il:(i:Int)<(ns.length:Int):=by omega
 have HWi:=zaa (HW.o i i1);clear HW LO;generalize zai ns (i:Int)=kd at *;go_enter Tryz.func92,Tryz.ntmps92;go_wp2_with fail;rw[<- hW];clear hW x0 x1;refine(LL.o _ BW.o).mono ?_;rintro e w1 ⟨rfl,hb1⟩;have A1:=zaa hb1;have B1:=zaa (zab BW.o A1.o BW.o.size);obtain⟨x0,x1⟩:=CA.o _ A1.o;clear hb1
 by_cases c:lc=0
 case neg =>
  rw[if_neg c]at EL;obtain rfl:=EL.o
  have q:(lc != 0)=true:=by rw[bne_iff_ne];exact c
  go_wp2;go_ret2;exact⟨rfl,B1.o⟩
 subst c;rw[if_pos rfl]at EL;have y0:=HWi.o _ B1.o
 by_cases c:kd=1
 ·rw[if_pos c]at EL;obtain rfl:=EL.o
  have q:(kd != 1)=false:=by rw[c];rfl
  go_wp2;go_ret2;exact⟨rfl,B1.o⟩
 ·rw[if_neg c]at EL;obtain rfl:=EL.o
  have q:(kd != 1)=true:=by rw[bne_iff_ne];exact c
  go_wp2;go_ret2;exact⟨rfl,B1.o⟩
end Go.Proofs.YtogcbbkhnpmgeaaGreatDoor
