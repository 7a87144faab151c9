import Derived.Test.YtfagbapgnocjiaaGreatDoorZAY
set_option maxRecDepth 100000
set_option maxHeartbeats 16000000
namespace Go.Proofs.YtfagbapgnocjiaaGreatDoor
open Go.RowKit
theorem zrf(v:Value)(bs:List Int)(w:World)(h:RdB w v bs)(hl:bs.length<=1048576) :
  zC 14 #[v] w fun e w'=>e=.returned (.pointer (some ⟨w.heap.size,0,none⟩))/\SrcE w w' w.heap.size v bs 0 ((bs.length:Int)%1000)/\zB w w':=by
 have H:=zaa h;obtain⟨aC,cC,rfl,_⟩:=h.shape;clear h
 have hm:(0:Int)<=(bs.length:Int):=by omega
 go_enter Tryz.func14,Tryz.ntmps14;go_wp2;go_ret;refine⟨rfl,⟨⟨H.o,hl,Nat.le_refl _,zR.alloc zL _,by simp,0,(bs.length:Int)%1000,by omega,by omega,by omega,by omega,zai rfl⟩,by omega,by omega,zai rfl⟩,zR.alloc zL _⟩
def ldW(ws:List Int)(ps:List St)(k:Nat):Int:=zjy (k:Int) (ws[k]?.getD 0) ps
theorem yarm{ws:List Int}{ps:List St}{k:Nat}(h:k<ws.length):ldW ws ps k=zjy (k:Int) ws[k] ps:=by unfold ldW;simp[h]
theorem zym(v:Value)(ws:List Ino)(ps:List Den)(s t:ByteArray)(w:World)(h:RdIm w v ws ps)(hi:zbo ws ps=true)(hs0:s.size<=65536/\t.size<=65536) :
  zC 181 #[v,.string s,.string t] w fun e w'=>zru w w' e (lnI ws ps s t):=by
 have LL:=zaa (fun w1 (hb:zB w w1)=>zeu v ws ps s w1 (h.below hb) hi hs0.1);have LP:=zaa (fun w1 (hb:zB w w1)=>zdi v ws ps t w1 (h.below hb) hi hs0.2);have LE:=zaa (fun d nm w1 (hb:zB w w1)=>zdf v ws ps d nm w1 (h.below hb) (by have:=(zao hi).2.1;omega));have LK:=zaa (fun w1 (hb:zB w w1)=>zga v ws ps w1 (h.below hb) (by have:=(zao hi).2.1;omega));have EL:=zaa (show lnI ws ps s t=if (lkI ws ps s).2=0 then(if zag ws (lkI ws ps s).1=2 then([],9)else lnP ws ps t (lkI ws ps s).1) else([],(lkI ws ps s).2)from rfl);have EP:=zaa (fun i=>show lnP ws ps t i=if (paI ws ps t).2.2=0 then lnN ws ps i (paI ws ps t).1 (paI ws ps t).2.1 else([],(paI ws ps t).2.2)from rfl);have EN:=zaa (fun i d nm=>show lnN ws ps i d nm=if 0<=zjr ps d nm then([],8)else if feI ps<0 then([],7) else(enL (feI ps) ⟨d,nm,i⟩++[⟨48+12*i+2,zeo ws i+1⟩],0)from rfl);have PO:=zaa (fun c=>zjp (s:=t) hi c);have LO:=zaa (yaab (s:=s) hi);have LR:=zaa (fun i h0=>zpx hi (i:=i) h0);have f2:=zzx hi;obtain⟨l16,l24,_⟩:=zao hi;have L16:=zaa l16;have L24:=zaa l24;obtain⟨vW,vP,rfl,h1,h2⟩:=h;obtain⟨aW,cW,rfl,_,hcW⟩:=h1.shape;obtain⟨aP,cP,rfl,_,hcP⟩:=h2.shape;obtain⟨bW,oW,rfl,hblW,hcellW⟩:=hcW (by omega);obtain⟨bP,oP,rfl,hblP,hcellP⟩:=hcP (by omega)
 have HW:Hid (∀ i (h:i<ws.length) w',zB w w'->w'.cell? ⟨bW,oW+i*11,none⟩=some (.I (zag ws (i:Int)))/\w'.cell? ⟨bW,oW+i*11+2,none⟩=some (.I (zeo ws (i:Int)))):=fun i h w' hb =>
  ⟨((hb.cell (p:=⟨bW,oW+i*11,none⟩) hblW).trans (hcellW i h).1).trans (by rw[<- zbc h]),((hb.cell (p:=⟨bW,oW+i*11+2,none⟩) hblW).trans (hcellW i h).2.2.1).trans (by rw[<- zjf h])⟩
 have HP:Hid (∀ k (h:k<ps.length) w',zB w w'->w'.cell? ⟨bP,oP+k*3+2,none⟩=some (.I (zap ps k))):=fun k h w' hb =>
  ((hb.cell (p:=⟨bP,oP+k*3+2,none⟩) hblP).trans (hcellP k h).2.2).trans (by rw[<- zch h])
 clear h1 h2 hi hs0 hcW hcP hcellW hcellP l16 l24
 have CA:Hid (∀ w',Below (w.alloc (.cells #[.slice (some ⟨bW,oW,none⟩) ws.length cW,.slice (some ⟨bP,oP,none⟩) ps.length cP] 26)).heap.size (w.alloc (.cells #[.slice (some ⟨bW,oW,none⟩) ws.length cW,.slice (some ⟨bP,oP,none⟩) ps.length cP] 26)) w'->w'.cell? ⟨w.heap.size,0,none⟩=some (.slice (some ⟨bW,oW,none⟩) ws.length cW)/\w'.cell? ⟨w.heap.size,1,none⟩=some (.slice (some ⟨bP,oP,none⟩) ps.length cP)):=fun w' hb=>by
  have:w'.heap[w.heap.size]?=some (.cells #[.slice (some ⟨bW,oW,none⟩) ws.length cW,.slice (some ⟨bP,oP,none⟩) ps.length cP] 26 (0,0)):=(hb.block _ (by simp)).trans (zai rfl);exact⟨(zad this).1,(zad this).2.1⟩
 have BW:Hid (zB w (w.alloc (.cells #[.slice (some ⟨bW,oW,none⟩) ws.length cW,.slice (some ⟨bP,oP,none⟩) ps.length cP] 26))):=zR.alloc zL _;obtain⟨x0,x1⟩:=CA.o _ zR
 obtain⟨W,hW⟩:=zE (w.alloc (.cells #[.slice (some ⟨bW,oW,none⟩) ws.length cW,.slice (some ⟨bP,oP,none⟩) ps.length cP] 26))
 rw[<- hW]at CA BW
 have hz:w.heap.size<W.heap.size:=by rw[hW];simp
 generalize lnI ws ps s t=res at *;generalize paI ws ps t=pr at *;generalize lkI ws ps s=lr at *;generalize feI ps=fe at *;obtain⟨pd,pn,pc⟩:=pr;obtain⟨li,lc⟩:=lr;simp only at EL EP PO LO LL LP
 obtain⟨i,rfl⟩:∃ i:Nat,li=(i:Int):=⟨li.toNat,by have:=LO.o;omega⟩
 have i16:i<16:=by have:=LO.o;omega
 have i1:i<ws.length:=by have:=L16.o;omega
 have i0:(0:Int)<=(i:Int):=by omega
 have il:(i:Int)<(ws.length:Int):=by omega
 have lkr:=LR.o (i:Int) (by omega);have HWi:=zaa (HW.o i i1);have EN2:=zaa (EN.o (i:Int));rw[EP.o]at EL;clear EP EN LR HW HP LO;generalize zag ws (i:Int)=kd at *;generalize zeo ws (i:Int)=lk at *;go_enter Tryz.func181,Tryz.ntmps181;go_wp2_with fail;rw[<- hW];clear hW x0 x1;refine(LL.o _ BW.o).mono ?_;rintro e w1 ⟨rfl,hb1⟩;have A1:=zaa hb1;have B1:=zaa (zab BW.o A1.o BW.o.size);obtain⟨x0,x1⟩:=CA.o _ A1.o;clear hb1
 by_cases c:lc=0
 case neg =>
  rw[if_neg c]at EL;obtain rfl:=EL.o
  have q:(lc != 0)=true:=by rw[bne_iff_ne];exact c
  clear EL c x0 x1;go_wp2;go_ret2;exact zck B1.o
 rw[if_pos c]at EL;subst c;have d0:=(HWi.o _ B1.o).1
 by_cases c:kd=2
 ·rw[if_pos c]at EL;obtain rfl:=EL.o
  have q:(kd == 2)=true:=by rw[c];rfl
  clear EL c;go_wp2;go_ret2;exact zck B1.o
 rw[if_neg c]at EL
 have q9:(kd == 2)=false:=by rw[beq_eq_false_iff_ne];exact c
 clear c;go_wp2_with fail;refine(LP.o _ B1.o).mono ?_;rintro e w2 ⟨rfl,hb2⟩;have A2:=zaa (zab A1.o hb2 A1.o.size);clear x0 x1;have B2:=zaa (zab BW.o A2.o BW.o.size);obtain⟨x0,x1⟩:=CA.o _ A2.o;clear hb2;clear A1 B1;clear d0 q9
 by_cases c:pc=0
 case neg =>
  rw[if_neg c]at EL;obtain rfl:=EL.o
  have q:(pc != 0)=true:=by rw[bne_iff_ne];exact c
  clear EL c x0 x1;go_wp2;go_ret2;exact zck B2.o
 rw[if_pos c]at EL;subst c;obtain⟨p1,-,p3⟩:=PO.o rfl;have NM:=zaa p3;rw[EN2.o]at EL;have LE2:=zaa (fun w1 hb=>LE.o pd pn w1 hb);generalize zjr ps pd pn=ei at *;clear PO p3 EN2 LE;go_wp2_with fail;refine(LE2.o _ B2.o).mono ?_;rintro e w3 ⟨rfl,hb3⟩;have A3:=zaa (zab A2.o hb3 A2.o.size);clear x0 x1;have B3:=zaa (zab BW.o A3.o BW.o.size);obtain⟨x0,x1⟩:=CA.o _ A3.o;clear hb3;clear A2 B2
 by_cases c:0<=ei
 ·rw[if_pos c]at EL;obtain rfl:=EL.o;have c1:ei>=0:=c;clear EL x0 x1 c;go_wp2;go_ret2;exact zck B3.o
 rw[if_neg c]at EL;have c1:¬ ei>=0:=c;clear c;go_wp2_with fail;refine(LK.o _ B3.o).mono ?_;rintro e w4 ⟨rfl,hb4⟩;have A4:=zaa (zab A3.o hb4 A3.o.size);clear x0 x1;have B4:=zaa (zab BW.o A4.o BW.o.size);obtain⟨x0,x1⟩:=CA.o _ A4.o;clear hb4;clear A3 B3;clear c1
 by_cases c3:fe<0
 ·rw[if_pos c3]at EL;obtain rfl:=EL.o;clear EL x0 x1;go_wp2;go_ret2;exact zck B4.o
 rw[if_neg c3]at EL;have LN:=zaa (fun w1=>zfg fe ⟨pd,pn,(i:Int)⟩ w1 (by omega) (show -1<=(i:Int)/\(i:Int)<=15 by omega) (.inr NM.o));rw[show(Den.mk pd pn (i:Int)).v=.agg #[.I pd,.string pn,.I (i:Int)]from rfl]at LN;have l3:(enL fe ⟨pd,pn,(i:Int)⟩).length<=3:=Nat.le_refl _;generalize enL fe ⟨pd,pn,(i:Int)⟩=EN at *
 have fr:0<=(i:Int)/\(i:Int)<16:=by omega
 have wpl:IntKind.i64.wrap (lk+1)=lk+1:=by rw[IntKind.wrap_i64];omega
 go_wp2_with fail;refine(LN.o _).mono ?_;rintro e w5 ⟨v5,rfl,hr5,hb5⟩
 have J4:Hid (UpI w4 w5 v5 EN):=⟨hr5.1,hb5⟩
 obtain⟨-,aE,cE,hvE,-⟩:=hr5.rd;subst hvE
 have SK:Hid (∀ w',zB w4 w'->w'.cell? ⟨w.heap.size,0,none⟩=some (.slice (some ⟨bW,oW,none⟩) ws.length cW)/\w'.cell? ⟨bW,oW+i*11+2,none⟩=some (.I lk)):=fun w' hb =>
  ⟨(CA.o _ (zab A4.o hb A4.o.size)).1,(HWi.o _ (zab B4.o hb B4.o.size)).2⟩
 clear x0 x1 hr5;obtain⟨x0,y2⟩:=SK.o _ hb5;clear hb5 LN CA;have JA:=zaa (J4.o.below (zR.alloc zL (.cells #[.I (48+12*(i:Int)+2),.I (lk+1)] 208)));have JB:=zaa ((J4.o.below ((Below.refl w5.heap.size w5).drew)).below (zR.alloc zL (.cells #[.I (48+12*(i:Int)+2),.I (lk+1)] 208)));have RA:=zaa (zir w5 (48+12*(i:Int)+2) (lk+1));have RB:=zaa (zir w5.drew (48+12*(i:Int)+2) (lk+1));obtain rfl:=EL.o;clear EL;go_wp2_with fail
 go_region_held3 (fun w'=>w'.cell? ⟨w.heap.size,0,none⟩=some (.slice (some ⟨bW,oW,none⟩) ws.length cW)/\w'.cell? ⟨bW,oW+i*11+2,none⟩=some (.I lk))
  (first | exact SK.o _ G.o.b | exact SK.o _ J4.o.b | exact SK.o _ J4.o.b.drew | exact SK.o _ JA.o.b | exact SK.o _ JB.o.b)
  (first
   | (go_at_call 56;refine(zay _ _ _ fr (by omega)).mono ?_;rintro e w' ⟨rfl,hw'⟩;subst w')
   | (refine zam rfl (.tmp 60) (.tmp 71) 189 rfl w4.heap.size 208 (.agg #[.I 0,.I 0]) 2 16 Tryz.underlying189 zkv rfl (by decide) _ EN.length (ses EN) rfl (by first | exact JA.o.l | exact JB.o.l) _ 1 (ses [⟨48+12*(i:Int)+2,lk+1⟩]) rfl (by first | exact RA.o | exact RB.o) (zff _) (by simp[maxLen];omega) (by omega) (by first | exact JA.o.z | exact JB.o.z) ?_;intro vN wN hownN hgrN;have G:=(by first | exact zaa (JA.o.grow [⟨48+12*(i:Int)+2,lk+1⟩] hownN hgrN) | exact zaa (JB.o.grow [⟨48+12*(i:Int)+2,lk+1⟩] hownN hgrN):Hid (UpI w4 wN vN (EN++[⟨48+12*(i:Int)+2,lk+1⟩])));clear hownN hgrN))
 all_goals
  have G2:=zaa (G.o.wide B4.o);obtain⟨-,aN,cN,hvN,-⟩:=(zac G2.o.l).rd;subst hvN;clear J4 JA JB RA RB y2 SK G x0;go_wp2;go_ret2;exact yaaz 0 G2.o
theorem zrm(v:Value)(ws:List Ino)(ps:List Den)(s t:ByteArray)(w:World)(h:RdIm w v ws ps)(hi:zbo ws ps=true)(hs0:s.size<=65536/\t.size<=65536) :
  zC 182 #[v,.string s,.string t] w fun e w'=>zru w w' e (rnI ws ps s t):=by
 have LL:=zaa (fun w1 (hb:zB w w1)=>zdi v ws ps s w1 (h.below hb) hi hs0.1);have LP:=zaa (fun w1 (hb:zB w w1)=>zdi v ws ps t w1 (h.below hb) hi hs0.2);have LE:=zaa (fun d nm w1 (hb:zB w w1)=>zdf v ws ps d nm w1 (h.below hb) (by have:=(zao hi).2.1;omega));have LB:=zaa (fun a b w1 (hb:zB w w1)=>zoy v ws ps a b w1 (h.below hb) (by have:=(zao hi).2.1;omega));have EL:=zaa (show rnI ws ps s t=if (paI ws ps s).2.2=0 then rnE ws ps t (paI ws ps s).1 (paI ws ps s).2.1 else([],(paI ws ps s).2.2)from rfl);have EE:=zaa (fun d nm=>show rnE ws ps t d nm=match zbj ps d nm with | none=>([],5) | some k=>rnP ws ps t k from rfl);have EP:=zaa (fun k=>show rnP ws ps t k=if (paI ws ps t).2.2=0 then rnN ws ps k (paI ws ps t).1 (paI ws ps t).2.1 else([],(paI ws ps t).2.2)from rfl);have EN:=zaa (fun k d nm=>show rnN ws ps k d nm=if 0<=zjr ps d nm then([],8)else if zag ws (zap ps k)=2/\zgr ps 17 d (zap ps k)=true then([],13) else(enL (k:Int) ⟨d,nm,zap ps k⟩,0)from rfl);have PO:=zaa (fun c=>zjp (s:=t) hi c);have CR:=zaa (fun d nm k e=>zez hi (d:=d) (nm:=nm) (k:=k) e);obtain⟨l16,l24,_⟩:=zao hi;have L16:=zaa l16;have L24:=zaa l24;obtain⟨vW,vP,rfl,h1,h2⟩:=h;obtain⟨aW,cW,rfl,_,hcW⟩:=h1.shape;obtain⟨aP,cP,rfl,_,hcP⟩:=h2.shape;obtain⟨bW,oW,rfl,hblW,hcellW⟩:=hcW (by omega);obtain⟨bP,oP,rfl,hblP,hcellP⟩:=hcP (by omega)
 have HW:Hid (∀ i (h:i<ws.length) w',zB w w'->w'.cell? ⟨bW,oW+i*11,none⟩=some (.I (zag ws (i:Int)))/\w'.cell? ⟨bW,oW+i*11+2,none⟩=some (.I (zeo ws (i:Int)))):=fun i h w' hb =>
  ⟨((hb.cell (p:=⟨bW,oW+i*11,none⟩) hblW).trans (hcellW i h).1).trans (by rw[<- zbc h]),((hb.cell (p:=⟨bW,oW+i*11+2,none⟩) hblW).trans (hcellW i h).2.2.1).trans (by rw[<- zjf h])⟩
 have HP:Hid (∀ k (h:k<ps.length) w',zB w w'->w'.cell? ⟨bP,oP+k*3+2,none⟩=some (.I (zap ps k))):=fun k h w' hb =>
  ((hb.cell (p:=⟨bP,oP+k*3+2,none⟩) hblP).trans (hcellP k h).2.2).trans (by rw[<- zch h])
 clear h1 h2 hi hs0 hcW hcP hcellW hcellP l16 l24
 have CA:Hid (∀ w',Below (w.alloc (.cells #[.slice (some ⟨bW,oW,none⟩) ws.length cW,.slice (some ⟨bP,oP,none⟩) ps.length cP] 26)).heap.size (w.alloc (.cells #[.slice (some ⟨bW,oW,none⟩) ws.length cW,.slice (some ⟨bP,oP,none⟩) ps.length cP] 26)) w'->w'.cell? ⟨w.heap.size,0,none⟩=some (.slice (some ⟨bW,oW,none⟩) ws.length cW)/\w'.cell? ⟨w.heap.size,1,none⟩=some (.slice (some ⟨bP,oP,none⟩) ps.length cP)):=fun w' hb=>by
  have:w'.heap[w.heap.size]?=some (.cells #[.slice (some ⟨bW,oW,none⟩) ws.length cW,.slice (some ⟨bP,oP,none⟩) ps.length cP] 26 (0,0)):=(hb.block _ (by simp)).trans (zai rfl);exact⟨(zad this).1,(zad this).2.1⟩
 have BW:Hid (zB w (w.alloc (.cells #[.slice (some ⟨bW,oW,none⟩) ws.length cW,.slice (some ⟨bP,oP,none⟩) ps.length cP] 26))):=zR.alloc zL _;obtain⟨x0,x1⟩:=CA.o _ zR
 obtain⟨W,hW⟩:=zE (w.alloc (.cells #[.slice (some ⟨bW,oW,none⟩) ws.length cW,.slice (some ⟨bP,oP,none⟩) ps.length cP] 26))
 rw[<- hW]at CA BW
 have hz:w.heap.size<W.heap.size:=by rw[hW];simp
 generalize rnI ws ps s t=res at *;generalize paI ws ps s=pr at *;generalize paI ws ps t=pt at *;obtain⟨pd,pn,pc⟩:=pr;obtain⟨td,tn,tc⟩:=pt;simp only at EL EP PO LL LP;go_enter Tryz.func182,Tryz.ntmps182;go_wp2_with fail;rw[<- hW];clear hW x0 x1;refine(LL.o _ BW.o).mono ?_;rintro e w1 ⟨rfl,hb1⟩;have A1:=zaa hb1;have B1:=zaa (zab BW.o A1.o BW.o.size);obtain⟨x0,x1⟩:=CA.o _ A1.o;clear hb1
 by_cases c:pc=0
 case neg =>
  rw[if_neg c]at EL;obtain rfl:=EL.o
  have q:(pc != 0)=true:=by rw[bne_iff_ne];exact c
  clear EL c x0 x1;go_wp2;go_ret2;exact zck B1.o
 rw[if_pos c]at EL;subst c;rw[EE.o]at EL;have LE2:=zaa (fun w1 hb=>LE.o pd pn w1 hb);clear EE
 cases he:zbj ps pd pn with
 | none =>
  rw[he]at EL;obtain rfl:=EL.o;have e1:=(zmj (ps:=ps) (d:=pd) (nm:=pn)).1 he;generalize zjr ps pd pn=ei at *;clear EL he;go_wp2_with fail;refine(LE2.o _ B1.o).mono ?_;rintro e w2 ⟨rfl,hb2⟩;have B2:=zaa (zab B1.o hb2 B1.o.size);clear hb2 x0 x1
  have e2:ei<0:=by omega
  clear e1;go_wp2;go_ret2;exact zck B2.o
 | some k =>
 rw[he]at EL;have EL2:Hid (res=rnP ws ps t k):=EL.o;rw[EP.o]at EL2;rw[zti he]at LE2;obtain⟨k1,k2⟩:=CR.o _ _ _ he;have EN2:=zaa (EN.o k);have HPk:=zaa (HP.o k k1)
 obtain⟨i,hi'⟩:∃ i:Nat,zap ps k=(i:Int):=⟨(zap ps k).toNat,by omega⟩
 rw[hi']at EN2 HPk
 have i1:i<ws.length:=by have:=L16.o;omega
 have k24:k<24:=by have:=L24.o;omega
 have i16:i<16:=by omega
 have kl:(k:Int)<(ps.length:Int):=by omega
 have il:(i:Int)<(ws.length:Int):=by omega
 have k0:(0:Int)<=(k:Int):=by omega
 have i0:(0:Int)<=(i:Int):=by omega
 have HWi:=zaa (HW.o i i1);clear EL EP EN CR HW HP he hi' k2;generalize zag ws (i:Int)=kd at *;go_wp2_with fail;refine(LE2.o _ B1.o).mono ?_;rintro e w2 ⟨rfl,hb2⟩;have A2:=zaa (zab A1.o hb2 A1.o.size);clear x0 x1;have B2:=zaa (zab BW.o A2.o BW.o.size);obtain⟨x0,x1⟩:=CA.o _ A2.o;clear hb2;clear A1 B1;go_wp2_with fail;refine(LP.o _ B2.o).mono ?_;rintro e w3 ⟨rfl,hb3⟩;have A3:=zaa (zab A2.o hb3 A2.o.size);clear x0 x1;have B3:=zaa (zab BW.o A3.o BW.o.size);obtain⟨x0,x1⟩:=CA.o _ A3.o;clear hb3;clear A2 B2
 by_cases c:tc=0
 case neg =>
  rw[if_neg c]at EL2;obtain rfl:=EL2.o
  have q:(tc != 0)=true:=by rw[bne_iff_ne];exact c
  clear EL2 c x0 x1;go_wp2;go_ret2;exact zck B3.o
 rw[if_pos c]at EL2;subst c;obtain⟨p1,-,p3⟩:=PO.o rfl;have NM:=zaa p3;rw[EN2.o]at EL2;have LE3:=zaa (fun w1 hb=>LE.o td tn w1 hb);have LB2:=zaa (fun w1 hb=>LB.o td (i:Int) w1 hb);generalize zjr ps td tn=ei at *;generalize zgr ps 17 td (i:Int)=bn at *;clear PO p3 EN2 LE LE2 LB;go_wp2_with fail;refine(LE3.o _ B3.o).mono ?_;rintro e w4 ⟨rfl,hb4⟩;have A4:=zaa (zab A3.o hb4 A3.o.size);clear x0 x1;have B4:=zaa (zab BW.o A4.o BW.o.size);obtain⟨x0,x1⟩:=CA.o _ A4.o;clear hb4;clear A3 B3
 by_cases c:0<=ei
 ·rw[if_pos c]at EL2;obtain rfl:=EL2.o;have c1:ei>=0:=c;clear EL2 x0 x1 c;go_wp2;go_ret2;exact zck B4.o
 rw[if_neg c]at EL2;have c1:¬ ei>=0:=c;have y0:=HPk.o _ B4.o;have d0:=(HWi.o _ B4.o).1;have LN:=zaa (fun w1=>zfg (k:Int) ⟨td,tn,(i:Int)⟩ w1 (by omega) (show -1<=(i:Int)/\(i:Int)<=15 by omega) (.inr NM.o));rw[show(Den.mk td tn (i:Int)).v=.agg #[.I td,.string tn,.I (i:Int)]from rfl]at LN;generalize enL (k:Int) ⟨td,tn,(i:Int)⟩=EN at *;clear c
 by_cases q:kd=2
 ·have q1:(kd == 2)=true:=by rw[q];rfl
  cases bn with
  | true =>
   rw[if_pos ⟨q,rfl⟩]at EL2;obtain rfl:=EL2.o;clear EL2 q;go_wp2_with fail;refine(LB2.o _ B4.o).mono ?_;rintro e w5 ⟨rfl,hb5⟩;have B5:=zaa (zab B4.o hb5 B4.o.size);clear hb5 x0 x1 y0 d0;go_wp2;go_ret2;exact zck B5.o
  | false =>
   rw[if_neg (by rintro⟨_,a⟩;cases a)]at EL2;obtain rfl:=EL2.o;clear EL2 q;go_wp2_with fail;refine(LB2.o _ B4.o).mono ?_;rintro e w5 ⟨rfl,hb5⟩;have B5:=zaa (zab B4.o hb5 B4.o.size);clear hb5 x0 x1 y0 d0;go_wp2_with fail;refine(LN.o _).mono ?_;rintro e w6 ⟨v6,rfl,hr6,hb6⟩;have R6:=zaa (hr6.wide B5.o.size zL);have B6:=zaa (zab B5.o hb6 B5.o.size);obtain⟨-,aN,cN,hvN,-⟩:=hr6.rd;subst hvN;clear hr6 hb6;go_wp2;go_ret2;exact⟨_,rfl,R6.o,B6.o⟩
 ·have q1:(kd == 2)=false:=by rw[beq_eq_false_iff_ne];exact q
  rw[if_neg (by rintro⟨a,_⟩;exact q a)]at EL2;obtain rfl:=EL2.o;clear EL2 q;go_wp2_with fail;refine(LN.o _).mono ?_;rintro e w6 ⟨v6,rfl,hr6,hb6⟩;have R6:=zaa (hr6.wide B4.o.size zL);have B6:=zaa (zab B4.o hb6 B4.o.size);obtain⟨-,aN,cN,hvN,-⟩:=hr6.rd;subst hvN;clear hr6 hb6 x0 x1 y0 d0;go_wp2;go_ret2;exact⟨_,rfl,R6.o,B6.o⟩
def touH(hs:List Int)(k:Nat):List Int:=hs.set k (min 64 (hs.getD k 0+8))
theorem zbl{hs:List Int}(h:zij hs=true):hs.length=128/\∀ k (h:k<hs.length),0<=hs[k]/\hs[k]<=64:=of_decide_eq_true h
theorem yaql{w:World}{base:Nat}{e:TypeId}{size:Nat}{v:Value}{n:Nat}{xs:List Value}(h:w.ownsRow base e size v n xs)(hn:0<n):∃ b c,v=.slice (some ⟨b,0,none⟩) n c/\n<=c:=by
 rcases(zac h).shape with ⟨_,e,_⟩ | ⟨b,c,rfl,hc,_⟩
 ·omega
 ·exact⟨b,c,rfl,hc⟩
theorem zua(v:Value)(hs:List Int)(i p:Nat)(w:World)(h:RdI w v hs)(hn:hs.length=128)(hr:∀ k (h:k<hs.length),0<=hs[k]/\hs[k]<=64)(hi:i<16)(hp:p<8) :
  zC 140 #[v,.I (i:Int),.I (p:Int)] w fun e w'=>∃ v',e=.returned v'/\Row w' 3 1 w.heap.size w'.heap.size v' (touH hs (8*i+p)).length (zeh (touH hs (8*i+p)))/\zB w w':=by
 obtain⟨ao,cap,rfl,hcap,-⟩:=h.shape;have HR:Hid (Rd (w.alloc (.cells #[] 3)) 1 (.slice ao hs.length cap) hs.length (zeh hs)):=Rd.below h (zR.alloc zL _)
 have ST:Hid (InI w (w.alloc (.cells #[] 3)) (.slice (some ⟨w.heap.size,0,none⟩) 0 0) []):=⟨World.ownsRow_lit w #[] 0 zL (by simp[maxLen]) (by simp),zR.alloc zL _⟩
 have hz:w.heap.size<=(w.alloc (.cells #[] 3)).heap.size:=ST.o.z
 obtain⟨k,hk⟩:∃ k:Nat,k=8*i+p:=⟨_,rfl⟩
 have k128:k<hs.length:=by omega
 have KL:=zaa k128;obtain⟨z0,z64⟩:=hr k k128
 have EG:Hid (hs.getD k 0=hs[k]):=by unfold Hid;rw[List.getD_eq_getElem?_getD,List.getElem?_eq_getElem k128];rfl
 have ET:Hid (touH hs k=hs.set k (min 64 (hs[k]+8))):=by unfold Hid touH;rw[EG.o]
 have kk:(8*(i:Int)+(p:Int))=(k:Int):=by omega
 have w1f:IntKind.i64.wrap (8*(i:Int))=8*(i:Int):=by rw[IntKind.wrap_i64];omega
 have w2f:IntKind.i64.wrap (8*(i:Int)+(p:Int))=(k:Int):=by rw[IntKind.wrap_i64];omega
 have w3f:IntKind.i64.wrap (hs[k]+8)=hs[k]+8:=by rw[IntKind.wrap_i64];omega
 rw[<- hk,ET.o];have CL:Hid ((zeh hs)[k]?=some (.I hs[k])):=zen hs k k128
 have hl1:hs.length<=128:=by omega
 clear hn hr;generalize hs[k]=z at *
 obtain⟨mm,em,cm⟩:∃ mm:Int,min 64 (z+8)=mm/\((z+8<64/\mm=z+8)\/(¬ z+8<64/\mm=64)):=⟨min 64 (z+8),rfl,by omega⟩
 rw[em];have CM:=zaa cm;clear em cm;go_enter Tryz.func140,Tryz.ntmps140;go_wp2_with (at_builtin;refine zaf _ rfl (.tmp 8) (.tmp 9) 70 rfl w.heap.size 3 (.I 0) 1 8 Tryz.underlying70 zmu rfl (by decide) _ _ _ rfl ST.o.l _ hs.length (zeh hs) rfl HR.o (zhg _) (by first | omega | (simp[maxLen];omega)) (by first | omega | (simp;omega)) hz ?_);intro vN wN hownN hgrN
 have G:Hid (Row wN 3 1 w.heap.size wN.heap.size vN hs.length (zeh hs)):=by
  have q:=zac hownN;exact q
 have BN:Hid (zB w wN):=ST.o.b.grown hgrN hz (fun q hq=>(ST.o.l.lt q hq).1);obtain⟨b,c,rfl,hcb⟩:=yaql G.o.1 (by omega)
 obtain⟨_,_,_,hbl,hfr,hcl⟩:=G.o.at
 have e0:wN.cell? ⟨b,k,none⟩=some (.I z):=(hcl k (by omega)).trans CL.o;have f0:wN.frozen? ⟨b,k,none⟩=false:=hfr k
 have k0:(0:Int)<=(k:Int):=by omega
 have k1:(k:Int)<(hs.length:Int):=by omega
 have hwb:w.heap.size<=b:=(G.o.1.lt b rfl).1
 have R2:Hid (Row (wN.setCell ⟨b,k,none⟩ (.I mm)) 3 1 w.heap.size (wN.setCell ⟨b,k,none⟩ (.I mm)).heap.size (.slice (some ⟨b,0,none⟩) hs.length c) hs.length (zeh (hs.set k mm))):=by
  have q:=G.o.stored k (.I mm);rw[zlk]at q;exact q.wide zL (by simp[World.setCell])
 have B2:Hid (zB w (wN.setCell ⟨b,k,none⟩ (.I mm))):=BN.o.setCell hwb _;clear hownN hgrN G BN HR ST hcl hfr kk hk
 rcases CM.o with ⟨c1,rfl⟩ | ⟨c1,rfl⟩
 ·have mn:min 64 (z+8)=z+8:=by omega
  go_wp2;go_ret;exact⟨_,rfl,R2.o,B2.o⟩
 ·have mn:min 64 (z+8)=64:=by omega
  go_wp2;go_ret;exact⟨_,rfl,R2.o,B2.o⟩
theorem yapg{hs:List Int}(h:hs.length=128)(k:∀ k (h:k<hs.length),0<=hs[k]/\hs[k]<=64):zij hs=true:=decide_eq_true ⟨h,k⟩
theorem yaig:zij (zsr 128)=true:=yapg (zro 128) (fun k h=>by
 have e:(zsr 128)[k]=1:=List.eq_of_mem_replicate (List.getElem_mem h);rw[e]
 omega)
theorem zgj(n:Int)(hn:2<=n/\n<=1000)(w0 w:World)(b k:Nat)(vC:Value)(bs:List Int)(h:Src w0 w b vC bs k)(hk:k<=900000) :
  zC 63 #[.pointer (some ⟨b,0,none⟩),.I n] w fun e w'=>∃ r:Bool,e=.returned (.bool r)/\Src w0 w' b vC bs (k+3)/\Outside b (b+1) w w'/\w'.heap.size=w.heap.size:=by
 have HS:=zaa h
 have wn:IntKind.i64.wrap (n-1)=n-1:=by rw[IntKind.wrap_i64];omega
 clear h;go_enter Tryz.func63,Tryz.ntmps63;go_wp2_with fail;refine(zbn n hn w0 w b k vC bs HS.o hk).mono ?_;rintro e w1 ⟨r,rfl,r0,r1,hs,ho,hz⟩;have S1:=zaa hs;have O1:=zaa ho;clear hs ho;go_wp2;go_ret;exact⟨_,rfl,S1.o,O1.o,hz⟩
theorem zsu(ss:List ByteArray)(hn:2<=ss.length/\ss.length<=1000)(w0 w:World)(b bl k:Nat)(vC:Value)(bs:List Int)(h:Src w0 w b vC bs k)(hk:k<=900000)(hl:w.heap[bl]?=some (.cells (ss.map Value.string).toArray 9 (0,0)))(hbl:bl≠b) :
  zC 148 #[.pointer (some ⟨b,0,none⟩),.slice (some ⟨bl,0,none⟩) ss.length ss.length] w fun e w'=>∃ s,e=.returned (.string s)/\s∈ss/\Src w0 w' b vC bs (k+3)/\Outside b (b+1) w w'/\w'.heap.size=w.heap.size:=by
 have HS:=zaa h;have HL:=zaa hl;have lt:Hid (bl<w.heap.size):=(Array.getElem?_eq_some_iff.1 hl).1
 have h0:((ss.length:Int) == 0)=false:=by rw[beq_eq_false_iff_ne];omega
 have NX:=zaa (zbn (ss.length:Int) (by omega) w0 w b k vC bs HS.o hk);obtain⟨n1,n2⟩:=hn;clear h hl;go_enter Tryz.func148,Tryz.ntmps148;go_wp2_with fail;refine NX.o.mono ?_;rintro e w1 ⟨r,rfl,r0,r1,hs,ho,hz⟩;have S1:=zaa hs;have O1:=zaa ho;obtain⟨j,rfl⟩:=Int.eq_ofNat_of_zero_le r0
 have hj:j<ss.length:=by omega
 have hc:w1.cell? ⟨bl,j,none⟩=some (.string ss[j]):=by
  have:=(ho.block bl lt.o (by omega)).trans HL.o;simp[World.cell?,this,hj]
 have EM:=zaa (List.getElem_mem hj);generalize ss[j]=s at hc EM;clear hs ho NX;go_wp2;go_ret;exact⟨_,rfl,EM.o,S1.o,O1.o,hz⟩
def slB:ByteArray:=⟨#[47]⟩
def segs:List ByteArray:=[⟨#[97]⟩,⟨#[98]⟩,⟨#[99]⟩,⟨#[100,105,114]⟩,⟨#[97]⟩]
def oneP:List ByteArray:=segs.map fun s=>slB++s
def twoP:List ByteArray:=oneP.flatMap fun p=>segs.map fun s=>p++(slB++s)
def PathD(p:ByteArray):Prop:=p∈oneP\/p∈twoP
theorem PathD.size{p:ByteArray}(h:PathD p):p.size<=100:=by
 have:∀ p∈oneP++twoP,p.size<=100:=by decide
 exact this p (List.mem_append.2 h)
theorem zgm(w0 w:World)(b k:Nat)(vC:Value)(bs:List Int)(h:Src w0 w b vC bs k)(hk:k<=800000) :
  zC 116 #[.pointer (some ⟨b,0,none⟩)] w fun e w'=>∃ p,e=.returned (.string p)/\PathD p/\Src w0 w' b vC bs (k+9)/\Outside b (b+1) w w':=by
 have hsz:=h.size;have HS:=zaa h;clear h;go_enter Tryz.func116,Tryz.ntmps116;go_wp2_with fail;refine(zbn 5 (by omega) w0 _ b k vC bs HS.o (by omega)).mono ?_;rintro e w1 ⟨r,rfl,r0,r1,hs,ho,hz⟩;have S1:=zaa hs;have O1:=zaa ho;clear hs ho hz HS
 have step:∀ (wr:World) (q:Nat),Outside b (b+1) w wr->Src w0 wr b vC bs q->q<=800100->zC 148 #[.pointer (some ⟨b,0,none⟩),.slice (some ⟨wr.heap.size,0,none⟩) 5 5] (wr.alloc (.cells #[.string ⟨#[97]⟩,.string ⟨#[98]⟩,.string ⟨#[99]⟩,.string ⟨#[100,105,114]⟩,.string ⟨#[97]⟩] 9)) fun e w'=>∃ s,e=.returned (.string s)/\s∈segs/\Src w0 w' b vC bs (q+3)/\Outside b (b+1) w w':=fun wr q o s hq=>by
  refine(zsu segs (by decide) w0 _ b wr.heap.size q vC bs (s.newer (zR.alloc zL _)) (by omega) (zai rfl) (by have:=s.size;omega)).mono ?_;rintro e w' ⟨t,rfl,m,s',o',-⟩;exact⟨t,rfl,m,s',(o.trans (Outside.of_below (zR.alloc zL _))).trans o'⟩
 have STEP:=zaa step;clear step
 obtain⟨n,hn,hn12⟩:∃ n:Nat,1+r/3=(n:Int)/\(n=1\/n=2):=by
  by_cases c:r<3
  ·exact⟨1,by omega,.inl rfl⟩
  ·exact⟨2,by omega,.inr rfl⟩
 go_wp2
 go_loopw [3,4] (fun vP i wr=>∃ (j q:Nat) (p:ByteArray),i=.I (j:Int)/\vP=.string p/\q+3*j<=k+9/\Hid ((j=n/\p=⟨#[]⟩)\/(j=1/\p∈oneP)\/(j=0/\PathD p))/\j<=2/\Hid (Src w0 wr b vC bs q/\Outside b (b+1) w wr)) (fun _ i _=>(intOf i).toNat)
 case atStart=>exact⟨n,_,_,by go_num,rfl,by omega,.inl ⟨rfl,rfl⟩,by omega,S1.o,O1.o⟩
 case round =>
  obtain⟨j,q,p,rfl,rfl,hq,P,j2,I⟩:=hrel
  by_cases c:0<j
  ·have c0:(0:Int)<(j:Int):=by omega
   go_wp2_with fail;refine(STEP.o _ q I.o.2 I.o.1 (by omega)).mono ?_;rintro e w2 ⟨s,rfl,ms,hs2,ho2⟩;have I2:=zaa (And.intro hs2 ho2);have MS:=zaa ms;have s1:s.size<=100:=(show ∀ s∈segs,s.size<=100 by decide) s ms
   have p1:p.size<=100:=by
    rcases P.o with q | q | q
    ·rw[q.2];decide
    ·exact PathD.size (.inl q.2)
    ·exact PathD.size q.2
   have pe:Hid (p.size+(1+s.size)<=300):=by unfold Hid;omega
   clear ms hs2 ho2 I;go_wp2
   go_roundw
   case rel =>
    refine⟨j-1,_,_,by go_num,rfl,by omega,?_,by omega,I2⟩;have e0:(⟨#[]⟩:ByteArray)++(slB++s)=slB++s:=ByteArray.empty_append;have m1:slB++s∈oneP:=List.mem_map.2 ⟨s,MS.o,rfl⟩
    rcases P.o with q | q | q
    ·have e1:p++(slB++s)=slB++s:=by rw[q.2];exact e0
     rcases hn12 with h | h
     ·exact .inr (.inr ⟨by omega,.inl (by show p++(slB++s)∈oneP;rw[e1];exact m1)⟩)
     ·exact .inr (.inl ⟨by omega,(by show p++(slB++s)∈oneP;rw[e1];exact m1)⟩)
    ·exact .inr (.inr ⟨by omega,.inr (List.mem_flatMap.2 ⟨p,q.2,List.mem_map.2 ⟨s,MS.o,rfl⟩⟩)⟩)
    ·omega
   case measure=>simp[intOf];omega
  ·obtain rfl:j=0:=by omega
   go_wp2;go_ret;refine⟨_,rfl,?_,I.o.1.more (by omega),I.o.2⟩
   rcases P.o with q | q | q
   ·omega
   ·omega
   ·exact q.2
def any9:List ByteArray:=[⟨#[47]⟩,⟨#[]⟩,⟨#[97]⟩,⟨#[47,47]⟩,⟨#[47,97,47]⟩,⟨#[47,65]⟩,⟨#[47,97,47,98,47,99,47,97,47,98,47,99]⟩,⟨#[47,97,47,98,47,99,47,97,47,98,47,99,47,100]⟩,⟨#[47,97,47,98,47,99,47,100]⟩]
theorem zhs(w0 w:World)(b k:Nat)(vC:Value)(bs:List Int)(h:Src w0 w b vC bs k)(hk:k<=700000) :
  zC 118 #[.pointer (some ⟨b,0,none⟩)] w fun e w'=>∃ p,e=.returned (.string p)/\p.size<=100/\Src w0 w' b vC bs (k+12)/\Outside b (b+1) w w':=by
 have HS:=zaa h;clear h;go_enter Tryz.func118,Tryz.ntmps118;go_wp2_with fail;refine(zgj 6 (by omega) w0 _ b k vC bs HS.o (by omega)).mono ?_;rintro e w1 ⟨r,rfl,hs,ho,hz⟩;have S1:=zaa hs;have O1:=zaa ho;clear hs ho hz HS
 cases r with
 | true =>
  have PK:=zaa (zsu any9 (by decide) w0 (w1.alloc (.cells (any9.map Value.string).toArray 9)) b w1.heap.size (k+3) vC bs (S1.o.newer (zR.alloc zL _)) (by omega) (zai rfl) (by have:=S1.o.size;omega));go_wp2_with fail;refine PK.o.mono ?_;rintro e w2 ⟨s,rfl,ms,hs,ho,-⟩;have S2:=zaa (hs.more (k':=k+12) (by omega));have O2:=zaa ((O1.o.trans (Outside.of_below (zR.alloc zL _))).trans ho);have Z:=zaa ((show ∀ s∈any9,s.size<=100 by decide) s ms);clear hs ho ms PK;go_wp2;go_ret;exact⟨_,rfl,Z.o,S2.o,O2.o⟩
 | false =>
  go_wp2_with fail;refine(zgm w0 _ b (k+3) vC bs S1.o (by omega)).mono ?_;rintro e w2 ⟨s,rfl,ms,hs,ho⟩;have S2:=zaa hs;have O2:=zaa (O1.o.trans ho);have Z:=zaa ms.size;clear hs ho ms;go_wp2;go_ret;exact⟨_,rfl,Z.o,S2.o,O2.o⟩
theorem zyo(w0 w:World)(b k:Nat)(vC:Value)(bs:List Int)(h:Src w0 w b vC bs k) :
  zC 62 #[.pointer (some ⟨b,0,none⟩),.I 20] w fun e w'=>∃ r:Int,e=.returned (.I r)/\1<=r/\r<=20/\w'=w:=by
 obtain⟨aC,cC,rfl,_⟩:=h.code.shape;obtain⟨at_,seed,_,_,_,_,hc⟩:=h.cells;obtain⟨c0,-,-,-⟩:=zfq hc;have hl:=h.len;clear h hc
 have cc:((bs.length:Int)/12)<=100000/\0<=((bs.length:Int)/12):=by omega
 go_enter Tryz.func62,Tryz.ntmps62;go_wp2
 all_goals
  go_ret;exact⟨_,rfl,by omega,by omega,rfl⟩
end Go.Proofs.YtfagbapgnocjiaaGreatDoor
