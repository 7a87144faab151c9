/- The plans to link and to rename: by the program. -/
import Derived.Test.YtogcbbkhnpmgeaaGreatDoorZBJ
import Derived.Test.YtogcbbkhnpmgeaaGreatDoorZAX
set_option maxRecDepth 100000
set_option maxHeartbeats 16000000
namespace Go.Proofs.YtogcbbkhnpmgeaaGreatDoor
open Go.RowKit Go.Maps
theorem yaar{ws:List Ino}{ps:List Den}{s:ByteArray}(h:¬ 65536<s.size)(hi:zbg ws ps=true):lkR ws ps s=lkI ws ps s:=by
 unfold lkR;rw[if_neg h,if_pos hi]
theorem zya{ws:List Ino}{ps:List Den}(h:zbg ws ps=true){d:Int}{nm:ByteArray}{k:Nat}(e:zbi ps d nm=some k):1<=zao ps k:=by
 obtain⟨hk,q⟩:=zpo e;have:=zzm q;rw[zbn hk]
 rcases zgw h k hk with r | r
 ·omega
 ·exact r.1.1
theorem yawy{ws:List Ino}{ps:List Den}(h:zbg ws ps=true):∀ (ns:List ByteArray) (z:Int),(wk ws ps z ns).2=0->(wk ws ps z ns).1=z\/1<=(wk ws ps z ns).1
 | [],z,_=>.inl rfl
 | n::ns,z,c=>by
  by_cases q:zaj ws z=2
  ·cases e:zbi ps z n with
   | none=>rw[zoa q e]at c;cases c
   | some k =>
    rw[zno q e]at c ⊢
    rcases yawy h ns _ c with r | r
    ·right;rw[r];exact zya h e
    ·exact .inr r
  ·rw[zkc q]at c;cases c
theorem yaxn{ws:List Ino}{ps:List Den}{s:ByteArray}(h:zbg ws ps=true)(c:(lkI ws ps s).2=0)(k:¬ zaj ws (lkI ws ps s).1=2):1<=(lkI ws ps s).1:=by
 unfold lkI at c k ⊢
 by_cases q:spB s=true
 ·rw[if_pos q]at c k ⊢
  rcases yawy h _ 0 c with r | r
  ·rw[r]at k;exact absurd (zas h).2.2.1 k
  ·exact r
 ·rw[if_neg q]at c;cases c
theorem zox(v:Value)(ws:List Ino)(ps:List Den)(s t:ByteArray)(w:World)(h:RdIm w v ws ps)(hw:ws.length<=1048576)(hp:ps.length<=1048576)(hT:TS w)(hE:ED w)(hF:FD w)(hr:∀ k (h:k<ws.length),ws[k].R)(hs:∀ k (h:k<ps.length),ps[k].name.size<=maxLen) :
  zC 133 #[v,.string s,.string t] w fun e w'=>zgh w w' e (lnR ws ps s t):=by
 have LF:=zaa (fun vL w1 (hb:zB w w1) hL=>zip v vL ws ps [s,t] w1 (h.below hb) hL (by simp) hw hp (hT.below hb) (hE.below hb) (hF.below hb) hr hs);have LN:=zaa (fun b D w1 (hb:zB w w1) hm=>zlq v ws ps t b D w1 (h.below hb) hw hp (hT.below hb) (hE.below hb) (hF.below hb) hr hs hm);have LD:=zaa (fun k x w1 (hb:zB w w1) hs=>zcr k x w1 (hF.below hb) hs);rw[yawe]at LF;have ER:=zaa (show nnR ws ps t=if (paR ws ps t).2.2=0 then nnN ps (paR ws ps t).1 (paR ws ps t).2.1 else(ztd,(paR ws ps t).2.2)from rfl);have EM:=zaa (fun d nm=>show nnN ps d nm=match zbi ps d nm with | none=>(⟨d,nm,0⟩,0) | some _=>(ztd,8)from rfl);have PR:=zaa (@zmt ws ps t);have PO:=zaa (fun hi c=>zgq (ws:=ws) (ps:=ps) (s:=t) hi c);have ENO:=zaa (fun d nm=>@ziz ps d nm);have PA:=zaa (fun hi=>zas (ws:=ws) (ps:=ps) hi);have LL:=zaa (fun w1 (hb:zB w w1)=>zfc v ws ps s w1 (h.below hb) hw hp (hT.below hb) (hE.below hb) (hF.below hb) hr hs);have LDi:=zaa (fun i w1 (hb:zB w w1) hl h0=>zji v ws ps i w1 (h.below hb) hl h0);have LK:=zaa (fun w1 (hb:zB w w1) hi=>znb v ws ps w1 (h.below hb) hi (hF.below hb));have EL:=zaa (show lnR ws ps s t=if 65536<s.size then([],2)else if 65536<t.size then([],2)else if zbg ws ps=true then lnI ws ps s t else([],1)from rfl);have EI:=zaa (show lnI ws ps s t=if (lkI ws ps s).2=0 then(if zaj ws (lkI ws ps s).1=2 then([],9)else lnP ws ps t (lkI ws ps s).1) else([],(lkI ws ps s).2)from rfl);have EP:=zaa (fun i=>show lnP ws ps t i=if (paI ws ps t).2.2=0 then lnN ws ps i (paI ws ps t).1 (paI ws ps t).2.1 else([],(paI ws ps t).2.2)from rfl);have EN:=zaa (fun i d nm=>show lnN ws ps i d nm=if 0<=zkq ps d nm then([],8)else if feI ps<0 then([],7) else(enL (feI ps) ⟨d,nm,i⟩++[⟨48+12*i+2,zdr ws i+1⟩],0)from rfl);have KR:=zaa (@yaar ws ps s);have LO:=zaa (fun hi=>zoe (ws:=ws) (ps:=ps) (s:=s) hi);have LFi:=zaa (fun hi c k=>yaxn (ws:=ws) (ps:=ps) (s:=s) hi c k);have LR:=zaa (fun hi i h0=>zjy (ws:=ws) (ps:=ps) hi (i:=i) h0);have FR:=zaa (fun hi=>zpd (ws:=ws) (ps:=ps) hi);obtain⟨vW,vP,rfl,h1,h2⟩:=h;obtain⟨aW,cW,rfl,_,hcW⟩:=h1.shape;obtain⟨aP,cP,rfl,_,hcP⟩:=h2.shape;have HW:=zaa hcW;have HP:=zaa hcP;clear h1 h2 hr hs hT hE hF hcW hcP
 have CA:Hid (∀ w',Below (w.alloc (.cells #[.slice aW ws.length cW,.slice aP ps.length cP] 51)).heap.size (w.alloc (.cells #[.slice aW ws.length cW,.slice aP ps.length cP] 51)) w'->w'.cell? ⟨w.heap.size,0,none⟩=some (.slice aW ws.length cW)/\w'.cell? ⟨w.heap.size,1,none⟩=some (.slice aP ps.length cP)):=fun w' hb=>by
  have:w'.heap[w.heap.size]?=some (.cells #[.slice aW ws.length cW,.slice aP ps.length cP] 51 (0,0)):=(hb.block _ (by simp)).trans (zaf rfl);exact⟨(zac this).1,(zac this).2.1⟩
 have BW:Hid (zB w (w.alloc (.cells #[.slice aW ws.length cW,.slice aP ps.length cP] 51))):=zR.alloc zL _;obtain⟨x0,x1⟩:=CA.o _ zR;generalize hmr:lnR ws ps s t=res at *;clear hmr
 obtain⟨W,hW⟩:=zE (w.alloc (.cells #[.slice aW ws.length cW,.slice aP ps.length cP] 51))
 have RS:Hid (RdT (W.alloc (.cells #[.string s,.string t] 9)) (.slice (some ⟨W.heap.size,0,none⟩) 2 2) [s,t]):=by
  refine⟨rfl,_,_,rfl,⟨Nat.le_refl _,fun e=>by cases e⟩,fun _=>⟨W.heap.size,0,rfl,by simp,fun j hj=>?_⟩⟩;have e0:=(zag (xs:=[.string s,.string t]) (zaf (w:=W) (o:=.cells #[.string s,.string t] 9) rfl) j).1;rw[Nat.zero_add];rw[e0];rfl
 have hz:w.heap.size<W.heap.size:=by rw[hW];simp
 have BS:Hid (zB W (W.alloc (.cells #[.string s,.string t] 9))):=zR.alloc zL _
 have hWs:W.heap.size=w.heap.size+1:=by rw[hW];simp
 rw[hWs]at RS;rw[<- hW]at CA BW;have hmm:=@run_makeMap Tryz.prog;go_enter Tryz.func133,Tryz.ntmps133;go_wp2_with fail;rw[<- hW];clear hW x0 x1 hWs;refine(LF.o _ _ (zab BW.o BS.o (by omega)) RS.o).mono ?_;rintro e w1 ⟨rfl,hb1⟩;have A1:=zaa (zab BS.o hb1 BS.o.size);have B1:=zaa (zab BW.o A1.o (by omega));clear hb1 BS RS LF
 by_cases c1:65536<s.size
 ·rw[if_pos c1];rw[if_pos c1]at EL;obtain rfl:=EL.o;go_wp2;go_ret2;exact zcu B1.o
 rw[if_neg c1];rw[if_neg c1]at EL
 by_cases c1t:65536<t.size
 ·rw[if_pos c1t];rw[if_pos c1t]at EL;obtain rfl:=EL.o;go_wp2;go_ret2;exact zcu B1.o
 rw[if_neg c1t];rw[if_neg c1t]at EL
 cases hi:zbg ws ps with
 | false =>
  rw[hi]at EL;obtain rfl:=EL.o;go_wp2;go_ret2;exact zcu B1.o
 | true =>
 rw[if_pos rfl];rw[hi,if_pos rfl]at EL;have PE:=PR.o c1t hi;have PO2:=zaa (PO.o hi);obtain⟨l16,l24,_⟩:=PA.o hi;have L16:=zaa l16;have L24:=zaa l24;obtain⟨bW,oW,rfl,hblW,hcellW⟩:=HW.o (by omega);obtain⟨bP,oP,rfl,hblP,hcellP⟩:=HP.o (by omega)
 have HWc:Hid (∀ i (h:i<ws.length) w',zB w w'->w'.cell? ⟨bW,oW+i*11,none⟩=some (.I (zaj ws (i:Int)))/\w'.cell? ⟨bW,oW+i*11+2,none⟩=some (.I (zdr ws (i:Int)))):=fun i h w' hb =>
  ⟨((hb.cell (p:=⟨bW,oW+i*11,none⟩) hblW).trans (hcellW i h).1).trans (by rw[<- zbk h]),((hb.cell (p:=⟨bW,oW+i*11+2,none⟩) hblW).trans (hcellW i h).2.2.1).trans (by rw[<- zgi h])⟩
 have HPc:Hid (∀ k (h:k<ps.length) w',zB w w'->w'.cell? ⟨bP,oP+k*3+2,none⟩=some (.I (zao ps k))):=fun k h w' hb =>
  ((hb.cell (p:=⟨bP,oP+k*3+2,none⟩) hblP).trans (hcellP k h).2.2).trans (by rw[<- zbn h])
 rw[PE]at ER;clear PE PR PO PA HW HP hcellW hcellP l16 l24;rw[KR.o c1 hi]at LL;have LOi:=LO.o hi;have LFk:=zaa (LFi.o hi);have f2:=FR.o hi;have LK2:=zaa (fun w1 hb=>LK.o w1 hb hi);have LRi:=zaa (LR.o hi);rw[EI.o,EP.o]at EL;clear KR LO LFi FR LK LR EI EP c1 c1t hi HPc hblP;generalize paI ws ps t=pr at *;generalize lkI ws ps s=lr at *;generalize feI ps=fe at *;obtain⟨pd,pn,pc⟩:=pr;obtain⟨li,lc⟩:=lr;simp only at EL PO2 LOi LFk ER LL
 obtain⟨i,rfl⟩:∃ i:Nat,li=(i:Int):=⟨li.toNat,by omega⟩
 have i16:i<16:=by omega
 have i1:i<ws.length:=by have:=L16.o;omega
 have i0:(0:Int)<=(i:Int):=by omega
 have il:(i:Int)<(ws.length:Int):=by omega
 have lkr:=LRi.o (i:Int) (by omega);have HWi:=zaa (HWc.o i i1);have EN2:=zaa (EN.o (i:Int));have LDi2:=zaa (fun w1 hb=>LDi.o (i:Int) w1 hb L16.o (by omega));clear EN LRi HWc LDi;generalize zaj ws (i:Int)=kd at *;generalize zdr ws (i:Int)=lk at *;generalize nnR ws ps t=nn at *;obtain⟨⟨nd,nname,nch⟩,nc⟩:=nn;simp only at LN;obtain⟨x0,x1⟩:=CA.o _ A1.o;go_wp2_with fail;refine(LL.o _ B1.o).mono ?_;rintro e w2 ⟨rfl,hb2⟩;have A2:=zaa (zab A1.o hb2 A1.o.size);have B2:=zaa (zab B1.o hb2 B1.o.size);clear x0 x1;obtain⟨x0,x1⟩:=CA.o _ A2.o;clear hb2 LL A1 B1
 by_cases c:lc=0
 case neg =>
  rw[if_neg c]at EL;obtain rfl:=EL.o
  have q:(lc != 0)=true:=by rw[bne_iff_ne];exact c
  clear c EL;go_wp2;go_ret2;exact zcu B2.o
 rw[if_pos c]at EL;subst c;go_wp2_with fail;refine(LDi2.o _ B2.o).mono ?_;rintro e w3 ⟨rfl,hb3⟩;have A3:=zaa (zab A2.o hb3 A2.o.size);have B3:=zaa (zab B2.o hb3 B2.o.size);clear x0 x1 hb3 LDi2 A2 B2
 by_cases c:kd=2
 ·rw[if_pos c]at EL;obtain rfl:=EL.o;rw[show(kd == 2)=true by rw[c];rfl];clear c EL;go_wp2;go_ret2;exact zcu B3.o
 rw[if_neg c]at EL;rw[show(kd == 2)=false by rw[beq_eq_false_iff_ne];exact c];have ip:=LFk.o (by first | rfl | trivial) c;clear c LFk;have M1:Hid (Mp (w3.alloc (.map #[] 0)) w3.heap.size (.map [])):=zvi;have A1m:=zaa (A3.o.alloc A3.o.size (.map #[] 0));have B1m:=zaa (B3.o.alloc B3.o.size (.map #[] 0));have z1:W.heap.size<=w3.heap.size:=A3.o.size;obtain⟨x0,x1⟩:=CA.o _ A1m.o;go_wp2_with fail;refine(LN.o _ _ _ B1m.o M1.o).mono ?_;rintro e w4 ⟨rfl,-,hg4⟩;have A4:=zaa (zfb A1m.o hg4 z1);have B4:=zaa (zab BW.o A4.o (by omega));have z4:W.heap.size<=w4.heap.size:=A4.o.size;clear x0 x1 hg4 LN M1 A3 B3 A1m B1m hmm z1;have AX:=zaa (A4.o.alloc A4.o.size (.cells #[.I nd,.string nname,.I nch] 90));have BX:=zaa (B4.o.alloc B4.o.size (.cells #[.I nd,.string nname,.I nch] 90));obtain⟨x0,x1⟩:=CA.o _ AX.o
 by_cases c:pc=0
 case neg =>
  rw[if_neg c]at EL ER;obtain rfl:=EL.o;have e2:=ER.o;simp only[Prod.mk.injEq]at e2;obtain⟨-,rfl⟩:=e2
  have q:(nc != 0)=true:=by rw[bne_iff_ne];exact c
  clear c EL ER;go_wp2;go_ret2;exact zcu BX.o
 rw[if_pos c]at EL ER;subst c;rw[EM.o]at ER;rw[EN2.o]at EL;obtain⟨p1,-,p3⟩:=PO2.o rfl;have NM:=zaa p3;have EO:=ENO.o pd pn;clear PO2 p3 EM EN2 ENO
 cases he:zbi ps pd pn with
 | some k =>
  have e8:0<=zkq ps pd pn:=by rw[zjr he];omega
  rw[if_pos e8]at EL;rw[he]at ER;obtain rfl:=EL.o;have e2:=ER.o;simp only[Prod.mk.injEq]at e2;obtain⟨-,rfl⟩:=e2;clear e8 EL ER he EO;go_wp2;go_ret2;exact zcu BX.o
 | none =>
 have e8:=EO.1 he;rw[if_neg (by omega)]at EL;rw[he]at ER;have e2:=ER.o;simp only[Prod.mk.injEq,Den.mk.injEq]at e2;obtain⟨⟨rfl,rfl,rfl⟩,rfl⟩:=e2;clear e8 ER he EO;go_wp2_with fail;refine(LK2.o _ BX.o).mono ?_;rintro e w5 ⟨rfl,hb5⟩;have V5:Hid (w5.heap[w4.heap.size]?=some (.cells #[.I nd,.string nname,.I 0] 90 (0,0))):=(hb5.block _ (by simp)).trans (zaf rfl);have A5:=zaa (zab AX.o hb5 AX.o.size);have B5:=zaa (zab BX.o hb5 BX.o.size);clear hb5 LK2 AX BX A4 B4 x0 x1;obtain⟨t0,t1,t2⟩:=zax V5.o;have u2:=(zag (xs:=[.I nd,.string nname,.I 0]) V5.o 2).2;have wz:w4.heap.size<w5.heap.size:=(Array.getElem?_eq_some_iff.1 V5.o).1
 by_cases c3:fe<0
 ·rw[show zhh fe=0 from if_pos c3,show zhf fe=7 from if_pos c3];rw[if_pos c3]at EL;obtain rfl:=EL.o;clear EL c3;go_wp2;go_ret2;exact zcu B5.o
 rw[show zhh fe=fe from if_neg c3,show zhf fe=0 from if_neg c3];rw[if_neg c3]at EL;have S:=zaa (zzf (u:=.I (i:Int)) t0 t1 t2);have A6:Hid (zB W (w5.setCell ⟨w4.heap.size,2,none⟩ (.I (i:Int)))):=A5.o.setCell (by simp only;omega) _
 have z6:w5.heap.size<=(w5.setCell ⟨w4.heap.size,2,none⟩ (.I (i:Int))).heap.size:=by simp[World.setCell]
 obtain⟨s0,s1,s2⟩:=S.o;obtain⟨d1,d2⟩:=yass (k:=fe) (x:=⟨nd,nname,(i:Int)⟩) (by omega) (yadu p1 NM.o (by omega));have LD2:=zaa (fun w1 hb=>LD.o fe ⟨nd,nname,(i:Int)⟩ w1 hb (by show nname.size<=maxLen;have:=(zda NM.o).2.1;unfold maxLen;omega));rw[d1,d2,show(Den.mk nd nname (i:Int)).v=.agg #[.I nd,.string nname,.I (i:Int)]from rfl]at LD2;have l3:(enL fe ⟨nd,nname,(i:Int)⟩).length<=3:=Nat.le_refl _;generalize enL fe ⟨nd,nname,(i:Int)⟩=L at *;have LU:=zaa (fun x w1=>zdm (i:Int) 2 x w1 (by omega) (by omega))
 have wpl:IntKind.i64.wrap (lk+1)=lk+1:=by rw[IntKind.wrap_i64];omega
 obtain rfl:=EL.o;clear d1 d2 LD EL;go_wp2_with fail
 obtain⟨w6,hw6⟩:=zE (w5.setCell ⟨w4.heap.size,2,none⟩ (.I (i:Int)))
 rw[<- hw6];rw[<- hw6]at A6;clear hw6 t0 t1 t2 u2 s0 s1 s2 S z6 A5 B5 V5 wz;have B6:=zaa (zab BW.o A6.o (by omega));refine(LD2.o _ B6.o).mono ?_;rintro e w7 ⟨v7,rfl,hr7,hb7⟩
 have J7:Hid (UpI w6 w7 v7 L):=⟨hr7.1,hb7⟩
 obtain⟨-,aE,cE,hvE,-⟩:=hr7.rd;subst hvE;have A7:=zaa (zab A6.o hb7 A6.o.size);have B7:=zaa (zab B6.o hb7 B6.o.size);obtain⟨x0,x1⟩:=CA.o _ A7.o;have y2:=(HWi.o _ B7.o).2;clear hr7 hb7 LD2 A6 A7 CA HWi;go_wp2_with fail;refine(LU.o _ _).mono ?_;rintro e w8 ⟨rfl,hb8⟩;have J8:=zaa (J7.o.below hb8);clear hb8 x0 x1 y2 J7 LU;have J9:=zaa (J8.o.below (zR.alloc zL (.cells #[.I (48+12*(i:Int)+2),.I (lk+1)] 104)));have R9:=zaa (zhs w8 (48+12*(i:Int)+2) (lk+1));have z9:w6.heap.size<=(w8.alloc (.cells #[.I (48+12*(i:Int)+2),.I (lk+1)] 104)).heap.size:=J9.o.z;go_wp2_with (at_builtin;refine zae _ rfl (.tmp 63) (.tmp 73) 58 rfl w6.heap.size 104 (.agg #[.I 0,.I 0]) 2 16 Tryz.underlying58 zgr rfl (by decide) _ _ _ rfl J9.o.l _ _ _ rfl R9.o (zdi _) (by simp[maxLen];omega) (by omega) z9 ?_);intro vN wN hownN hgrN;have G:=zaa (J9.o.grow [⟨48+12*(i:Int)+2,lk+1⟩] hownN hgrN);have G2:=zaa (G.o.wide B6.o);obtain⟨-,aN,cN,hvN,-⟩:=(zad G2.o.l).rd;subst hvN;clear hownN hgrN J8 J9 R9 G;go_wp2;go_ret2;exact zqw 0 G2.o
theorem zmu(v:Value)(ws:List Ino)(ps:List Den)(s t:ByteArray)(w:World)(h:RdIm w v ws ps)(hw:ws.length<=1048576)(hp:ps.length<=1048576)(hT:TS w)(hE:ED w)(hF:FD w)(hr:∀ k (h:k<ws.length),ws[k].R)(hs:∀ k (h:k<ps.length),ps[k].name.size<=maxLen) :
  zC 134 #[v,.string s,.string t] w fun e w'=>zgh w w' e (rnR ws ps s t):=by
 have LF:=zaa (fun vL w1 (hb:zB w w1) hL=>zip v vL ws ps [s,t] w1 (h.below hb) hL (by simp) hw hp (hT.below hb) (hE.below hb) (hF.below hb) hr hs);have LN:=zaa (fun b D w1 (hb:zB w w1) hm=>zlq v ws ps t b D w1 (h.below hb) hw hp (hT.below hb) (hE.below hb) (hF.below hb) hr hs hm);have LD:=zaa (fun k x w1 (hb:zB w w1) hs=>zcr k x w1 (hF.below hb) hs);rw[yawe]at LF;have ER:=zaa (show nnR ws ps t=if (paR ws ps t).2.2=0 then nnN ps (paR ws ps t).1 (paR ws ps t).2.1 else(ztd,(paR ws ps t).2.2)from rfl);have EM:=zaa (fun d nm=>show nnN ps d nm=match zbi ps d nm with | none=>(⟨d,nm,0⟩,0) | some _=>(ztd,8)from rfl);have PR:=zaa (@zmt ws ps t);have PO:=zaa (fun hi c=>zgq (ws:=ws) (ps:=ps) (s:=t) hi c);have ENO:=zaa (fun d nm=>@ziz ps d nm);have PA:=zaa (fun hi=>zas (ws:=ws) (ps:=ps) hi);have LL:=zaa (fun b D w1 (hb:zB w w1) hm=>zsh v ws ps s b D w1 (h.below hb) hw hp (hT.below hb) (hE.below hb) (hF.below hb) hr hs hm);have LB:=zaa (fun a b w1 (hb:zB w w1)=>zsl v ws ps a b w1 (h.below hb) hw hp (hT.below hb) (hE.below hb) (hF.below hb) hr hs);have EL:=zaa (show rnR ws ps s t=if 65536<s.size then([],2)else if 65536<t.size then([],2)else if zbg ws ps=true then rnI ws ps s t else([],1)from rfl);have EI:=zaa (show rnI ws ps s t=if (paI ws ps s).2.2=0 then rnE ws ps t (paI ws ps s).1 (paI ws ps s).2.1 else([],(paI ws ps s).2.2)from rfl);have EE:=zaa (fun d nm=>show rnE ws ps t d nm=match zbi ps d nm with | none=>([],5) | some k=>rnP ws ps t k from rfl);have EP:=zaa (fun k=>show rnP ws ps t k=if (paI ws ps t).2.2=0 then rnN ws ps k (paI ws ps t).1 (paI ws ps t).2.1 else([],(paI ws ps t).2.2)from rfl);have EN:=zaa (fun k d nm=>show rnN ws ps k d nm=if 0<=zkq ps d nm then([],8)else if zaj ws (zao ps k)=2/\ziv ps 17 d (zao ps k)=true then([],13) else(enL (k:Int) ⟨d,nm,zao ps k⟩,0)from rfl);have RR0:=zaa (show erR ws ps s=if (paR ws ps s).2.2=0 then erN ps (paR ws ps s).1 (paR ws ps s).2.1 else(0,(paR ws ps s).2.2)from rfl);have RN:=zaa (fun d nm=>show erN ps d nm=match zbi ps d nm with | none=>(0,5) | some k=>((k:Int),0)from rfl);have PRs:=zaa (@zmt ws ps s);have CR:=zaa (fun hi d nm k e=>And.intro (zef (ws:=ws) (ps:=ps) hi (d:=d) (nm:=nm) (k:=k) e) (zya hi e));have BE1:=zaa (fun hi a b q r=>ybay (ws:=ws) (ps:=ps) (a:=a) (b:=b) hi q r);have BE2:=zaa (fun hi a b q r=>yahj (ws:=ws) (ps:=ps) (a:=a) (b:=b) hi q r);obtain⟨vW,vP,rfl,h1,h2⟩:=h;obtain⟨aW,cW,rfl,_,hcW⟩:=h1.shape;obtain⟨aP,cP,rfl,_,hcP⟩:=h2.shape;have HW:=zaa hcW;have HP:=zaa hcP;clear h1 h2 hr hs hT hE hF hcW hcP
 have CA:Hid (∀ w',Below (w.alloc (.cells #[.slice aW ws.length cW,.slice aP ps.length cP] 51)).heap.size (w.alloc (.cells #[.slice aW ws.length cW,.slice aP ps.length cP] 51)) w'->w'.cell? ⟨w.heap.size,0,none⟩=some (.slice aW ws.length cW)/\w'.cell? ⟨w.heap.size,1,none⟩=some (.slice aP ps.length cP)):=fun w' hb=>by
  have:w'.heap[w.heap.size]?=some (.cells #[.slice aW ws.length cW,.slice aP ps.length cP] 51 (0,0)):=(hb.block _ (by simp)).trans (zaf rfl);exact⟨(zac this).1,(zac this).2.1⟩
 have BW:Hid (zB w (w.alloc (.cells #[.slice aW ws.length cW,.slice aP ps.length cP] 51))):=zR.alloc zL _;obtain⟨x0,x1⟩:=CA.o _ zR;generalize hmr:rnR ws ps s t=res at *;clear hmr
 obtain⟨W,hW⟩:=zE (w.alloc (.cells #[.slice aW ws.length cW,.slice aP ps.length cP] 51))
 have RS:Hid (RdT (W.alloc (.cells #[.string s,.string t] 9)) (.slice (some ⟨W.heap.size,0,none⟩) 2 2) [s,t]):=by
  refine⟨rfl,_,_,rfl,⟨Nat.le_refl _,fun e=>by cases e⟩,fun _=>⟨W.heap.size,0,rfl,by simp,fun j hj=>?_⟩⟩;have e0:=(zag (xs:=[.string s,.string t]) (zaf (w:=W) (o:=.cells #[.string s,.string t] 9) rfl) j).1;rw[Nat.zero_add];rw[e0];rfl
 have hz:w.heap.size<W.heap.size:=by rw[hW];simp
 have BS:Hid (zB W (W.alloc (.cells #[.string s,.string t] 9))):=zR.alloc zL _
 have hWs:W.heap.size=w.heap.size+1:=by rw[hW];simp
 rw[hWs]at RS;rw[<- hW]at CA BW;have hmm:=@run_makeMap Tryz.prog;go_enter Tryz.func134,Tryz.ntmps134;go_wp2_with fail;rw[<- hW];clear hW x0 x1 hWs;refine(LF.o _ _ (zab BW.o BS.o (by omega)) RS.o).mono ?_;rintro e w1 ⟨rfl,hb1⟩;have A1:=zaa (zab BS.o hb1 BS.o.size);have B1:=zaa (zab BW.o A1.o (by omega));clear hb1 BS RS LF
 by_cases c1:65536<s.size
 ·rw[if_pos c1];rw[if_pos c1]at EL;obtain rfl:=EL.o;go_wp2;go_ret2;exact zcu B1.o
 rw[if_neg c1];rw[if_neg c1]at EL
 by_cases c1t:65536<t.size
 ·rw[if_pos c1t];rw[if_pos c1t]at EL;obtain rfl:=EL.o;go_wp2;go_ret2;exact zcu B1.o
 rw[if_neg c1t];rw[if_neg c1t]at EL
 cases hi:zbg ws ps with
 | false =>
  rw[hi]at EL;obtain rfl:=EL.o;go_wp2;go_ret2;exact zcu B1.o
 | true =>
 rw[if_pos rfl];rw[hi,if_pos rfl]at EL;have PE:=PR.o c1t hi;have PO2:=zaa (PO.o hi);obtain⟨l16,l24,_⟩:=PA.o hi;have L16:=zaa l16;have L24:=zaa l24;obtain⟨bW,oW,rfl,hblW,hcellW⟩:=HW.o (by omega);obtain⟨bP,oP,rfl,hblP,hcellP⟩:=HP.o (by omega)
 have HWc:Hid (∀ i (h:i<ws.length) w',zB w w'->w'.cell? ⟨bW,oW+i*11,none⟩=some (.I (zaj ws (i:Int)))/\w'.cell? ⟨bW,oW+i*11+2,none⟩=some (.I (zdr ws (i:Int)))):=fun i h w' hb =>
  ⟨((hb.cell (p:=⟨bW,oW+i*11,none⟩) hblW).trans (hcellW i h).1).trans (by rw[<- zbk h]),((hb.cell (p:=⟨bW,oW+i*11+2,none⟩) hblW).trans (hcellW i h).2.2.1).trans (by rw[<- zgi h])⟩
 have HPc:Hid (∀ k (h:k<ps.length) w',zB w w'->w'.cell? ⟨bP,oP+k*3+2,none⟩=some (.I (zao ps k))):=fun k h w' hb =>
  ((hb.cell (p:=⟨bP,oP+k*3+2,none⟩) hblP).trans (hcellP k h).2.2).trans (by rw[<- zbn h])
 rw[PE]at ER;clear PE PR PO PA HW HP hcellW hcellP l16 l24;rw[PRs.o c1 hi]at RR0;rw[EI.o]at EL;have CRi:=zaa (CR.o hi);have BEa:=zaa (BE1.o hi);have BEb:=zaa (BE2.o hi);clear PRs EI c1 c1t hi CR BE1 BE2 HWc hblW;generalize paI ws ps t=pt at *;generalize paI ws ps s=pr at *;obtain⟨pd,pn,pc⟩:=pr;obtain⟨td,tn,tc⟩:=pt;simp only at EL PO2 ER RR0 EP;generalize nnR ws ps t=nn at *;obtain⟨⟨nd,nname,nch⟩,nc⟩:=nn;generalize erR ws ps s=er at *;obtain⟨ek,ec⟩:=er;simp only at LN LL;have M1:Hid (Mp (w1.alloc (.map #[] 0)) w1.heap.size (.map [])):=zvi;have A1m:=zaa (A1.o.alloc A1.o.size (.map #[] 0));have B1m:=zaa (B1.o.alloc B1.o.size (.map #[] 0));have z1:W.heap.size<=w1.heap.size:=A1.o.size;obtain⟨x0,x1⟩:=CA.o _ A1m.o;go_wp2_with fail;refine(LL.o _ _ _ B1m.o M1.o).mono ?_;rintro e w2 ⟨rfl,⟨D2,hm2⟩,hg2⟩;have A2:=zaa (zfb A1m.o hg2 z1);have B2:=zaa (zab BW.o A2.o (by omega));have M2:=zaa hm2;clear x0 x1 hg2 LL M1 A1 B1 A1m B1m hmm hm2
 by_cases c:pc=0
 case neg =>
  rw[if_neg c]at EL RR0;obtain rfl:=EL.o;have e2:=RR0.o;simp only[Prod.mk.injEq]at e2;obtain⟨-,rfl⟩:=e2
  have q:(ec != 0)=true:=by rw[bne_iff_ne];exact c
  clear c EL RR0;go_wp2;go_ret2;exact zcu B2.o
 rw[if_pos c]at EL RR0;subst c;rw[RN.o]at RR0;rw[EE.o]at EL;clear EE RN
 cases he:zbi ps pd pn with
 | none =>
  rw[he]at EL RR0;obtain rfl:=EL.o;have e2:=RR0.o;simp only[Prod.mk.injEq]at e2;obtain⟨-,rfl⟩:=e2;clear EL RR0;go_wp2;go_ret2;exact zcu B2.o
 | some k =>
 rw[he]at EL RR0;have e2:=RR0.o;simp only[Prod.mk.injEq]at e2;obtain⟨rfl,rfl⟩:=e2;have EL2:Hid (res=rnP ws ps t k):=EL.o;rw[EP.o]at EL2;obtain⟨⟨k1,k2⟩,k3⟩:=CRi.o _ _ _ he;have EN2:=zaa (EN.o k);have HPk:=zaa (HPc.o k k1)
 obtain⟨i,hi'⟩:∃ i:Nat,zao ps k=(i:Int):=⟨(zao ps k).toNat,by omega⟩
 rw[hi']at EN2 HPk k3
 have k24:k<24:=by have:=L24.o;omega
 have i16:i<16:=by omega
 have kl:(k:Int)<(ps.length:Int):=by omega
 have k0:(0:Int)<=(k:Int):=by omega
 have i0:(0:Int)<=(i:Int):=by omega
 clear EL EP EN CRi HPc he hi' k2 RR0;obtain⟨x0,x1⟩:=CA.o _ A2.o;go_wp2_with fail;refine(LN.o _ _ _ B2.o M2.o).mono ?_;rintro e w4 ⟨rfl,-,hg4⟩;have A4:=zaa (zfb A2.o hg4 z1);have B4:=zaa (zab BW.o A4.o (by omega));have z4:W.heap.size<=w4.heap.size:=A4.o.size;clear x0 x1 hg4 LN M2 A2 B2;have AX:=zaa (A4.o.alloc A4.o.size (.cells #[.I nd,.string nname,.I nch] 90));have BX:=zaa (B4.o.alloc B4.o.size (.cells #[.I nd,.string nname,.I nch] 90))
 by_cases c:tc=0
 case neg =>
  rw[if_neg c]at EL2 ER;obtain rfl:=EL2.o;have e2:=ER.o;simp only[Prod.mk.injEq]at e2;obtain⟨-,rfl⟩:=e2
  have q:(nc != 0)=true:=by rw[bne_iff_ne];exact c
  clear c EL2 ER;go_wp2;go_ret2;exact zcu BX.o
 rw[if_pos c]at EL2 ER;subst c;rw[EM.o]at ER;rw[EN2.o]at EL2;obtain⟨p1,p2,p3⟩:=PO2.o rfl;have NM:=zaa p3;have EO:=ENO.o td tn;clear PO2 p3 EM EN2 ENO
 cases he:zbi ps td tn with
 | some k' =>
  have e8:0<=zkq ps td tn:=by rw[zjr he];omega
  rw[if_pos e8]at EL2;rw[he]at ER;obtain rfl:=EL2.o;have e2:=ER.o;simp only[Prod.mk.injEq]at e2;obtain⟨-,rfl⟩:=e2;clear e8 EL2 ER he EO;go_wp2;go_ret2;exact zcu BX.o
 | none =>
 have e8:=EO.1 he;rw[if_neg (by omega)]at EL2;rw[he]at ER;have e2:=ER.o;simp only[Prod.mk.injEq,Den.mk.injEq]at e2;obtain⟨⟨rfl,rfl,rfl⟩,rfl⟩:=e2;clear e8 ER he EO
 obtain⟨w5,hw5⟩:=zE (w4.alloc (.cells #[.I nd,.string nname,.I (i:Int)] 90))
 have V5:Hid (w5.heap[w4.heap.size]?=some (.cells #[.I nd,.string nname,.I (i:Int)] 90 (0,0))):=by rw[hw5];exact zaf rfl
 have A5:Hid (zB W w5):=by rw[hw5];exact A4.o.alloc A4.o.size _
 have B5:=zaa (zab BW.o A5.o (by omega));obtain⟨x0,x1⟩:=CA.o _ AX.o;obtain⟨x0',x1'⟩:=CA.o _ A5.o;rw[hw5]at x0' x1';have y0:=HPk.o _ BX.o;obtain⟨d1,d2⟩:=yass (k:=(k:Int)) (x:=⟨nd,nname,(i:Int)⟩) (by omega) (yadu p1 NM.o (by omega));have LD2:=zaa (fun w1 hb=>LD.o (k:Int) ⟨nd,nname,(i:Int)⟩ w1 hb (by show nname.size<=maxLen;have:=(zda NM.o).2.1;unfold maxLen;omega));rw[d1,d2,show(Den.mk nd nname (i:Int)).v=.agg #[.I nd,.string nname,.I (i:Int)]from rfl]at LD2
 have BV:Hid (beV ws ps nd (i:Int)=true↔zaj ws (i:Int)=2/\ziv ps 17 nd (i:Int)=true):=by
  show _↔_
  by_cases q:zaj ws (i:Int)=2
  ·rw[(BEa.o nd (i:Int) ⟨p1,by omega⟩ ⟨p2,q⟩).2];exact⟨fun h=>⟨q,h⟩,fun h=>h.2⟩
  ·rw[(BEb.o nd (i:Int) ⟨p1,by omega⟩ (fun h=>q h.2)).2];exact⟨fun h=>(by cases h),fun h=>absurd h.1 q⟩
 have LB2:=zaa (fun w1 hb=>LB.o nd (i:Int) w1 hb);clear LB BEa BEb d1 d2 LD;generalize enL (k:Int) ⟨nd,nname,(i:Int)⟩=L at *;generalize beV ws ps nd (i:Int)=bv at *;generalize beC ws ps nd (i:Int)=bc at *;go_wp2_with fail;rw[<- hw5];clear hw5 x0 x1 x0' x1' y0 AX BX A4 B4 HPk;refine(LB2.o _ B5.o).mono ?_;rintro e w6 ⟨rfl,hb6⟩;have B6:=zaa (zab B5.o hb6 B5.o.size);have V6:Hid (w6.heap[w4.heap.size]?=some (.cells #[.I nd,.string nname,.I (i:Int)] 90 (0,0))):=(hb6.block _ ((Array.getElem?_eq_some_iff.1 V5.o).1)).trans V5.o;clear hb6 LB2 A5 B5 V5 CA
 cases bv with
 | true =>
  rw[if_pos (BV.o.1 rfl)]at EL2;obtain rfl:=EL2.o;clear EL2 BV;go_wp2;go_ret2;exact zcu B6.o
 | false =>
 rw[if_neg (fun h=>by cases BV.o.2 h)]at EL2;obtain rfl:=EL2.o;obtain⟨t0,t1,t2⟩:=zax V6.o;clear EL2 BV;go_wp2_with fail;refine(LD2.o _ B6.o).mono ?_;rintro e w7 ⟨v7,rfl,hr7,hb7⟩;have R7:=zaa (hr7.wide B6.o.size zL);have B7:=zaa (zab B6.o hb7 B6.o.size);obtain⟨-,aE,cE,hvE,-⟩:=hr7.rd;subst hvE;clear hr7 hb7 t0 t1 t2;go_wp2;go_ret2;exact⟨_,rfl,R7.o,B7.o⟩
end Go.Proofs.YtogcbbkhnpmgeaaGreatDoor
