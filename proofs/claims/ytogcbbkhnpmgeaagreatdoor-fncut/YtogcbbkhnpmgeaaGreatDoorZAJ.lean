import Derived.Test.YtogcbbkhnpmgeaaGreatDoorZAI
set_option maxRecDepth 100000
set_option maxHeartbeats 8000000
namespace Go.Proofs.YtogcbbkhnpmgeaaGreatDoor
open Go.RowKit
def sixC(f:Int->Int):List Value:=(List.range 16).map fun(j:Nat)=>.I (f (j:Int))
theorem zok(f:Int->Int)(j:Nat)(h:j<16):(sixC f)[j]?=some (.I (f (j:Int))):=by
 unfold sixC;rw[List.getElem?_map,List.getElem?_range h];rfl
theorem yajp(f:Int->Int)(n:Nat)(i:Int):zdc f (n+1) i=f (zdc f n i):=by
 rw[zew f n 1 i];rfl
theorem zmw(f:Int->Int)(i:Int)(w:World)(hr:∀ n,0<=zdc f n i/\zdc f n i<=15) :
  zC 118 #[.agg (sixC f).toArray,.I i] w fun e w'=>e=.returned (.bool (zdc f 16 i == 0))/\zB w w':=by
 have HR:=zaa hr
 have C0:Hid (∀ j,j<16->(w.alloc (.cells (sixC f).toArray 165)).cell? ⟨w.heap.size,j,none⟩=some (.I (f (j:Int)))):=fun j hj=>(zak (xs:=sixC f) (zah rfl) j).1.trans (zok f j hj)
 have BW:=zaa ((Below.refl w.heap.size w).alloc zL (.cells (sixC f).toArray 165));have G0:zdc f 0 i=i:=rfl;clear hr;go_enter Tryz.func118,Tryz.ntmps118;go_wp2;generalize w.alloc (.cells (sixC f).toArray 165)=W at *
 go_loopw [1,5] (fun v k wr=>∃ m:Nat,m<=16/\k=.I m/\v=.I (zdc f m i)/\wr=W) (fun _ k _=>16-(intOf k).toNat)
 case atStart=>exact⟨0,by omega,rfl,by rw[G0],rfl⟩
 case round =>
  obtain⟨m,hm,rfl,rfl,rfl⟩:=hrel
  by_cases hlt:m<16
  ·obtain⟨r0,r1⟩:=HR.o m
   obtain⟨c,hc⟩:∃ c:Nat,zdc f m i=(c:Int):=⟨(zdc f m i).toNat,by omega⟩
   have NX:=zaa (yajp f m i);rw[hc]at NX;rw[hc]at r0 r1;have g:=C0.o c (by omega)
   have m0:(0:Int)<=(m:Int):=by omega
   have m1:(m:Int)<16:=by omega
   have c1:(c:Int)<16:=by omega
   rw[hc];clear hc G0;generalize f (c:Int)=z at g NX;go_wp2
   go_roundw
   case rel=>exact⟨m+1,by omega,by go_num,by rw[NX.o],trivial⟩
   case measure=>simp[intOf];omega
  ·obtain rfl:m=16:=by omega
   generalize hZ:zdc f 16 i=z;have HZ:=zaa hZ;clear hZ;go_wp2;go_ret;exact⟨zag (by rw[HZ.o]),BW.o⟩
def upC(ts:List Den)(k:Nat):List Value:=sixC (upA ts k)
theorem yabb{ts:List Den}{k:Nat}(hk:k<ts.length)(j:Int):upA ts (k+1) j=if ts[k].child=j then ts[k].dir else upA ts k j:=by
 show(if (ts.getD k ⟨0,⟨#[]⟩,0⟩).child=j then(ts.getD k ⟨0,⟨#[]⟩,0⟩).dir else upA ts k j)=_
 rw[List.getD_eq_getElem?_getD,List.getElem?_eq_getElem hk];rfl
theorem yaol{ts:List Den}{k c:Nat}(hk:k<ts.length)(hc:c<16)(e:ts[k].child=(c:Int)):(upC ts k).set c (.I ts[k].dir)=upC ts (k+1):=by
 apply List.ext_getElem?;intro j
 have hl:(upC ts k).length=16:=by simp[upC,sixC]
 by_cases hj:j<16
 ·rw[yagt (by omega)];unfold upC;rw[zok _ j hj,zok _ j hj,yabb hk,e]
  by_cases h:j=c
  ·subst h;rw[if_pos rfl,if_pos rfl]
  ·rw[if_neg h,if_neg (by omega)]
 ·rw[List.getElem?_eq_none (by simp[upC,sixC];omega),List.getElem?_eq_none (by simp[upC,sixC];omega)]
theorem yaul{ws:List Ino}{ts:List Den}(h:∀ i (h:i<ws.length),ws[i].kind=2->zdc (upA ts ts.length) 16 (i:Int)=0):dhB ws ts=true:=decide_eq_true h
theorem yaqr{ws:List Ino}{ts:List Den}{i:Nat}(hi:i<ws.length)(hk:ws[i].kind=2)(h:¬ zdc (upA ts ts.length) 16 (i:Int)=0):dhB ws ts=false:=decide_eq_false (fun x=>h (x i hi hk))
theorem zvt{ts:List Den}(hT:∀ k (h:k<ts.length),0<=ts[k].dir/\ts[k].dir<=15):∀ (k:Nat) (_:k<=ts.length) (j:Int),0<=upA ts k j/\upA ts k j<=15
 | 0,_,_=>by show(0:Int)<=0/\(0:Int)<=15;omega
 | k+1,hk,j=>by
  rw[yabb (by omega)]
  split
  ·exact hT k (by omega)
  ·exact zvt hT k (by omega) j
theorem zqf{f:Int->Int}(hf:∀ j,0<=f j/\f j<=15):∀ (n:Nat) (i:Int),0<=i/\i<=15->0<=zdc f n i/\zdc f n i<=15
 | 0,_,h=>h
 | n+1,i,_=>zqf hf n (f i) (hf i)
theorem zil(vW v:Value)(ws:List Ino)(ts:List Den)(w:World)(hw:RdN w vW ws)(h:RdD w v ts)(hl:ws.length=16)(hn:ts.length<=4096)(hT:∀ k (h:k<ts.length),(0<=ts[k].child/\ts[k].child<=15)/\(0<=ts[k].dir/\ts[k].dir<=15)) :
  zC 63 #[vW,v] w fun e w'=>e=.returned (.bool (dhB ws ts))/\zB w w':=by
 obtain⟨aW,cW,rfl,_,hcW⟩:=hw.shape;obtain⟨aP,cP,rfl,_,hcP⟩:=h.shape;have HW:=zaa hcW;have HP:=zaa hcP;have HT:=zaa hT;have HL:=zaa hl;have UB:=zaa (zvt (fun k h=>(hT k h).2) ts.length zL)
 have S0:Hid ((w.alloc (.cells #[.I 0,.I 0,.I 0,.I 0,.I 0,.I 0,.I 0,.I 0,.I 0,.I 0,.I 0,.I 0,.I 0,.I 0,.I 0,.I 0] 165)).heap[w.heap.size]?=some (.cells (upC ts 0).toArray 165 (0,0))/\zB w (w.alloc (.cells #[.I 0,.I 0,.I 0,.I 0,.I 0,.I 0,.I 0,.I 0,.I 0,.I 0,.I 0,.I 0,.I 0,.I 0,.I 0,.I 0] 165))):=⟨zah rfl,zR.alloc zL _⟩
 clear h hw hcW hcP hT hl;go_enter Tryz.func63,Tryz.ntmps63;go_wp2
 go_loopw [7,12] (fun _ i wr=>∃ k:Nat,k<=ts.length/\i=.I k/\Hid (wr.heap[w.heap.size]?=some (.cells (upC ts k).toArray 165 (0,0))/\zB w wr)) (fun _ i _=>ts.length-(intOf i).toNat)
 case atStart=>exact⟨0,by omega,rfl,S0⟩
 case round =>
  obtain⟨k,hk,rfl,I⟩:=hrel;have hz:w.heap.size<=wr.heap.size:=I.o.2.size;have hzz:w.heap.size<wr.heap.size:=(Array.getElem?_eq_some_iff.1 I.o.1).1;clear S0
  by_cases hlt:k<ts.length
  ·obtain⟨b,o,rfl,hbl,hcell⟩:=HP.o (by omega);obtain⟨a0,a1,a2⟩:=hcell k hlt;have d0:=(I.o.2.cell (p:=⟨b,o+k*3,none⟩) hbl).trans a0;have d1:=(I.o.2.cell (p:=⟨b,o+k*3+1,none⟩) hbl).trans a1;have d2:=(I.o.2.cell (p:=⟨b,o+k*3+2,none⟩) hbl).trans a2
   have k0:(0:Int)<=(k:Int):=by omega
   have k1:(k:Int)<(ts.length:Int):=by omega
   obtain⟨c1,c2⟩:=(HT.o k hlt).1
   obtain⟨c,hc⟩:∃ c:Nat,ts[k].child=(c:Int):=⟨ts[k].child.toNat,by omega⟩
   have LS:=zaa (yaol hlt (c:=c) (by omega) hc);rw[hc]at d2 c1 c2;have LA:=zaa (zok (upA ts k) c (by omega));have g1:=(zak (xs:=upC ts k) I.o.1 c).1.trans LA.o;have g2:=(zak I.o.1 c).2;clear a0 a1 a2 hcell hc;generalize ts[k].dir=xd at *;generalize ts[k].name=xs at *;generalize upA ts k (c:Int)=z at *;have BA:Hid (zB wr (wr.alloc (.cells #[.I xd,.string xs,.I (c:Int)] 90))):=zR.alloc zL _;have g3:=(BA.o.cell (p:=⟨w.heap.size,c,none⟩) hzz).trans g1;have g4:(wr.alloc (.cells #[.I xd,.string xs,.I (c:Int)] 90)).frozen? ⟨w.heap.size,c,none⟩=false:=(zak (zal I.o.1) c).2
   have c16:(c:Int)<16:=by omega
   have G:Hid (((wr.setCell ⟨w.heap.size,c,none⟩ (.I xd)).alloc (.cells #[.I xd,.string xs,.I (c:Int)] 90)).heap[w.heap.size]?=some (.cells (upC ts (k+1)).toArray 165 (0,0))/\zB w ((wr.setCell ⟨w.heap.size,c,none⟩ (.I xd)).alloc (.cells #[.I xd,.string xs,.I (c:Int)] 90))):=by
    refine⟨?_,(I.o.2.setCell zL _).alloc (by simp;omega) _⟩;rw[<- LS.o];exact zal (zcd I.o.1 c _)
   clear I LS LA BA;go_wp2
   go_roundw
   case rel=>exact⟨k+1,by omega,by go_num,G⟩
   case measure=>simp[intOf];omega
  ·obtain rfl:k=ts.length:=by omega
   have START:Hid (zB wr wr):=zR
   have HC:Hid (∀ w',zB wr w'->∀ j,j<16->w'.cell? ⟨w.heap.size,j,none⟩=some (.I (upA ts ts.length (j:Int)))):=fun w' hb j hj=>by
    have:=(hb.block _ hzz).trans I.o.1;exact(zak (xs:=upC ts ts.length) this j).1.trans (zok _ j hj)
   have BW:=zaa I.o.2;have LR:=zaa (fun(i:Nat) (hi:i<16) w1=>zmw (upA ts ts.length) (i:Int) w1 (fun n=>zqf UB.o n _ (by omega)));have MK:=zaa (fun h=>yaul (ws:=ws) (ts:=ts) h);have NO:=zaa (fun i hi hk h=>yaqr (ws:=ws) (ts:=ts) (i:=i) hi hk h);generalize hV:wr=V at *;generalize upA ts ts.length=f at *;clear hV I UB;go_wp2
   go_loopw [8,9,24] (fun _ _ i wq=>∃ m:Nat,m<=ws.length/\i=.I m/\Hid (zB V wq/\∀ j (h:j<ws.length),j<m->ws[j].kind=2->zdc f 16 (j:Int)=0)) (fun _ _ i _=>ws.length-(intOf i).toNat)
   case atStart=>exact⟨0,by omega,rfl,START.o,fun j h a=>absurd a (by omega)⟩
   case round =>
    obtain⟨m,hm,rfl,J⟩:=hrel;have J1:=zaa J.o.1;have JW:=zaa (zab BW.o J.o.1 hz);have hzq:V.heap.size<=wr.heap.size:=J.o.1.size
    by_cases hlm:m<ws.length
    ·obtain⟨b,o,rfl,hbl,hcell⟩:=HW.o (by omega);obtain⟨a0,a1,a2,a3,a4,a5,a6,a7,a8,a9,a10⟩:=hcell m hlm;have d0:=(JW.o.cell (p:=⟨b,o+m*11,none⟩) hbl).trans a0;have d1:=(JW.o.cell (p:=⟨b,o+m*11+1,none⟩) hbl).trans a1;have d2:=(JW.o.cell (p:=⟨b,o+m*11+2,none⟩) hbl).trans a2;have d3:=(JW.o.cell (p:=⟨b,o+m*11+3,none⟩) hbl).trans a3;have d4:=(JW.o.cell (p:=⟨b,o+m*11+4,none⟩) hbl).trans a4;have d5:=(JW.o.cell (p:=⟨b,o+m*11+5,none⟩) hbl).trans a5;have d6:=(JW.o.cell (p:=⟨b,o+m*11+6,none⟩) hbl).trans a6;have d7:=(JW.o.cell (p:=⟨b,o+m*11+7,none⟩) hbl).trans a7;have d8:=(JW.o.cell (p:=⟨b,o+m*11+8,none⟩) hbl).trans a8;have d9:=(JW.o.cell (p:=⟨b,o+m*11+9,none⟩) hbl).trans a9;have d10:=(JW.o.cell (p:=⟨b,o+m*11+10,none⟩) hbl).trans a10
     have m0:(0:Int)<=(m:Int):=by omega
     have m1:(m:Int)<(ws.length:Int):=by omega
     have m16:m<16:=by have:=HL.o;omega
     have B2:=zaa (J1.o.alloc hzq (.cells ws[m].cs.toArray 87));have BF:=zaa (zab BW.o B2.o hz);have LM:=zaa (fun w1=>LR.o m m16 w1)
     have J2:Hid ((ws[m].kind=2->zdc f 16 (m:Int)=0)->∀ j (h:j<ws.length),j<m+1->ws[j].kind=2->zdc f 16 (j:Int)=0):=fun q j h a=>by
      by_cases e:j=m
      ·subst e;exact q
      ·exact J.o.2 j h (by omega)
     have J3:=zaa (fun hk q=>NO.o m hlm hk q);clear a0 a1 a2 a3 a4 a5 a6 a7 a8 a9 a10 hcell J;generalize ws[m]=x at d0 d1 d2 d3 d4 d5 d6 d7 d8 d9 d10 B2 BF J2 J3
     by_cases r:x.kind=2
     ·have r1:(x.kind == 2)=true:=by rw[r];rfl
      have ZC:=HC.o _ B2.o;have z0:=ZC 0 (by omega);have z1:=ZC 1 (by omega);have z2:=ZC 2 (by omega);have z3:=ZC 3 (by omega);have z4:=ZC 4 (by omega);have z5:=ZC 5 (by omega);have z6:=ZC 6 (by omega);have z7:=ZC 7 (by omega);have z8:=ZC 8 (by omega);have z9:=ZC 9 (by omega);have z10:=ZC 10 (by omega);have z11:=ZC 11 (by omega);have z12:=ZC 12 (by omega);have z13:=ZC 13 (by omega);have z14:=ZC 14 (by omega);have z15:=ZC 15 (by omega);clear ZC;unfold Ino.cs at B2 BF z0 z1 z2 z3 z4 z5 z6 z7 z8 z9 z10 z11 z12 z13 z14 z15;unfold sixC at LM
      by_cases q:zdc f 16 (m:Int)=0
      ·have q1:(zdc f 16 (m:Int) == 0)=true:=by rw[q];rfl
       have E:=zaa (J2.o (fun _=>q));rw[q1]at LM;clear q J2 J3 r q1;go_wp2_with fail;refine(LM.o _).mono ?_;rintro e w1 ⟨rfl,hb1⟩;have B3:=zaa (zab B2.o hb1 B2.o.size);clear hb1 d0 d1 d2 d3 d4 d5 d6 d7 d8 d9 d10 z0 z1 z2 z3 z4 z5 z6 z7 z8 z9 z10 z11 z12 z13 z14 z15;go_wp2
       go_roundw
       case rel=>exact⟨m+1,by omega,by go_num,B3.o,E.o⟩
       case measure=>simp[intOf];omega
      ·have q1:(zdc f 16 (m:Int) == 0)=false:=by rw[beq_eq_false_iff_ne];exact q
       have E:=zaa (J3.o r q);rw[q1]at LM;clear q J2 J3 r q1;go_wp2_with fail;refine(LM.o _).mono ?_;rintro e w1 ⟨rfl,hb1⟩;have B3:=zaa (zab BF.o hb1 BF.o.size);clear hb1 d0 d1 d2 d3 d4 d5 d6 d7 d8 d9 d10 z0 z1 z2 z3 z4 z5 z6 z7 z8 z9 z10 z11 z12 z13 z14 z15;go_wp2;go_ret;exact⟨zag E.o.symm,B3.o⟩
     ·have r1:(x.kind == 2)=false:=by rw[beq_eq_false_iff_ne];exact r
      have E:=zaa (J2.o (fun e=>absurd e r));unfold Ino.cs at B2 BF;clear r J2 J3;go_wp2
      go_roundw
      case rel=>exact⟨m+1,by omega,by go_num,B2.o,E.o⟩
      case measure=>simp[intOf];omega
    ·have E:=zaa (MK.o (fun j h=>J.o.2 j h (by omega)));clear J;go_wp2;go_ret;exact⟨zag E.o.symm,JW.o⟩
def pimB(ws:List Ino)(ps:List Den):Bool:=zgx ws ps&&(zai ws 0 == 2&&(zpk ws (zas ps)&&(znm ((zas ps).map zhx)&&(lcB ws (zas ps)&&(dhB ws (zas ps)&&zfk (zap ws))))))
theorem yabo{ws:List Ino}{ps:List Den}(h:zgx ws ps=true):ws.length=16/\ps.length=24/\zwo ws=true/\okDs ps=true:=by
 unfold zgx at h;simp only[Bool.and_eq_true,decide_eq_true_eq]at h;exact h
theorem zxx{ps:List Den}(h:okDs ps=true):∀ k (h:k<(zas ps).length),(0<=(zas ps)[k].child/\(zas ps)[k].child<=15)/\(0<=(zas ps)[k].dir/\(zas ps)[k].dir<=15):=by
 have h:=of_decide_eq_true h;intro k hk;obtain⟨hm,hf⟩:=List.mem_filter.1 (List.getElem_mem hk);obtain⟨i,hi,e⟩:=List.getElem_of_mem hm;have o:=h i hi;rw[e]at o;have c:=zmk o (fun q=>by rw[(zrh o).2 q]at hf;cases hf);exact⟨by omega,c.2.1⟩
theorem yain(v:Value)(ws:List Ino)(ps:List Den)(w:World)(h:RdIm w v ws ps)(hw:ws.length<=1048576)(hp:ps.length<=1048576)(hT:TS w)(hE:ED w)(hF:FD w)(hr:∀ k (h:k<ws.length),ws[k].R)(hs:∀ k (h:k<ps.length),ps[k].name.size<=maxLen) :
  zC 24 #[v] w fun e w'=>e=.returned (.bool (pimB ws ps))/\zB w w':=by
 have LP:=zaa (fun w1 (hb:zB w w1)=>zyc v ws ps w1 (h.below hb) hw hp (hT.below hb) (hE.below hb) (hF.below hb) hr hs);obtain⟨vW,vP,rfl,h1,h2⟩:=h;have RW:=zaa h1;have RP:=zaa h2;obtain⟨aW,cW,rfl,_,hcW⟩:=h1.shape;obtain⟨aP,cP,rfl,_,_⟩:=h2.shape;have BW:=zaa ((Below.refl w.heap.size w).alloc zL (.cells #[.slice aW ws.length cW,.slice aP ps.length cP] 51))
 have CA:Hid (∀ w',Below (w.alloc (.cells #[.slice aW ws.length cW,.slice aP ps.length cP] 51)).heap.size (w.alloc (.cells #[.slice aW ws.length cW,.slice aP ps.length cP] 51)) w'->w'.cell? ⟨w.heap.size,0,none⟩=some (.slice aW ws.length cW)/\w'.cell? ⟨w.heap.size,1,none⟩=some (.slice aP ps.length cP)):=fun w' hb=>by
  have:w'.heap[w.heap.size]?=some (.cells #[.slice aW ws.length cW,.slice aP ps.length cP] 51 (0,0)):=(hb.block _ (by simp)).trans (zah rfl);exact⟨(zac this).1,(zac this).2.1⟩
 obtain⟨x0,x1⟩:=CA.o _ zR;have F:=zaa hF;clear h1 h2 hT hE hF hr hs
 cases c1:zgx ws ps with
 | false =>
  have E:=zaa (show pimB ws ps=false by unfold pimB;rw[c1];rfl);rw[c1]at LP;clear c1 hcW;go_enter Tryz.func24,Tryz.ntmps24;go_wp2_with fail;refine(LP.o _ BW.o).mono ?_;rintro e w1 ⟨rfl,hb1⟩;have B1:=zaa (zab BW.o hb1 BW.o.size);clear hb1 x0 x1;go_wp2;go_ret;exact⟨zag E.o.symm,B1.o⟩
 | true =>
 obtain⟨l1,l2,o1,o2⟩:=yabo c1;have E0:=zaa (show pimB ws ps=(zai ws 0 == 2&&(zpk ws (zas ps)&&(znm ((zas ps).map zhx)&&(lcB ws (zas ps)&&(dhB ws (zas ps)&&zfk (zap ws)))))) by unfold pimB;rw[c1,Bool.true_and]);rw[c1]at LP;obtain⟨bW,oW,rfl,hblW,hcellW⟩:=hcW (by omega);have HK:=(hcellW 0 (by omega)).1;rw[show ws[0].kind=zai ws 0 from(zbk (i:=0) (by omega)).symm]at HK;simp only[Nat.zero_mul,Nat.add_zero]at HK
 have KK:Hid (∀ w',zB w w'->w'.cell? ⟨bW,oW,none⟩=some (.I (zai ws 0))):=fun w' hb=>(hb.cell (p:=⟨bW,oW,none⟩) hblW).trans HK
 have TR:=zaa (zxx o2)
 have tl:(zas ps).length<=24:=by have:=zva ps;omega
 have ml:(zap ws).length<=128:=by have:=zhr ws;omega
 have len16:(0:Int)<(ws.length:Int):=by omega
 have L1:=zaa l1;have L2:=zaa l2;have LT:=zaa (fun w1 (hb:zB w w1)=>zlq (.slice aP ps.length cP) ps w1 (Rd.below RP.o hb) (by omega) (F.o.below hb));have LM:=zaa (fun w1 (hb:zB w w1)=>zkl (.slice (some ⟨bW,oW,none⟩) ws.length cW) ws w1 (Rd.below RW.o hb) (by omega));have LK:=zaa (fun v w1 (hb:zB w w1) h=>zwg (.slice (some ⟨bW,oW,none⟩) ws.length cW) v ws (zas ps) w1 (Rd.below RW.o hb) h l1 (by omega) TR.o);have LC:=zaa (fun v w1 (hb:zB w w1) h=>zlu (.slice (some ⟨bW,oW,none⟩) ws.length cW) v ws (zas ps) w1 (Rd.below RW.o hb) h l1 (by omega) (fun k hk=>(TR.o k hk).1));have LH:=zaa (fun v w1 (hb:zB w w1) h=>zil (.slice (some ⟨bW,oW,none⟩) ws.length cW) v ws (zas ps) w1 (Rd.below RW.o hb) h l1 (by omega) TR.o);have LO:=zaa (fun v w1 h=>zre v (zas ps) w1 h (by omega));have LI:=zaa (fun v w1 h=>zlx v (zap ws) w1 h (by omega));clear l1 l2 o1 o2 c1 hcW hcellW HK TR F RP RW;generalize zai ws 0=k0 at *;generalize zas ps=ts at *;generalize zap ws=ms at *;generalize zpk ws ts=f1 at *;generalize znm (ts.map zhx)=f2 at *;generalize lcB ws ts=f3 at *;generalize dhB ws ts=f4 at *;generalize zfk ms=f5 at *
 by_cases c2:k0=2
 case neg =>
  have q:(k0 != 2)=true:=by rw[bne_iff_ne];exact c2
  have E:=zaa (show pimB ws ps=false by rw[E0.o,show(k0 == 2)=false by rw[beq_eq_false_iff_ne];exact c2];rfl);clear c2;go_enter Tryz.func24,Tryz.ntmps24;go_wp2_with fail;refine(LP.o _ BW.o).mono ?_;rintro e w1 ⟨rfl,hb1⟩;have B1:=zaa (zab BW.o hb1 BW.o.size);clear x0 x1;obtain⟨x0,x1⟩:=CA.o _ hb1;have kk:=KK.o _ B1.o;clear hb1;go_wp2;go_ret;exact⟨zag E.o.symm,B1.o⟩
 have q:(k0 != 2)=false:=by rw[c2];rfl
 have E1:=zaa (show pimB ws ps=(f1&&(f2&&(f3&&(f4&&f5)))) by rw[E0.o,c2];rfl);clear c2 E0;go_enter Tryz.func24,Tryz.ntmps24;go_wp2_with fail;refine(LP.o _ BW.o).mono ?_;rintro e w1 ⟨rfl,hb1⟩;have B1:=zaa (zab BW.o hb1 BW.o.size);have BA:=zaa hb1;clear x0 x1 LP;obtain⟨x0,x1⟩:=CA.o _ hb1;have kk:=KK.o _ B1.o;clear hb1;go_wp2_with fail;refine(LT.o _ B1.o).mono ?_;rintro e w2 ⟨v2,rfl,hr2,hb2⟩;obtain⟨-,aT,cT,hvT,-⟩:=hr2.rd;subst hvT;have hz1:w.heap.size<=w1.heap.size:=B1.o.size;have hz2:w1.heap.size<=w2.heap.size:=hb2.size;have R2:=zaa hr2.rd;have B2:=zaa (zab B1.o hb2 hz1);have BA2:=zaa (zab BA.o hb2 BA.o.size);clear hr2 x0 x1 kk B1 BA KK LT hb2;obtain⟨x0,x1⟩:=CA.o _ BA2.o;go_wp2_with fail;refine(LK.o _ _ B2.o R2.o).mono ?_;rintro e w3 ⟨rfl,hb3⟩;have hz3:w2.heap.size<=w3.heap.size:=hb3.size;have R3:=zaa (Rd.below R2.o hb3);have B3:=zaa (zab B2.o hb3 (by omega));have BA3:=zaa (zab BA2.o hb3 (by have:=BA2.o.size;omega));clear hb3 x0 x1 R2 B2 BA2
 cases f1 with
 | false =>
  go_wp2;go_ret;exact⟨zag (by rw[E1.o];rfl),B3.o⟩
 | true =>
 go_wp2_with fail;refine(LO.o _ _ R3.o).mono ?_;rintro e w4 ⟨rfl,hb4⟩;have hz4:w3.heap.size<=w4.heap.size:=hb4.size;have R4:=zaa (Rd.below R3.o hb4);have B4:=zaa (zab B3.o hb4 (by omega));have BA4:=zaa (zab BA3.o hb4 (by have:=BA3.o.size;omega));clear hb4 R3 B3 BA3
 cases f2 with
 | false =>
  go_wp2;go_ret;exact⟨zag (by rw[E1.o];rfl),B4.o⟩
 | true =>
 obtain⟨x0,x1⟩:=CA.o _ BA4.o;go_wp2_with fail;refine(LC.o _ _ B4.o R4.o).mono ?_;rintro e w5 ⟨rfl,hb5⟩;have hz5:w4.heap.size<=w5.heap.size:=hb5.size;have R5:=zaa (Rd.below R4.o hb5);have B5:=zaa (zab B4.o hb5 (by omega));have BA5:=zaa (zab BA4.o hb5 (by have:=BA4.o.size;omega));clear hb5 x0 x1 R4 B4 BA4
 cases f3 with
 | false =>
  go_wp2;go_ret;exact⟨zag (by rw[E1.o];rfl),B5.o⟩
 | true =>
 obtain⟨x0,x1⟩:=CA.o _ BA5.o;go_wp2_with fail;refine(LH.o _ _ B5.o R5.o).mono ?_;rintro e w6 ⟨rfl,hb6⟩;have hz6:w5.heap.size<=w6.heap.size:=hb6.size;have B6:=zaa (zab B5.o hb6 (by omega));have BA6:=zaa (zab BA5.o hb6 (by have:=BA5.o.size;omega));clear hb6 x0 x1 R5 B5 BA5
 cases f4 with
 | false =>
  go_wp2;go_ret;exact⟨zag (by rw[E1.o];rfl),B6.o⟩
 | true =>
 obtain⟨x0,x1⟩:=CA.o _ BA6.o;go_wp2_with fail;refine(LM.o _ B6.o).mono ?_;rintro e w7 ⟨v7,rfl,hr7,hb7⟩;obtain⟨-,aM,cM,hvM,-⟩:=hr7.rd;subst hvM;have B7:=zaa (zab B6.o hb7 (by omega));have R7:=zaa hr7.rd;clear hb7 hr7 x0 x1 B6 BA6;go_wp2_with fail;refine(LI.o _ _ R7.o).mono ?_;rintro e w' ⟨rfl,hw'⟩;subst w';go_wp2;go_ret;exact⟨zag (by rw[E1.o];rfl),B7.o⟩
end Go.Proofs.YtogcbbkhnpmgeaaGreatDoor
