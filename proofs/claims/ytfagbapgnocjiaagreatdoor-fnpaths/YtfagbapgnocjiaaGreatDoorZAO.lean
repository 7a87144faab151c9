import Derived.Test.YtfagbapgnocjiaaGreatDoorImX
set_option maxRecDepth 100000
set_option maxHeartbeats 4000000
namespace Go.Proofs.YtfagbapgnocjiaaGreatDoor
open Go.RowKit
def zwb(ts:List Den)(k j:Nat):Int:=(if j=0 then 1 else 0)+(zif ts j k:Int)
def lnkC(ts:List Den)(k:Nat):List Value:=(List.range 16).map fun j=>.I (zwb ts k j)
theorem zrt(ts:List Den)(k j:Nat)(h:j<16):(lnkC ts k)[j]?=some (.I (zwb ts k j)):=by
 unfold lnkC;rw[List.getElem?_map,List.getElem?_range h];rfl
theorem yabb(ts:List Den)(k j:Nat):0<=zwb ts k j/\zwb ts k j<=1+k:=by
 have:=yaje ts j k;unfold zwb
 split<;>omega
theorem yajh{ts:List Den}{k c:Nat}(hk:k<ts.length)(hc:c<16)(e:ts[k].child=(c:Int)):(lnkC ts k).set c (.I (zwb ts k c+1))=lnkC ts (k+1):=by
 apply List.ext_getElem?;intro j
 have hl:(lnkC ts k).length=16:=by simp[lnkC]
 by_cases hj:j<16
 ·rw[yaeo (by omega),zrt ts (k+1) j hj,zrt ts k j hj]
  by_cases h:j=c
  ·subst h;rw[if_pos rfl];unfold zwb;rw[zfv hk,e];simp;omega
  ·rw[if_neg h];unfold zwb;rw[zfv hk,e]
   have:((c:Int) == (j:Int))=false:=by rw[beq_eq_false_iff_ne];omega
   rw[this];simp
 ·rw[List.getElem?_eq_none (by simp[lnkC];omega),List.getElem?_eq_none (by simp[lnkC];omega)]
theorem yaqy{ws:List Ino}{ts:List Den}(h:∀ i (h:i<ws.length),ws[i].links=zwb ts ts.length i):lcB ws ts=true:=decide_eq_true h
theorem yaom{ws:List Ino}{ts:List Den}{i:Nat}(hi:i<ws.length)(h:¬ ws[i].links=zwb ts ts.length i):lcB ws ts=false:=decide_eq_false (fun x=>h (x i hi))
theorem zle(vW v:Value)(ws:List Ino)(ts:List Den)(w:World)(hw:RdN w vW ws)(h:RdD w v ts)(hl:ws.length=16)(hn:ts.length<=4096)(hT:∀ k (h:k<ts.length),0<=ts[k].child/\ts[k].child<=15) :
  zC 38 #[vW,v] w fun e w'=>e=.returned (.bool (lcB ws ts))/\zB w w':=by
 obtain⟨aW,cW,rfl,_,hcW⟩:=hw.shape;obtain⟨aP,cP,rfl,_,hcP⟩:=h.shape;have HW:=zaa hcW;have HP:=zaa hcP;have HT:=zaa hT;have HL:=zaa hl
 have S0:Hid ((w.alloc (.cells #[.I 1,.I 0,.I 0,.I 0,.I 0,.I 0,.I 0,.I 0,.I 0,.I 0,.I 0,.I 0,.I 0,.I 0,.I 0,.I 0] 114)).heap[w.heap.size]?=some (.cells (lnkC ts 0).toArray 114 (0,0))/\zB w (w.alloc (.cells #[.I 1,.I 0,.I 0,.I 0,.I 0,.I 0,.I 0,.I 0,.I 0,.I 0,.I 0,.I 0,.I 0,.I 0,.I 0,.I 0] 114))):=⟨zai rfl,zR.alloc zL _⟩
 clear h hw hcW hcP hT hl;go_enter Tryz.func38,Tryz.ntmps38;go_wp2
 go_loopw [7,13] (fun _ i wr=>∃ k:Nat,k<=ts.length/\i=.I k/\Hid (wr.heap[w.heap.size]?=some (.cells (lnkC ts k).toArray 114 (0,0))/\zB w wr)) (fun _ i _=>ts.length-(intOf i).toNat)
 case atStart=>exact⟨0,by omega,rfl,S0⟩
 case round =>
  obtain⟨k,hk,rfl,I⟩:=hrel;have hz:w.heap.size<=wr.heap.size:=I.o.2.size;have hzz:w.heap.size<wr.heap.size:=(Array.getElem?_eq_some_iff.1 I.o.1).1;clear S0
  by_cases hlt:k<ts.length
  ·obtain⟨b,o,rfl,hbl,hcell⟩:=HP.o (by omega);obtain⟨a0,a1,a2⟩:=hcell k hlt;have d0:=(I.o.2.cell (p:=⟨b,o+k*3,none⟩) hbl).trans a0;have d1:=(I.o.2.cell (p:=⟨b,o+k*3+1,none⟩) hbl).trans a1;have d2:=(I.o.2.cell (p:=⟨b,o+k*3+2,none⟩) hbl).trans a2
   have k0:(0:Int)<=(k:Int):=by omega
   have k1:(k:Int)<(ts.length:Int):=by omega
   obtain⟨c1,c2⟩:=HT.o k hlt
   obtain⟨c,hc⟩:∃ c:Nat,ts[k].child=(c:Int):=⟨ts[k].child.toNat,by omega⟩
   have LS:=zaa (yajh hlt (c:=c) (by omega) hc);rw[hc]at d2 c1 c2;obtain⟨v0,v1⟩:=yabb ts k c;have LA:=zaa (zrt ts k c (by omega));have g1:=(zat I.o.1 c).1.trans LA.o;have g2:=(zat I.o.1 c).2;clear a0 a1 a2 hcell hc;generalize ts[k].dir=xd at *;generalize ts[k].name=xs at *;generalize zwb ts k c=z at *;have BA:Hid (zB wr (wr.alloc (.cells #[.I xd,.string xs,.I (c:Int)] 52))):=zR.alloc zL _;have g3:=(BA.o.cell (p:=⟨w.heap.size,c,none⟩) hzz).trans g1;have g4:(wr.alloc (.cells #[.I xd,.string xs,.I (c:Int)] 52)).frozen? ⟨w.heap.size,c,none⟩=false:=(zat (zak I.o.1) c).2
   have c16:(c:Int)<16:=by omega
   have G:Hid (((wr.setCell ⟨w.heap.size,c,none⟩ (.I (z+1))).alloc (.cells #[.I xd,.string xs,.I (c:Int)] 52)).heap[w.heap.size]?=some (.cells (lnkC ts (k+1)).toArray 114 (0,0))/\zB w ((wr.setCell ⟨w.heap.size,c,none⟩ (.I (z+1))).alloc (.cells #[.I xd,.string xs,.I (c:Int)] 52))):=by
    refine⟨?_,(I.o.2.setCell zL _).alloc (by simp;omega) _⟩;rw[<- LS.o];exact zak (zbs I.o.1 c _)
   clear I LS LA BA;go_wp2
   go_roundw
   case rel=>exact⟨k+1,by omega,by go_num,G⟩
   case measure=>simp[intOf];omega
  ·obtain rfl:k=ts.length:=by omega
   have START:Hid (zB wr wr):=zR
   have HC:Hid (∀ w',zB wr w'->∀ j,j<16->w'.cell? ⟨w.heap.size,j,none⟩=some (.I (zwb ts ts.length j))):=fun w' hb j hj=>by
    have:=(hb.block _ hzz).trans I.o.1;exact(zat this j).1.trans (zrt ts ts.length j hj)
   have BW:=zaa I.o.2;generalize hV:wr=V at *;clear hV I;go_wp2
   go_loopw [8,9,26] (fun _ _ i wq=>∃ m:Nat,m<=ws.length/\i=.I m/\Hid (zB V wq/\∀ j (h:j<ws.length),j<m->ws[j].links=zwb ts ts.length j)) (fun _ _ i _=>ws.length-(intOf i).toNat)
   case atStart=>exact⟨0,by omega,rfl,START.o,fun j h a=>absurd a (by omega)⟩
   case round =>
    obtain⟨m,hm,rfl,J⟩:=hrel;have J1:=zaa J.o.1;have JW:=zaa (zab BW.o J.o.1 hz);have hzq:V.heap.size<=wr.heap.size:=J.o.1.size
    by_cases hlm:m<ws.length
    ·obtain⟨b,o,rfl,hbl,hcell⟩:=HW.o (by omega);obtain⟨a0,a1,a2,a3,a4,a5,a6,a7,a8,a9,a10⟩:=hcell m hlm;have d0:=(JW.o.cell (p:=⟨b,o+m*11,none⟩) hbl).trans a0;have d1:=(JW.o.cell (p:=⟨b,o+m*11+1,none⟩) hbl).trans a1;have d2:=(JW.o.cell (p:=⟨b,o+m*11+2,none⟩) hbl).trans a2;have d3:=(JW.o.cell (p:=⟨b,o+m*11+3,none⟩) hbl).trans a3;have d4:=(JW.o.cell (p:=⟨b,o+m*11+4,none⟩) hbl).trans a4;have d5:=(JW.o.cell (p:=⟨b,o+m*11+5,none⟩) hbl).trans a5;have d6:=(JW.o.cell (p:=⟨b,o+m*11+6,none⟩) hbl).trans a6;have d7:=(JW.o.cell (p:=⟨b,o+m*11+7,none⟩) hbl).trans a7;have d8:=(JW.o.cell (p:=⟨b,o+m*11+8,none⟩) hbl).trans a8;have d9:=(JW.o.cell (p:=⟨b,o+m*11+9,none⟩) hbl).trans a9;have d10:=(JW.o.cell (p:=⟨b,o+m*11+10,none⟩) hbl).trans a10
     have m0:(0:Int)<=(m:Int):=by omega
     have m1:(m:Int)<(ws.length:Int):=by omega
     have m16:(m:Int)<16:=by have:=HL.o;omega
     have B2:=zaa (J1.o.alloc hzq (.cells ws[m].cs.toArray 41));have l1:=HC.o _ B2.o m (by omega)
     have J2:Hid (ws[m].links=zwb ts ts.length m->∀ j (h:j<ws.length),j<m+1->ws[j].links=zwb ts ts.length j):=fun q j h a=>by
      by_cases e:j=m
      ·subst e;exact q
      ·exact J.o.2 j h (by omega)
     have J3:=zaa (fun q=>yaom (ts:=ts) hlm q);clear a0 a1 a2 a3 a4 a5 a6 a7 a8 a9 a10 hcell J;generalize zwb ts ts.length m=z at l1 J2 J3;generalize ws[m]=x at d0 d1 d2 d3 d4 d5 d6 d7 d8 d9 d10 B2 l1 J2 J3;have BF:=zaa (zab BW.o B2.o hz);unfold Ino.cs at B2 BF l1
     by_cases q:x.links=z
     ·have q1:(x.links != z)=false:=by rw[q];simp
      have E:=zaa (J2.o q);clear q J2 J3;go_wp2
      go_quiet (fail)
      go_wp2
      go_roundw
      case rel=>exact⟨m+1,by omega,by go_num,zgk B2.o _,E.o⟩
      case measure=>simp[intOf];omega
     ·have q1:(x.links != z)=true:=by rw[bne_iff_ne];exact q
      have E:=zaa (J3.o q);clear q J2 J3;go_wp2
      go_quiet (fail)
      go_wp2;go_ret;exact⟨zah E.o.symm,zgk BF.o _⟩
    ·have E:=zaa (yaqy (ts:=ts) (fun j h=>J.o.2 j h (by omega)));clear J;go_wp2;go_ret;exact⟨zah E.o.symm,JW.o⟩
def sixC(f:Int->Int):List Value:=(List.range 16).map fun(j:Nat)=>.I (f (j:Int))
theorem znl(f:Int->Int)(j:Nat)(h:j<16):(sixC f)[j]?=some (.I (f (j:Int))):=by
 unfold sixC;rw[List.getElem?_map,List.getElem?_range h];rfl
theorem yahi(f:Int->Int)(n:Nat)(i:Int):zcy f (n+1) i=f (zcy f n i):=by
 rw[zeq f n 1 i];rfl
theorem znu(f:Int->Int)(i:Int)(w:World)(hr:∀ n,0<=zcy f n i/\zcy f n i<=15) :
  zC 74 #[.agg (sixC f).toArray,.I i] w fun e w'=>e=.returned (.bool (zcy f 16 i == 0))/\zB w w':=by
 have HR:=zaa hr
 have C0:Hid (∀ j,j<16->(w.alloc (.cells (sixC f).toArray 114)).cell? ⟨w.heap.size,j,none⟩=some (.I (f (j:Int)))):=fun j hj=>(zat (xs:=sixC f) (zai rfl) j).1.trans (znl f j hj)
 have BW:=zaa ((Below.refl w.heap.size w).alloc zL (.cells (sixC f).toArray 114));have G0:zcy f 0 i=i:=rfl;clear hr;go_enter Tryz.func74,Tryz.ntmps74;go_wp2;generalize w.alloc (.cells (sixC f).toArray 114)=W at *
 go_loopw [1,5] (fun v k wr=>∃ m:Nat,m<=16/\k=.I m/\v=.I (zcy f m i)/\wr=W) (fun _ k _=>16-(intOf k).toNat)
 case atStart=>exact⟨0,by omega,rfl,by rw[G0],rfl⟩
 case round =>
  obtain⟨m,hm,rfl,rfl,rfl⟩:=hrel
  by_cases hlt:m<16
  ·obtain⟨r0,r1⟩:=HR.o m
   obtain⟨c,hc⟩:∃ c:Nat,zcy f m i=(c:Int):=⟨(zcy f m i).toNat,by omega⟩
   have NX:=zaa (yahi f m i);rw[hc]at NX;rw[hc]at r0 r1;have g:=C0.o c (by omega)
   have m0:(0:Int)<=(m:Int):=by omega
   have m1:(m:Int)<16:=by omega
   have c1:(c:Int)<16:=by omega
   rw[hc];clear hc G0;generalize f (c:Int)=z at g NX;go_wp2
   go_roundw
   case rel=>exact⟨m+1,by omega,by go_num,by rw[NX.o],trivial⟩
   case measure=>simp[intOf];omega
  ·obtain rfl:m=16:=by omega
   generalize hZ:zcy f 16 i=z;have HZ:=zaa hZ;clear hZ;go_wp2;go_ret;exact⟨zah (by rw[HZ.o]),BW.o⟩
def upC(ts:List Den)(k:Nat):List Value:=sixC (upA ts k)
theorem zzq{ts:List Den}{k:Nat}(hk:k<ts.length)(j:Int):upA ts (k+1) j=if ts[k].child=j then ts[k].dir else upA ts k j:=by
 show(if (ts.getD k ⟨0,⟨#[]⟩,0⟩).child=j then(ts.getD k ⟨0,⟨#[]⟩,0⟩).dir else upA ts k j)=_
 rw[List.getD_eq_getElem?_getD,List.getElem?_eq_getElem hk];rfl
theorem yaku{ts:List Den}{k c:Nat}(hk:k<ts.length)(hc:c<16)(e:ts[k].child=(c:Int)):(upC ts k).set c (.I ts[k].dir)=upC ts (k+1):=by
 apply List.ext_getElem?;intro j
 have hl:(upC ts k).length=16:=by simp[upC,sixC]
 by_cases hj:j<16
 ·rw[yaeo (by omega)];unfold upC;rw[znl _ j hj,znl _ j hj,zzq hk,e]
  by_cases h:j=c
  ·subst h;rw[if_pos rfl,if_pos rfl]
  ·rw[if_neg h,if_neg (by omega)]
 ·rw[List.getElem?_eq_none (by simp[upC,sixC];omega),List.getElem?_eq_none (by simp[upC,sixC];omega)]
theorem yarp{ws:List Ino}{ts:List Den}(h:∀ i (h:i<ws.length),ws[i].kind=2->zcy (upA ts ts.length) 16 (i:Int)=0):dhB ws ts=true:=decide_eq_true h
theorem yaoz{ws:List Ino}{ts:List Den}{i:Nat}(hi:i<ws.length)(hk:ws[i].kind=2)(h:¬ zcy (upA ts ts.length) 16 (i:Int)=0):dhB ws ts=false:=decide_eq_false (fun x=>h (x i hi hk))
theorem zvm{ts:List Den}(hT:∀ k (h:k<ts.length),0<=ts[k].dir/\ts[k].dir<=15):∀ (k:Nat) (_:k<=ts.length) (j:Int),0<=upA ts k j/\upA ts k j<=15
 | 0,_,_=>by show(0:Int)<=0/\(0:Int)<=15;omega
 | k+1,hk,j=>by
  rw[zzq (by omega)]
  split
  ·exact hT k (by omega)
  ·exact zvm hT k (by omega) j
theorem zpy{f:Int->Int}(hf:∀ j,0<=f j/\f j<=15):∀ (n:Nat) (i:Int),0<=i/\i<=15->0<=zcy f n i/\zcy f n i<=15
 | 0,_,h=>h
 | n+1,i,_=>zpy hf n (f i) (hf i)
theorem zih(vW v:Value)(ws:List Ino)(ts:List Den)(w:World)(hw:RdN w vW ws)(h:RdD w v ts)(hl:ws.length=16)(hn:ts.length<=4096)(hT:∀ k (h:k<ts.length),(0<=ts[k].child/\ts[k].child<=15)/\(0<=ts[k].dir/\ts[k].dir<=15)) :
  zC 39 #[vW,v] w fun e w'=>e=.returned (.bool (dhB ws ts))/\zB w w':=by
 obtain⟨aW,cW,rfl,_,hcW⟩:=hw.shape;obtain⟨aP,cP,rfl,_,hcP⟩:=h.shape;have HW:=zaa hcW;have HP:=zaa hcP;have HT:=zaa hT;have HL:=zaa hl;have UB:=zaa (zvm (fun k h=>(hT k h).2) ts.length zL)
 have S0:Hid ((w.alloc (.cells #[.I 0,.I 0,.I 0,.I 0,.I 0,.I 0,.I 0,.I 0,.I 0,.I 0,.I 0,.I 0,.I 0,.I 0,.I 0,.I 0] 114)).heap[w.heap.size]?=some (.cells (upC ts 0).toArray 114 (0,0))/\zB w (w.alloc (.cells #[.I 0,.I 0,.I 0,.I 0,.I 0,.I 0,.I 0,.I 0,.I 0,.I 0,.I 0,.I 0,.I 0,.I 0,.I 0,.I 0] 114))):=⟨zai rfl,zR.alloc zL _⟩
 clear h hw hcW hcP hT hl;go_enter Tryz.func39,Tryz.ntmps39;go_wp2
 go_loopw [7,12] (fun _ i wr=>∃ k:Nat,k<=ts.length/\i=.I k/\Hid (wr.heap[w.heap.size]?=some (.cells (upC ts k).toArray 114 (0,0))/\zB w wr)) (fun _ i _=>ts.length-(intOf i).toNat)
 case atStart=>exact⟨0,by omega,rfl,S0⟩
 case round =>
  obtain⟨k,hk,rfl,I⟩:=hrel;have hz:w.heap.size<=wr.heap.size:=I.o.2.size;have hzz:w.heap.size<wr.heap.size:=(Array.getElem?_eq_some_iff.1 I.o.1).1;clear S0
  by_cases hlt:k<ts.length
  ·obtain⟨b,o,rfl,hbl,hcell⟩:=HP.o (by omega);obtain⟨a0,a1,a2⟩:=hcell k hlt;have d0:=(I.o.2.cell (p:=⟨b,o+k*3,none⟩) hbl).trans a0;have d1:=(I.o.2.cell (p:=⟨b,o+k*3+1,none⟩) hbl).trans a1;have d2:=(I.o.2.cell (p:=⟨b,o+k*3+2,none⟩) hbl).trans a2
   have k0:(0:Int)<=(k:Int):=by omega
   have k1:(k:Int)<(ts.length:Int):=by omega
   obtain⟨c1,c2⟩:=(HT.o k hlt).1
   obtain⟨c,hc⟩:∃ c:Nat,ts[k].child=(c:Int):=⟨ts[k].child.toNat,by omega⟩
   have LS:=zaa (yaku hlt (c:=c) (by omega) hc);rw[hc]at d2 c1 c2;have LA:=zaa (znl (upA ts k) c (by omega));have g1:=(zat (xs:=upC ts k) I.o.1 c).1.trans LA.o;have g2:=(zat I.o.1 c).2;clear a0 a1 a2 hcell hc;generalize ts[k].dir=xd at *;generalize ts[k].name=xs at *;generalize upA ts k (c:Int)=z at *;have BA:Hid (zB wr (wr.alloc (.cells #[.I xd,.string xs,.I (c:Int)] 52))):=zR.alloc zL _;have g3:=(BA.o.cell (p:=⟨w.heap.size,c,none⟩) hzz).trans g1;have g4:(wr.alloc (.cells #[.I xd,.string xs,.I (c:Int)] 52)).frozen? ⟨w.heap.size,c,none⟩=false:=(zat (zak I.o.1) c).2
   have c16:(c:Int)<16:=by omega
   have G:Hid (((wr.setCell ⟨w.heap.size,c,none⟩ (.I xd)).alloc (.cells #[.I xd,.string xs,.I (c:Int)] 52)).heap[w.heap.size]?=some (.cells (upC ts (k+1)).toArray 114 (0,0))/\zB w ((wr.setCell ⟨w.heap.size,c,none⟩ (.I xd)).alloc (.cells #[.I xd,.string xs,.I (c:Int)] 52))):=by
    refine⟨?_,(I.o.2.setCell zL _).alloc (by simp;omega) _⟩;rw[<- LS.o];exact zak (zbs I.o.1 c _)
   clear I LS LA BA;go_wp2
   go_roundw
   case rel=>exact⟨k+1,by omega,by go_num,G⟩
   case measure=>simp[intOf];omega
  ·obtain rfl:k=ts.length:=by omega
   have START:Hid (zB wr wr):=zR
   have HC:Hid (∀ w',zB wr w'->∀ j,j<16->w'.cell? ⟨w.heap.size,j,none⟩=some (.I (upA ts ts.length (j:Int)))):=fun w' hb j hj=>by
    have:=(hb.block _ hzz).trans I.o.1;exact(zat (xs:=upC ts ts.length) this j).1.trans (znl _ j hj)
   have BW:=zaa I.o.2;have LR:=zaa (fun(i:Nat) (hi:i<16) w1=>znu (upA ts ts.length) (i:Int) w1 (fun n=>zpy UB.o n _ (by omega)));have MK:=zaa (fun h=>yarp (ws:=ws) (ts:=ts) h);have NO:=zaa (fun i hi hk h=>yaoz (ws:=ws) (ts:=ts) (i:=i) hi hk h);generalize hV:wr=V at *;generalize upA ts ts.length=f at *;clear hV I UB;go_wp2
   go_loopw [8,9,24] (fun _ _ i wq=>∃ m:Nat,m<=ws.length/\i=.I m/\Hid (zB V wq/\∀ j (h:j<ws.length),j<m->ws[j].kind=2->zcy f 16 (j:Int)=0)) (fun _ _ i _=>ws.length-(intOf i).toNat)
   case atStart=>exact⟨0,by omega,rfl,START.o,fun j h a=>absurd a (by omega)⟩
   case round =>
    obtain⟨m,hm,rfl,J⟩:=hrel;have J1:=zaa J.o.1;have JW:=zaa (zab BW.o J.o.1 hz);have hzq:V.heap.size<=wr.heap.size:=J.o.1.size
    by_cases hlm:m<ws.length
    ·obtain⟨b,o,rfl,hbl,hcell⟩:=HW.o (by omega);obtain⟨a0,a1,a2,a3,a4,a5,a6,a7,a8,a9,a10⟩:=hcell m hlm;have d0:=(JW.o.cell (p:=⟨b,o+m*11,none⟩) hbl).trans a0;have d1:=(JW.o.cell (p:=⟨b,o+m*11+1,none⟩) hbl).trans a1;have d2:=(JW.o.cell (p:=⟨b,o+m*11+2,none⟩) hbl).trans a2;have d3:=(JW.o.cell (p:=⟨b,o+m*11+3,none⟩) hbl).trans a3;have d4:=(JW.o.cell (p:=⟨b,o+m*11+4,none⟩) hbl).trans a4;have d5:=(JW.o.cell (p:=⟨b,o+m*11+5,none⟩) hbl).trans a5;have d6:=(JW.o.cell (p:=⟨b,o+m*11+6,none⟩) hbl).trans a6;have d7:=(JW.o.cell (p:=⟨b,o+m*11+7,none⟩) hbl).trans a7;have d8:=(JW.o.cell (p:=⟨b,o+m*11+8,none⟩) hbl).trans a8;have d9:=(JW.o.cell (p:=⟨b,o+m*11+9,none⟩) hbl).trans a9;have d10:=(JW.o.cell (p:=⟨b,o+m*11+10,none⟩) hbl).trans a10
     have m0:(0:Int)<=(m:Int):=by omega
     have m1:(m:Int)<(ws.length:Int):=by omega
     have m16:m<16:=by have:=HL.o;omega
     have B2:=zaa (J1.o.alloc hzq (.cells ws[m].cs.toArray 41));have BF:=zaa (zab BW.o B2.o hz);have LM:=zaa (fun w1=>LR.o m m16 w1)
     have J2:Hid ((ws[m].kind=2->zcy f 16 (m:Int)=0)->∀ j (h:j<ws.length),j<m+1->ws[j].kind=2->zcy f 16 (j:Int)=0):=fun q j h a=>by
      by_cases e:j=m
      ·subst e;exact q
      ·exact J.o.2 j h (by omega)
     have J3:=zaa (fun hk q=>NO.o m hlm hk q);clear a0 a1 a2 a3 a4 a5 a6 a7 a8 a9 a10 hcell J;generalize ws[m]=x at d0 d1 d2 d3 d4 d5 d6 d7 d8 d9 d10 B2 BF J2 J3
     by_cases r:x.kind=2
     ·have r1:(x.kind == 2)=true:=by rw[r];rfl
      have ZC:=HC.o _ B2.o;have z0:=ZC 0 (by omega);have z1:=ZC 1 (by omega);have z2:=ZC 2 (by omega);have z3:=ZC 3 (by omega);have z4:=ZC 4 (by omega);have z5:=ZC 5 (by omega);have z6:=ZC 6 (by omega);have z7:=ZC 7 (by omega);have z8:=ZC 8 (by omega);have z9:=ZC 9 (by omega);have z10:=ZC 10 (by omega);have z11:=ZC 11 (by omega);have z12:=ZC 12 (by omega);have z13:=ZC 13 (by omega);have z14:=ZC 14 (by omega);have z15:=ZC 15 (by omega);clear ZC;unfold Ino.cs at B2 BF z0 z1 z2 z3 z4 z5 z6 z7 z8 z9 z10 z11 z12 z13 z14 z15;unfold sixC at LM
      by_cases q:zcy f 16 (m:Int)=0
      ·have q1:(zcy f 16 (m:Int) == 0)=true:=by rw[q];rfl
       have E:=zaa (J2.o (fun _=>q));rw[q1]at LM;clear q J2 J3 r q1;go_wp2_with fail;refine(LM.o _).mono ?_;rintro e w1 ⟨rfl,hb1⟩;have B3:=zaa (zab B2.o hb1 B2.o.size);clear hb1 d0 d1 d2 d3 d4 d5 d6 d7 d8 d9 d10 z0 z1 z2 z3 z4 z5 z6 z7 z8 z9 z10 z11 z12 z13 z14 z15;go_wp2
       go_roundw
       case rel=>exact⟨m+1,by omega,by go_num,B3.o,E.o⟩
       case measure=>simp[intOf];omega
      ·have q1:(zcy f 16 (m:Int) == 0)=false:=by rw[beq_eq_false_iff_ne];exact q
       have E:=zaa (J3.o r q);rw[q1]at LM;clear q J2 J3 r q1;go_wp2_with fail;refine(LM.o _).mono ?_;rintro e w1 ⟨rfl,hb1⟩;have B3:=zaa (zab BF.o hb1 BF.o.size);clear hb1 d0 d1 d2 d3 d4 d5 d6 d7 d8 d9 d10 z0 z1 z2 z3 z4 z5 z6 z7 z8 z9 z10 z11 z12 z13 z14 z15;go_wp2;go_ret;exact⟨zah E.o.symm,B3.o⟩
     ·have r1:(x.kind == 2)=false:=by rw[beq_eq_false_iff_ne];exact r
      have E:=zaa (J2.o (fun e=>absurd e r));unfold Ino.cs at B2 BF;clear r J2 J3;go_wp2
      go_roundw
      case rel=>exact⟨m+1,by omega,by go_num,B2.o,E.o⟩
      case measure=>simp[intOf];omega
    ·have E:=zaa (MK.o (fun j h=>J.o.2 j h (by omega)));clear J;go_wp2;go_ret;exact⟨zah E.o.symm,JW.o⟩
end Go.Proofs.YtfagbapgnocjiaaGreatDoor
