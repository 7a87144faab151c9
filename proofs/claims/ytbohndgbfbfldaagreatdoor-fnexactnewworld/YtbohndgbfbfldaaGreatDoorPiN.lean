/- Directories that hang on the root: by the program. -/
import Derived.Test.YtbohndgbfbfldaaGreatDoorPiM
set_option maxRecDepth 100000
set_option maxHeartbeats 4000000
namespace Go.Proofs.YtbohndgbfbfldaaGreatDoor
open Go.RowKit
def zsx (f:Int→Int):List Value:=(List.range 16).map fun (j:Nat)=>.int .i64 (f (j:Int))
theorem zhh (f:Int→Int) (j:Nat) (h:j < 16):(zsx f)[j]?=some (.int .i64 (f (j:Int))):=by
 unfold zsx;rw[List.getElem?_map,List.getElem?_range h];rfl
theorem ztm (f:Int→Int) (n:Nat) (i:Int):zcj f (n+1) i=f (zcj f n i):=by
 rw[zef f n 1 i];rfl
theorem zif (f:Int→Int) (i:Int) (w:World) (hr:∀ n,0≤zcj f n i∧zcj f n i≤15) :
  Calls Tryz.prog 187 #[.agg (zsx f).toArray,.int .i64 i] w fun e w'=>e=.returned (.bool (zcj f 16 i == 0))∧Below w.heap.size w w':=by
 have HR:=zaa hr
 have C0:Hid (∀ j,j < 16→(w.alloc (.cells (zsx f).toArray 228)).cell? ⟨w.heap.size,j,none⟩=some (.int .i64 (f (j:Int)))):=fun j hj=>(zag (xs:=zsx f) (zae rfl) j).1.trans (zhh f j hj)
 have BW:=zaa ((Below.refl w.heap.size w).alloc (Nat.le_refl _) (.cells (zsx f).toArray 228));have G0:zcj f 0 i=i:=rfl;clear hr;go_enter Tryz.func187,Tryz.ntmps187;go_wp2;generalize w.alloc (.cells (zsx f).toArray 228)=W at *
 go_loopw [1,5] (fun v k wr=>∃ m:Nat,m≤16∧k=.int .i64 m∧v=.int .i64 (zcj f m i)∧wr=W) (fun _ k _=>16 - (intOf k).toNat)
 case atStart=>exact ⟨0,by omega,rfl,by rw[G0],rfl⟩
 case round =>
  obtain ⟨m,hm,rfl,rfl,rfl⟩:=hrel
  by_cases hlt:m < 16
  ·obtain ⟨r0,r1⟩:=HR.o m
   obtain ⟨c,hc⟩:∃ c:Nat,zcj f m i=(c:Int):=⟨(zcj f m i).toNat,by omega⟩
   have NX:=zaa (ztm f m i);rw[hc] at NX;rw[hc] at r0 r1;have g:=C0.o c (by omega)
   have m0:(0:Int)≤(m:Int):=by omega
   have m1:(m:Int) < 16:=by omega
   have c1:(c:Int) < 16:=by omega
   rw[hc];clear hc G0;generalize f (c:Int)=z at g NX;go_wp2
   go_roundw
   case rel=>exact ⟨m+1,by omega,by go_num,by rw[NX.o],trivial⟩
   case measure=>simp[intOf];omega
  ·obtain rfl:m=16:=by omega
   generalize hZ:zcj f 16 i=z;have HZ:=zaa hZ;clear hZ;go_wp2;go_ret;exact ⟨zad (by rw[HZ.o]),BW.o⟩
def upC (ts:List Den) (k:Nat):List Value:=zsx (upA ts k)
theorem zqs {ts:List Den} {k:Nat} (hk:k < ts.length) (j:Int):upA ts (k+1) j=if ts[k].child=j then ts[k].dir else upA ts k j:=by
 show (if (ts.getD k ⟨0,⟨#[]⟩,0⟩).child=j then (ts.getD k ⟨0,⟨#[]⟩,0⟩).dir else upA ts k j)=_
 rw[List.getD_eq_getElem?_getD,List.getElem?_eq_getElem hk];rfl
theorem zxi {ts:List Den} {k c:Nat} (hk:k < ts.length) (hc:c < 16) (e:ts[k].child=(c:Int)):(upC ts k).set c (.int .i64 ts[k].dir)=upC ts (k+1):=by
 apply List.ext_getElem?;intro j
 have hl:(upC ts k).length=16:=by simp[upC,zsx]
 by_cases hj:j < 16
 ·rw[zdv (by omega)];unfold upC;rw[zhh _ j hj,zhh _ j hj,zqs hk,e]
  by_cases h:j=c
  ·subst h;rw[if_pos rfl,if_pos rfl]
  ·rw[if_neg h,if_neg (by omega)]
 ·rw[List.getElem?_eq_none (by simp[upC,zsx];omega),List.getElem?_eq_none (by simp[upC,zsx];omega)]
theorem yaex {ws:List Ino} {ts:List Den} (h:∀ i (h:i < ws.length),ws[i].kind=2→zcj (upA ts ts.length) 16 (i:Int)=0):dhB ws ts=true:=decide_eq_true h
theorem yadk {ws:List Ino} {ts:List Den} {i:Nat} (hi:i < ws.length) (hk:ws[i].kind=2) (h:¬ zcj (upA ts ts.length) 16 (i:Int)=0):dhB ws ts=false:=decide_eq_false (fun x=>h (x i hi hk))
theorem zmg {ts:List Den} (hT:∀ k (h:k < ts.length),0≤ts[k].dir∧ts[k].dir≤15):∀ (k:Nat) (_:k≤ts.length) (j:Int),0≤upA ts k j∧upA ts k j≤15
 | 0,_,_=>by show (0:Int)≤0∧(0:Int)≤15;omega
 | k+1,hk,j=>by
  rw[zqs (by omega)]
  split
  ·exact hT k (by omega)
  ·exact zmg hT k (by omega) j
theorem zjx {f:Int→Int} (hf:∀ j,0≤f j∧f j≤15):∀ (n:Nat) (i:Int),0≤i∧i≤15→0≤zcj f n i∧zcj f n i≤15
 | 0,_,h=>h
 | n+1,i,_=>zjx hf n (f i) (hf i)
theorem zeu (vW v:Value) (ws:List Ino) (ts:List Den) (w:World) (hw:RdN w vW ws) (h:RdD w v ts) (hl:ws.length=16) (hn:ts.length≤4096) (hT:∀ k (h:k < ts.length),(0≤ts[k].child∧ts[k].child≤15)∧(0≤ts[k].dir∧ts[k].dir≤15)) :
  Calls Tryz.prog 148 #[vW,v] w fun e w'=>e=.returned (.bool (dhB ws ts))∧Below w.heap.size w w':=by
 obtain ⟨aW,cW,rfl,_,hcW⟩:=hw.shape;obtain ⟨aP,cP,rfl,_,hcP⟩:=h.shape;have HW:=zaa hcW;have HP:=zaa hcP;have HT:=zaa hT;have HL:=zaa hl;have UB:=zaa (zmg (fun k h=>(hT k h).2) ts.length (Nat.le_refl _))
 have S0:Hid ((w.alloc (.cells #[.int .i64 0,.int .i64 0,.int .i64 0,.int .i64 0,.int .i64 0,.int .i64 0,.int .i64 0,.int .i64 0,.int .i64 0,.int .i64 0,.int .i64 0,.int .i64 0,.int .i64 0,.int .i64 0,.int .i64 0,.int .i64 0] 228)).heap[w.heap.size]?=some (.cells (upC ts 0).toArray 228 (0,0))∧Below w.heap.size w (w.alloc (.cells #[.int .i64 0,.int .i64 0,.int .i64 0,.int .i64 0,.int .i64 0,.int .i64 0,.int .i64 0,.int .i64 0,.int .i64 0,.int .i64 0,.int .i64 0,.int .i64 0,.int .i64 0,.int .i64 0,.int .i64 0,.int .i64 0] 228))):=⟨zae rfl,(Below.refl _ _).alloc (Nat.le_refl _) _⟩
 clear h hw hcW hcP hT hl;go_enter Tryz.func148,Tryz.ntmps148;go_wp2
 go_loopw [7,12] (fun _ i wr=>∃ k:Nat,k≤ts.length∧i=.int .i64 k∧Hid (wr.heap[w.heap.size]?=some (.cells (upC ts k).toArray 228 (0,0))∧Below w.heap.size w wr)) (fun _ i _=>ts.length - (intOf i).toNat)
 case atStart=>exact ⟨0,by omega,rfl,S0⟩
 case round =>
  obtain ⟨k,hk,rfl,I⟩:=hrel;have hz:w.heap.size≤wr.heap.size:=I.o.2.size;have hzz:w.heap.size < wr.heap.size:=(Array.getElem?_eq_some_iff.1 I.o.1).1;clear S0
  by_cases hlt:k < ts.length
  ·obtain ⟨b,o,rfl,hbl,hcell⟩:=HP.o (by omega);obtain ⟨a0,a1,a2⟩:=hcell k hlt;have d0:=(I.o.2.cell (p:=⟨b,o+k*3,none⟩) hbl).trans a0;have d1:=(I.o.2.cell (p:=⟨b,o+k*3+1,none⟩) hbl).trans a1;have d2:=(I.o.2.cell (p:=⟨b,o+k*3+2,none⟩) hbl).trans a2
   have k0:(0:Int)≤(k:Int):=by omega
   have k1:(k:Int) < (ts.length:Int):=by omega
   obtain ⟨c1,c2⟩:=(HT.o k hlt).1
   obtain ⟨c,hc⟩:∃ c:Nat,ts[k].child=(c:Int):=⟨ts[k].child.toNat,by omega⟩
   have LS:=zaa (zxi hlt (c:=c) (by omega) hc);rw[hc] at d2 c1 c2;have LA:=zaa (zhh (upA ts k) c (by omega));have g1:=(zag (xs:=upC ts k) I.o.1 c).1.trans LA.o;have g2:=(zag I.o.1 c).2;clear a0 a1 a2 hcell hc;generalize ts[k].dir=xd at *;generalize ts[k].name=xs at *;generalize upA ts k (c:Int)=z at *;have BA:Hid (Below wr.heap.size wr (wr.alloc (.cells #[.int .i64 xd,.string xs,.int .i64 (c:Int)] 143))):=(Below.refl _ _).alloc (Nat.le_refl _) _;have g3:=(BA.o.cell (p:=⟨w.heap.size,c,none⟩) hzz).trans g1;have g4:(wr.alloc (.cells #[.int .i64 xd,.string xs,.int .i64 (c:Int)] 143)).frozen? ⟨w.heap.size,c,none⟩=false:=(zag (zao I.o.1) c).2
   have c16:(c:Int) < 16:=by omega
   have G:Hid (((wr.setCell ⟨w.heap.size,c,none⟩ (.int .i64 xd)).alloc (.cells #[.int .i64 xd,.string xs,.int .i64 (c:Int)] 143)).heap[w.heap.size]?=some (.cells (upC ts (k+1)).toArray 228 (0,0))∧Below w.heap.size w ((wr.setCell ⟨w.heap.size,c,none⟩ (.int .i64 xd)).alloc (.cells #[.int .i64 xd,.string xs,.int .i64 (c:Int)] 143))):=by
    refine ⟨?_,(I.o.2.setCell (Nat.le_refl _) _).alloc (by simp;omega) _⟩;rw[← LS.o];exact zao (zal I.o.1 c _)
   clear I LS LA BA;go_wp2
   go_roundw
   case rel=>exact ⟨k+1,by omega,by go_num,G⟩
   case measure=>simp[intOf];omega
  ·obtain rfl:k=ts.length:=by omega
   have START:Hid (Below wr.heap.size wr wr):=Below.refl _ _
   have HC:Hid (∀ w',Below wr.heap.size wr w'→∀ j,j < 16→w'.cell? ⟨w.heap.size,j,none⟩=some (.int .i64 (upA ts ts.length (j:Int)))):=fun w' hb j hj=>by
    have:=(hb.block _ hzz).trans I.o.1;exact (zag (xs:=upC ts ts.length) this j).1.trans (zhh _ j hj)
   have BW:=zaa I.o.2;have LR:=zaa (fun (i:Nat) (hi:i < 16) w1=>zif (upA ts ts.length) (i:Int) w1 (fun n=>zjx UB.o n _ (by omega)));have MK:=zaa (fun h=>yaex (ws:=ws) (ts:=ts) h);have NO:=zaa (fun i hi hk h=>yadk (ws:=ws) (ts:=ts) (i:=i) hi hk h);generalize hV:wr=V at *;generalize upA ts ts.length=f at *;clear hV I UB;go_wp2
   go_loopw [8,9,24] (fun _ _ i wq=>∃ m:Nat,m≤ws.length∧i=.int .i64 m∧Hid (Below V.heap.size V wq∧∀ j (h:j < ws.length),j < m→ws[j].kind=2→zcj f 16 (j:Int)=0)) (fun _ _ i _=>ws.length - (intOf i).toNat)
   case atStart=>exact ⟨0,by omega,rfl,START.o,fun j h a=>absurd a (by omega)⟩
   case round =>
    obtain ⟨m,hm,rfl,J⟩:=hrel;have J1:=zaa J.o.1;have JW:=zaa (zab BW.o J.o.1 hz);have hzq:V.heap.size≤wr.heap.size:=J.o.1.size
    by_cases hlm:m < ws.length
    ·obtain ⟨b,o,rfl,hbl,hcell⟩:=HW.o (by omega);obtain ⟨a0,a1,a2,a3,a4,a5,a6,a7,a8,a9,a10⟩:=hcell m hlm;have d0:=(JW.o.cell (p:=⟨b,o+m*11,none⟩) hbl).trans a0;have d1:=(JW.o.cell (p:=⟨b,o+m*11+1,none⟩) hbl).trans a1;have d2:=(JW.o.cell (p:=⟨b,o+m*11+2,none⟩) hbl).trans a2;have d3:=(JW.o.cell (p:=⟨b,o+m*11+3,none⟩) hbl).trans a3;have d4:=(JW.o.cell (p:=⟨b,o+m*11+4,none⟩) hbl).trans a4;have d5:=(JW.o.cell (p:=⟨b,o+m*11+5,none⟩) hbl).trans a5;have d6:=(JW.o.cell (p:=⟨b,o+m*11+6,none⟩) hbl).trans a6;have d7:=(JW.o.cell (p:=⟨b,o+m*11+7,none⟩) hbl).trans a7;have d8:=(JW.o.cell (p:=⟨b,o+m*11+8,none⟩) hbl).trans a8;have d9:=(JW.o.cell (p:=⟨b,o+m*11+9,none⟩) hbl).trans a9;have d10:=(JW.o.cell (p:=⟨b,o+m*11+10,none⟩) hbl).trans a10
     have m0:(0:Int)≤(m:Int):=by omega
     have m1:(m:Int) < (ws.length:Int):=by omega
     have m16:m < 16:=by have:=HL.o;omega
     have B2:=zaa (J1.o.alloc hzq (.cells ws[m].cs.toArray 149));have BF:=zaa (zab BW.o B2.o hz);have LM:=zaa (fun w1=>LR.o m m16 w1)
     have J2:Hid ((ws[m].kind=2→zcj f 16 (m:Int)=0)→∀ j (h:j < ws.length),j < m+1→ws[j].kind=2→zcj f 16 (j:Int)=0):=fun q j h a=>by
      by_cases e:j=m
      ·subst e;exact q
      ·exact J.o.2 j h (by omega)
     have J3:=zaa (fun hk q=>NO.o m hlm hk q);clear a0 a1 a2 a3 a4 a5 a6 a7 a8 a9 a10 hcell J;generalize ws[m]=x at d0 d1 d2 d3 d4 d5 d6 d7 d8 d9 d10 B2 BF J2 J3
     by_cases r:x.kind=2
     ·have r1:(x.kind == 2)=true:=by rw[r];rfl
      have ZC:=HC.o _ B2.o;have z0:=ZC 0 (by omega);have z1:=ZC 1 (by omega);have z2:=ZC 2 (by omega);have z3:=ZC 3 (by omega);have z4:=ZC 4 (by omega);have z5:=ZC 5 (by omega);have z6:=ZC 6 (by omega);have z7:=ZC 7 (by omega);have z8:=ZC 8 (by omega);have z9:=ZC 9 (by omega);have z10:=ZC 10 (by omega);have z11:=ZC 11 (by omega);have z12:=ZC 12 (by omega);have z13:=ZC 13 (by omega);have z14:=ZC 14 (by omega);have z15:=ZC 15 (by omega);clear ZC;unfold Ino.cs at B2 BF z0 z1 z2 z3 z4 z5 z6 z7 z8 z9 z10 z11 z12 z13 z14 z15;unfold zsx at LM
      by_cases q:zcj f 16 (m:Int)=0
      ·have q1:(zcj f 16 (m:Int) == 0)=true:=by rw[q];rfl
       have E:=zaa (J2.o (fun _=>q));rw[q1] at LM;clear q J2 J3 r q1;go_wp2_with fail;refine (LM.o _).mono ?_;rintro e w1 ⟨rfl,hb1⟩;have B3:=zaa (zab B2.o hb1 B2.o.size);clear hb1 d0 d1 d2 d3 d4 d5 d6 d7 d8 d9 d10 z0 z1 z2 z3 z4 z5 z6 z7 z8 z9 z10 z11 z12 z13 z14 z15;go_wp2
       go_roundw
       case rel=>exact ⟨m+1,by omega,by go_num,B3.o,E.o⟩
       case measure=>simp[intOf];omega
      ·have q1:(zcj f 16 (m:Int) == 0)=false:=by rw[beq_eq_false_iff_ne];exact q
       have E:=zaa (J3.o r q);rw[q1] at LM;clear q J2 J3 r q1;go_wp2_with fail;refine (LM.o _).mono ?_;rintro e w1 ⟨rfl,hb1⟩;have B3:=zaa (zab BF.o hb1 BF.o.size);clear hb1 d0 d1 d2 d3 d4 d5 d6 d7 d8 d9 d10 z0 z1 z2 z3 z4 z5 z6 z7 z8 z9 z10 z11 z12 z13 z14 z15;go_wp2;go_ret;exact ⟨zad E.o.symm,B3.o⟩
     ·have r1:(x.kind == 2)=false:=by rw[beq_eq_false_iff_ne];exact r
      have E:=zaa (J2.o (fun e=>absurd e r));unfold Ino.cs at B2 BF;clear r J2 J3;go_wp2
      go_roundw
      case rel=>exact ⟨m+1,by omega,by go_num,B2.o,E.o⟩
      case measure=>simp[intOf];omega
    ·have E:=zaa (MK.o (fun j h=>J.o.2 j h (by omega)));clear J;go_wp2;go_ret;exact ⟨zad E.o.symm,JW.o⟩
end Go.Proofs.YtbohndgbfbfldaaGreatDoor
