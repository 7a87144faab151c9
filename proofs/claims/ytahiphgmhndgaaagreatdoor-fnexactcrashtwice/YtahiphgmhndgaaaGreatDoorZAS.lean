/- Several texts laid together: PiL, PiM, PiN. -/
import Derived.Test.YtahiphgmhndgaaaGreatDoorZAQ
import Derived.Test.YtahiphgmhndgaaaGreatDoorZAK
import Derived.Laws.Cover3
set_option maxRecDepth 100000
set_option maxHeartbeats 4000000
namespace Go.Proofs.YtahiphgmhndgaaaGreatDoor
open Go.RowKit
@[go_sem] theorem yaun (a:Option Addr) (l c:Nat) (w:World):(binOp .eql 100 (.slice a l c) (.slice none 0 0)).run Tryz.prog w=.ok (.bool a.isNone) w:=by
 simp only[binOp];simp[run_equal_slice_nil w 100 189 a l c Tryz.underlying100]
theorem zxq (v:Value) (ps:List Den) (w:World) (h:RdD w v ps) (hn:ps.length≤4096) :
  Calls Tryz.prog 204 #[v] w fun e w'=>∃ v',e=.returned v'∧Row w' 189 3 w.heap.size w'.heap.size v' ps.length (zhh ps)∧Below w.heap.size w w':=by
 have HR:=zaa h;obtain ⟨ao,cap,rfl,_,hc⟩:=h.shape;clear h
 cases ao with
 | none =>
  have hl:ps.length=0:=by
   rcases Nat.eq_zero_or_pos ps.length with e | e
   ·exact e
   ·obtain ⟨b,o,e1,_⟩:=hc e
    cases e1
  have hps:ps=[]:=List.eq_nil_of_length_eq_zero hl;subst hps;clear hc hl;go_enter Tryz.func204,Tryz.ntmps204;go_wp2;go_ret;exact ⟨_,rfl,Row.nil _ _ _ _ _,Below.refl _ _⟩
 | some a =>
  have BB:=zaa ((Below.refl w.heap.size w).alloc (Nat.le_refl _) (.cells #[] 189));have OB:=zaa (World.ownsRow_lit (e:=189) (size:=3) w #[] 0 (Nat.le_refl _) (by simp[maxLen]) (by simp));have RB:Hid (Rd (w.alloc (.cells #[] 189)) 3 (.slice (some a) ps.length cap) ps.length (zhh ps)):=Rd.below HR.o BB.o;have hz:w.heap.size≤(w.alloc (.cells #[] 189)).heap.size:=BB.o.size;clear hc;go_enter Tryz.func204,Tryz.ntmps204;go_wp2_with (at_builtin;refine zak _ rfl (.tmp 5) (.tmp 6) 100 rfl w.heap.size 189 (.agg #[.int .i64 0,.string ⟨#[]⟩,.int .i64 0]) 3 32 Tryz.underlying100 zoo rfl (by decide) _ 0 [] rfl OB.o _ ps.length (zhh ps) rfl RB.o (zho _) (by simp[maxLen];omega) (by omega) hz ?_);intro vN wN hownN hgrN;have ON:=zaa hownN;have BN:=zaa (BB.o.grown hgrN hz (fun q hq=>(OB.o.lt q hq).1));clear hownN hgrN;obtain ⟨-,aL,cL,hvL,-⟩:=(zai ON.o).rd;subst hvL;go_wp2;go_ret;exact ⟨_,rfl,zai ON.o,BN.o⟩
def zgj (ds:List Den) (k:Nat):List Den:=(ds.take k).map ziw ++ ds.drop k
theorem zsa (ds:List Den) (k:Nat):(zgj ds k).length=ds.length:=by
 unfold zgj;rw[List.length_append,List.length_map,List.length_take,List.length_drop];omega
theorem yabd (ds:List Den):zgj ds 0=ds:=by simp[zgj]
theorem yafx (ds:List Den):zgj ds ds.length=ds.map ziw:=by simp[zgj]
theorem yabb {ds:List Den} {k:Nat} (h:k < ds.length):(zhh (zgj ds k)).set (k*3+2) (.int .i64 (-1))=zhh (zgj ds (k+1)):=by
 have e1:ds.drop k=ds[k] :: ds.drop (k+1):=List.drop_eq_getElem_cons h
 have l1:(zhh ((ds.take k).map ziw)).length=k*3:=by rw[yacp,List.length_map,List.length_take];congr 1;omega
 unfold zgj;rw[e1,List.take_succ_eq_append_getElem h,List.map_append,zkd,zkd,zkd,List.set_append_right _ _ (by omega),l1,List.append_assoc]
 congr 1
 rw[show k*3+2 - k*3=2 by omega];rfl
theorem yaix (ps:List Den) (k:Nat) (h:k < ps.length):(zhh ps)[k*3+2]?=some (.int .i64 ps[k].child):=zbl _ 3 Den.cells_len ps k 2 h (by omega)
theorem zug (v:Value) (ds:List Den) (w:World) (h:RdD w v ds) (hn:ds.length≤4096) :
  Calls Tryz.prog 188 #[v] w fun e w'=>e=.returned (.bool (zov (ds.map ziw)))∧Below w.heap.size w w':=by
 have HR:=zaa h;obtain ⟨ao,cap,rfl,_,_⟩:=h.shape;clear h;go_enter Tryz.func188,Tryz.ntmps188;go_wp2_with fail;refine (zxq _ ds _ HR.o hn).mono ?_;rintro e w1 ⟨vN,rfl,hr1,hb1⟩;obtain ⟨-,aN,cN,hvN,-⟩:=hr1.rd;subst hvN;have R1:=zaa hr1;have B1:=zaa hb1;have hz1:w.heap.size≤w1.heap.size:=hb1.size;clear hr1 hb1;go_wp2
 go_loopw [4,9] (fun _ i wr=>∃ k:Nat,k≤ds.length∧i=.int .i64 k∧Hid (Row wr 189 3 w.heap.size w1.heap.size (.slice aN ds.length cN) ds.length (zhh (zgj ds k))∧Below w.heap.size w wr)) (fun _ i _=>ds.length - (intOf i).toNat)
 case atStart=>exact ⟨0,by omega,rfl,by rw[yabd];exact R1.o,B1.o⟩
 case round =>
  obtain ⟨k,hk,rfl,H⟩:=hrel
  by_cases hlt:k < ds.length
  ·rcases Row.shape H.o.1 with ⟨_,e,_⟩ | ⟨b,cap',e,_,_⟩
   ·exact absurd e (by omega)
   obtain ⟨rfl,rfl⟩:aN=some ⟨b,0,none⟩∧cN=cap':=by cases e;exact ⟨rfl,rfl⟩
   obtain ⟨_,l1,l2,l3,fr,ce⟩:=Row.at H.o.1;have f0:=fr (k*3+2);have c0:=(ce (k*3+2) (by omega)).trans (yaix (zgj ds k) k (by rw[zsa];exact hlt))
   have k0:(0:Int)≤(k:Int):=by omega
   have k1:(k:Int) < (ds.length:Int):=by omega
   have G:Hid (Row (wr.setCell ⟨b,k*3+2,none⟩ (.int .i64 (-1))) 189 3 w.heap.size w1.heap.size (.slice (some ⟨b,0,none⟩) ds.length cN) ds.length (zhh (zgj ds (k+1)))∧Below w.heap.size w (wr.setCell ⟨b,k*3+2,none⟩ (.int .i64 (-1)))):=by
    refine ⟨?_,H.o.2.setCell l1 _⟩;rw[← yabb hlt];exact Row.stored H.o.1 _ _
   clear H fr ce R1 e;generalize ((zgj ds k)[k]'(by rw[zsa];exact hlt)).child=z at c0;go_wp2
   go_roundw
   case rel=>exact ⟨k+1,by omega,by go_num,G⟩
   case measure=>simp[intOf];omega
  ·obtain rfl:k=ds.length:=by omega
   have LA:=zaa (yafx ds);rw[LA.o] at H
   have R2:Hid (RdD wr (.slice aN ds.length cN) (ds.map ziw)):=by
    unfold Hid RdD;rw[List.length_map];exact H.o.1.rd
   have B2:=zaa H.o.2
   have hl:(ds.map ziw).length≤1048576:=by rw[List.length_map];omega
   have HL:=zaa hl;clear H hl;go_wp2_with fail;refine (zni _ (ds.map ziw) _ R2.o HL.o).mono ?_;rintro e w2 ⟨rfl,hb2⟩;have B3:=zaa (zab B2.o hb2 B2.o.size);clear hb2;go_wp2;go_ret;exact ⟨rfl,B3.o⟩
theorem yaog {ws:List Ino} {ts:List Den} (h:∀ k (h:k < ts.length),fitB ws ts[k]=true):zqw ws ts=true:=decide_eq_true h
theorem yahq {ws:List Ino} {ts:List Den} {k:Nat} (hk:k < ts.length) (h:fitB ws ts[k]=false):zqw ws ts=false:=decide_eq_false (fun x=>by have:=x k hk;rw[h] at this;cases this)
theorem zyn (vW v:Value) (ws:List Ino) (ts:List Den) (w:World) (hw:RdN w vW ws) (h:RdD w v ts) (hl:ws.length=16) (hn:ts.length≤4096) (hT:∀ k (h:k < ts.length),(0≤ts[k].child∧ts[k].child≤15)∧(0≤ts[k].dir∧ts[k].dir≤15)) :
  Calls Tryz.prog 187 #[vW,v] w fun e w'=>e=.returned (.bool (zqw ws ts))∧Below w.heap.size w w':=by
 obtain ⟨aW,cW,rfl,_,hcW⟩:=hw.shape;obtain ⟨aP,cP,rfl,_,hcP⟩:=h.shape;have HW:=zaa hcW;have HP:=zaa hcP;have HT:=zaa hT;have HL:=zaa hl
 have hl':(16:Int)≤(ws.length:Int):=by omega
 clear h hw hcW hcP hT hl;go_enter Tryz.func187,Tryz.ntmps187;go_wp2
 go_loopw [6,9] (fun _ i wr=>∃ k:Nat,k≤ts.length∧i=.int .i64 k∧Hid (Below w.heap.size w wr∧∀ j (h:j < ts.length),j < k→fitB ws ts[j]=true)) (fun _ i _=>ts.length - (intOf i).toNat)
 case atStart=>exact ⟨0,by omega,rfl,Below.refl _ _,fun j h a=>absurd a (by omega)⟩
 case round =>
  obtain ⟨k,hk,rfl,H⟩:=hrel;have H1:=zaa H.o.1;have hz:w.heap.size≤wr.heap.size:=H.o.1.size
  by_cases hlt:k < ts.length
  ·obtain ⟨b,o,rfl,hbl,hcell⟩:=HP.o (by omega);obtain ⟨bW,oW,rfl,hblW,hcellW⟩:=HW.o (by have:=HL.o;omega);obtain ⟨a0,a1,a2⟩:=hcell k hlt;have d0:=(H1.o.cell (p:=⟨b,o+k*3,none⟩) hbl).trans a0;have d1:=(H1.o.cell (p:=⟨b,o+k*3+1,none⟩) hbl).trans a1;have d2:=(H1.o.cell (p:=⟨b,o+k*3+2,none⟩) hbl).trans a2
   have k0:(0:Int)≤(k:Int):=by omega
   have k1:(k:Int) < (ts.length:Int):=by omega
   obtain ⟨⟨c1,c2⟩,c3,c4⟩:=HT.o k hlt
   have H2:Hid (fitB ws ts[k]=true→∀ j (h:j < ts.length),j < k+1→fitB ws ts[j]=true):=fun q j h a=>by
    by_cases e:j=k
    ·subst e;exact q
    ·exact H.o.2 j h (by omega)
   have H3:=zaa (fun q=>yahq (ws:=ws) hlt q);clear a0 a1 a2 hcell H;generalize ts[k]=x at *;obtain ⟨xd,xs,xc⟩:=x;simp only at d0 d1 d2 c1 c2 c3 c4
   obtain ⟨d,rfl⟩:∃ d:Nat,xd=(d:Int):=⟨xd.toNat,by omega⟩
   obtain ⟨c,rfl⟩:∃ c:Nat,xc=(c:Int):=⟨xc.toNat,by omega⟩
   have hd:d < ws.length:=by omega
   have hc:c < ws.length:=by omega
   have B2:=zaa (H1.o.alloc hz (.cells #[.int .i64 (d:Int),.string xs,.int .i64 (c:Int)] 189));have g0:=(B2.o.cell (p:=⟨bW,oW+d*11,none⟩) hblW).trans (hcellW d hd).1;have g1:=(B2.o.cell (p:=⟨bW,oW+c*11,none⟩) hblW).trans (hcellW c hc).1;have FB:=zaa (show fitB ws ⟨(d:Int),xs,(c:Int)⟩=(ws[d].kind == 2 && !(ws[c].kind == 0)) by unfold fitB;rw[zes hd,zes hc])
   have d5:(d:Int) < (ws.length:Int):=by omega
   have c5:(c:Int) < (ws.length:Int):=by omega
   clear hcellW;generalize ws[d].kind=kd at g0 FB;generalize ws[c].kind=kc at g1 FB
   by_cases q:kd=2
   ·have q1:(kd != 2)=false:=by rw[q];rfl
    by_cases r:kc=0
    ·have r1:(kc == 0)=true:=by rw[r];rfl
     have E:=zaa (H3.o (by rw[FB.o,r1];simp));clear q r H2 H3 FB;go_wp2;go_ret;exact ⟨zae E.o.symm,B2.o⟩
    ·have r1:(kc == 0)=false:=by rw[beq_eq_false_iff_ne];exact r
     have E:=zaa (H2.o (by rw[FB.o,r1,q];rfl));clear q r H2 H3 FB;go_wp2
     go_roundw
     case rel=>exact ⟨k+1,by omega,by go_num,B2.o,E.o⟩
     case measure=>simp[intOf];omega
   ·have q1:(kd != 2)=true:=by rw[bne_iff_ne];exact q
    have E:=zaa (H3.o (by rw[FB.o,show (kd == 2)=false by rw[beq_eq_false_iff_ne];exact q];rfl));clear q H2 H3 FB;go_wp2;go_ret;exact ⟨zae E.o.symm,B2.o⟩
  ·have E:=zaa (yaog (ws:=ws) (fun j h=>H.o.2 j h (by omega)));clear H;go_wp2;go_ret;exact ⟨zae E.o.symm,H1.o⟩
def zzo (ts:List Den) (k j:Nat):Int:=(if j=0 then 1 else 0)+(zob ts j k:Int)
def lnkC (ts:List Den) (k:Nat):List Value:=(List.range 16).map fun j=>.int .i64 (zzo ts k j)
theorem zvi (ts:List Den) (k j:Nat) (h:j < 16):(lnkC ts k)[j]?=some (.int .i64 (zzo ts k j)):=by
 unfold lnkC;rw[List.getElem?_map,List.getElem?_range h];rfl
theorem yagn (ts:List Den) (k j:Nat):0≤zzo ts k j∧zzo ts k j≤1+k:=by
 have:=yakg ts j k;unfold zzo
 split <;> omega
theorem yaki {ts:List Den} {k c:Nat} (hk:k < ts.length) (hc:c < 16) (e:ts[k].child=(c:Int)):(lnkC ts k).set c (.int .i64 (zzo ts k c+1))=lnkC ts (k+1):=by
 apply List.ext_getElem?;intro j
 have hl:(lnkC ts k).length=16:=by simp[lnkC]
 by_cases hj:j < 16
 ·rw[zmp (by omega),zvi ts (k+1) j hj,zvi ts k j hj]
  by_cases h:j=c
  ·subst h;rw[if_pos rfl];unfold zzo;rw[zku hk,e];simp;omega
  ·rw[if_neg h];unfold zzo;rw[zku hk,e]
   have:((c:Int) == (j:Int))=false:=by rw[beq_eq_false_iff_ne];omega
   rw[this];simp
 ·rw[List.getElem?_eq_none (by simp[lnkC];omega),List.getElem?_eq_none (by simp[lnkC];omega)]
theorem yaug {ws:List Ino} {ts:List Den} (h:∀ i (h:i < ws.length),ws[i].links=zzo ts ts.length i):lcB ws ts=true:=decide_eq_true h
theorem yart {ws:List Ino} {ts:List Den} {i:Nat} (hi:i < ws.length) (h:¬ ws[i].links=zzo ts ts.length i):lcB ws ts=false:=decide_eq_false (fun x=>h (x i hi))
theorem znl (vW v:Value) (ws:List Ino) (ts:List Den) (w:World) (hw:RdN w vW ws) (h:RdD w v ts) (hl:ws.length=16) (hn:ts.length≤4096) (hT:∀ k (h:k < ts.length),0≤ts[k].child∧ts[k].child≤15) :
  Calls Tryz.prog 189 #[vW,v] w fun e w'=>e=.returned (.bool (lcB ws ts))∧Below w.heap.size w w':=by
 obtain ⟨aW,cW,rfl,_,hcW⟩:=hw.shape;obtain ⟨aP,cP,rfl,_,hcP⟩:=h.shape;have HW:=zaa hcW;have HP:=zaa hcP;have HT:=zaa hT;have HL:=zaa hl
 have S0:Hid ((w.alloc (.cells #[.int .i64 1,.int .i64 0,.int .i64 0,.int .i64 0,.int .i64 0,.int .i64 0,.int .i64 0,.int .i64 0,.int .i64 0,.int .i64 0,.int .i64 0,.int .i64 0,.int .i64 0,.int .i64 0,.int .i64 0,.int .i64 0] 234)).heap[w.heap.size]?=some (.cells (lnkC ts 0).toArray 234 (0,0))∧Below w.heap.size w (w.alloc (.cells #[.int .i64 1,.int .i64 0,.int .i64 0,.int .i64 0,.int .i64 0,.int .i64 0,.int .i64 0,.int .i64 0,.int .i64 0,.int .i64 0,.int .i64 0,.int .i64 0,.int .i64 0,.int .i64 0,.int .i64 0,.int .i64 0] 234))):=⟨zag rfl,(Below.refl _ _).alloc (Nat.le_refl _) _⟩
 clear h hw hcW hcP hT hl;go_enter Tryz.func189,Tryz.ntmps189;go_wp2
 go_loopw [7,13] (fun _ i wr=>∃ k:Nat,k≤ts.length∧i=.int .i64 k∧Hid (wr.heap[w.heap.size]?=some (.cells (lnkC ts k).toArray 234 (0,0))∧Below w.heap.size w wr)) (fun _ i _=>ts.length - (intOf i).toNat)
 case atStart=>exact ⟨0,by omega,rfl,S0⟩
 case round =>
  obtain ⟨k,hk,rfl,I⟩:=hrel;have hz:w.heap.size≤wr.heap.size:=I.o.2.size;have hzz:w.heap.size < wr.heap.size:=(Array.getElem?_eq_some_iff.1 I.o.1).1;clear S0
  by_cases hlt:k < ts.length
  ·obtain ⟨b,o,rfl,hbl,hcell⟩:=HP.o (by omega);obtain ⟨a0,a1,a2⟩:=hcell k hlt;have d0:=(I.o.2.cell (p:=⟨b,o+k*3,none⟩) hbl).trans a0;have d1:=(I.o.2.cell (p:=⟨b,o+k*3+1,none⟩) hbl).trans a1;have d2:=(I.o.2.cell (p:=⟨b,o+k*3+2,none⟩) hbl).trans a2
   have k0:(0:Int)≤(k:Int):=by omega
   have k1:(k:Int) < (ts.length:Int):=by omega
   obtain ⟨c1,c2⟩:=HT.o k hlt
   obtain ⟨c,hc⟩:∃ c:Nat,ts[k].child=(c:Int):=⟨ts[k].child.toNat,by omega⟩
   have LS:=zaa (yaki hlt (c:=c) (by omega) hc);rw[hc] at d2 c1 c2;obtain ⟨v0,v1⟩:=yagn ts k c;have LA:=zaa (zvi ts k c (by omega));have g1:=(zbe I.o.1 c).1.trans LA.o;have g2:=(zbe I.o.1 c).2;clear a0 a1 a2 hcell hc;generalize ts[k].dir=xd at *;generalize ts[k].name=xs at *;generalize zzo ts k c=z at *;have BA:Hid (Below wr.heap.size wr (wr.alloc (.cells #[.int .i64 xd,.string xs,.int .i64 (c:Int)] 189))):=(Below.refl _ _).alloc (Nat.le_refl _) _;have g3:=(BA.o.cell (p:=⟨w.heap.size,c,none⟩) hzz).trans g1;have g4:(wr.alloc (.cells #[.int .i64 xd,.string xs,.int .i64 (c:Int)] 189)).frozen? ⟨w.heap.size,c,none⟩=false:=(zbe (zal I.o.1) c).2
   have c16:(c:Int) < 16:=by omega
   have G:Hid (((wr.setCell ⟨w.heap.size,c,none⟩ (.int .i64 (z+1))).alloc (.cells #[.int .i64 xd,.string xs,.int .i64 (c:Int)] 189)).heap[w.heap.size]?=some (.cells (lnkC ts (k+1)).toArray 234 (0,0))∧Below w.heap.size w ((wr.setCell ⟨w.heap.size,c,none⟩ (.int .i64 (z+1))).alloc (.cells #[.int .i64 xd,.string xs,.int .i64 (c:Int)] 189))):=by
    refine ⟨?_,(I.o.2.setCell (Nat.le_refl _) _).alloc (by simp;omega) _⟩;rw[← LS.o];exact zal (zci I.o.1 c _)
   clear I LS LA BA;go_wp2
   go_roundw
   case rel=>exact ⟨k+1,by omega,by go_num,G⟩
   case measure=>simp[intOf];omega
  ·obtain rfl:k=ts.length:=by omega
   have START:Hid (Below wr.heap.size wr wr):=Below.refl _ _
   have HC:Hid (∀ w',Below wr.heap.size wr w'→∀ j,j < 16→w'.cell? ⟨w.heap.size,j,none⟩=some (.int .i64 (zzo ts ts.length j))):=fun w' hb j hj=>by
    have:=(hb.block _ hzz).trans I.o.1;exact (zbe this j).1.trans (zvi ts ts.length j hj)
   have BW:=zaa I.o.2;generalize hV:wr=V at *;clear hV I;go_wp2
   go_loopw [8,9,26] (fun _ _ i wq=>∃ m:Nat,m≤ws.length∧i=.int .i64 m∧Hid (Below V.heap.size V wq∧∀ j (h:j < ws.length),j < m→ws[j].links=zzo ts ts.length j)) (fun _ _ i _=>ws.length - (intOf i).toNat)
   case atStart=>exact ⟨0,by omega,rfl,START.o,fun j h a=>absurd a (by omega)⟩
   case round =>
    obtain ⟨m,hm,rfl,J⟩:=hrel;have J1:=zaa J.o.1;have JW:=zaa (zab BW.o J.o.1 hz);have hzq:V.heap.size≤wr.heap.size:=J.o.1.size
    by_cases hlm:m < ws.length
    ·obtain ⟨b,o,rfl,hbl,hcell⟩:=HW.o (by omega);obtain ⟨a0,a1,a2,a3,a4,a5,a6,a7,a8,a9,a10⟩:=hcell m hlm;have d0:=(JW.o.cell (p:=⟨b,o+m*11,none⟩) hbl).trans a0;have d1:=(JW.o.cell (p:=⟨b,o+m*11+1,none⟩) hbl).trans a1;have d2:=(JW.o.cell (p:=⟨b,o+m*11+2,none⟩) hbl).trans a2;have d3:=(JW.o.cell (p:=⟨b,o+m*11+3,none⟩) hbl).trans a3;have d4:=(JW.o.cell (p:=⟨b,o+m*11+4,none⟩) hbl).trans a4;have d5:=(JW.o.cell (p:=⟨b,o+m*11+5,none⟩) hbl).trans a5;have d6:=(JW.o.cell (p:=⟨b,o+m*11+6,none⟩) hbl).trans a6;have d7:=(JW.o.cell (p:=⟨b,o+m*11+7,none⟩) hbl).trans a7;have d8:=(JW.o.cell (p:=⟨b,o+m*11+8,none⟩) hbl).trans a8;have d9:=(JW.o.cell (p:=⟨b,o+m*11+9,none⟩) hbl).trans a9;have d10:=(JW.o.cell (p:=⟨b,o+m*11+10,none⟩) hbl).trans a10
     have m0:(0:Int)≤(m:Int):=by omega
     have m1:(m:Int) < (ws.length:Int):=by omega
     have m16:(m:Int) < 16:=by have:=HL.o;omega
     have B2:=zaa (J1.o.alloc hzq (.cells ws[m].cs.toArray 187));have l1:=HC.o _ B2.o m (by omega)
     have J2:Hid (ws[m].links=zzo ts ts.length m→∀ j (h:j < ws.length),j < m+1→ws[j].links=zzo ts ts.length j):=fun q j h a=>by
      by_cases e:j=m
      ·subst e;exact q
      ·exact J.o.2 j h (by omega)
     have J3:=zaa (fun q=>yart (ts:=ts) hlm q);clear a0 a1 a2 a3 a4 a5 a6 a7 a8 a9 a10 hcell J;generalize zzo ts ts.length m=z at l1 J2 J3;generalize ws[m]=x at d0 d1 d2 d3 d4 d5 d6 d7 d8 d9 d10 B2 l1 J2 J3;have BF:=zaa (zab BW.o B2.o hz);unfold Ino.cs at B2 BF l1
     by_cases q:x.links=z
     ·have q1:(x.links != z)=false:=by rw[q];simp
      have E:=zaa (J2.o q);clear q J2 J3;go_wp2
      go_quiet (fail)
      go_wp2
      go_roundw
      case rel=>exact ⟨m+1,by omega,by go_num,below_drewN B2.o _,E.o⟩
      case measure=>simp[intOf];omega
     ·have q1:(x.links != z)=true:=by rw[bne_iff_ne];exact q
      have E:=zaa (J3.o q);clear q J2 J3;go_wp2
      go_quiet (fail)
      go_wp2;go_ret;exact ⟨zae E.o.symm,below_drewN BF.o _⟩
    ·have E:=zaa (yaug (ts:=ts) (fun j h=>J.o.2 j h (by omega)));clear J;go_wp2;go_ret;exact ⟨zae E.o.symm,JW.o⟩
def sixC (f:Int→Int):List Value:=(List.range 16).map fun (j:Nat)=>.int .i64 (f (j:Int))
theorem zpb (f:Int→Int) (j:Nat) (h:j < 16):(sixC f)[j]?=some (.int .i64 (f (j:Int))):=by
 unfold sixC;rw[List.getElem?_map,List.getElem?_range h];rfl
theorem yahz (f:Int→Int) (n:Nat) (i:Int):zfd f (n+1) i=f (zfd f n i):=by
 rw[zin f n 1 i];rfl
theorem zpp (f:Int→Int) (i:Int) (w:World) (hr:∀ n,0≤zfd f n i∧zfd f n i≤15) :
  Calls Tryz.prog 206 #[.agg (sixC f).toArray,.int .i64 i] w fun e w'=>e=.returned (.bool (zfd f 16 i == 0))∧Below w.heap.size w w':=by
 have HR:=zaa hr
 have C0:Hid (∀ j,j < 16→(w.alloc (.cells (sixC f).toArray 234)).cell? ⟨w.heap.size,j,none⟩=some (.int .i64 (f (j:Int)))):=fun j hj=>(zbe (xs:=sixC f) (zag rfl) j).1.trans (zpb f j hj)
 have BW:=zaa ((Below.refl w.heap.size w).alloc (Nat.le_refl _) (.cells (sixC f).toArray 234));have G0:zfd f 0 i=i:=rfl;clear hr;go_enter Tryz.func206,Tryz.ntmps206;go_wp2;generalize w.alloc (.cells (sixC f).toArray 234)=W at *
 go_loopw [1,5] (fun v k wr=>∃ m:Nat,m≤16∧k=.int .i64 m∧v=.int .i64 (zfd f m i)∧wr=W) (fun _ k _=>16 - (intOf k).toNat)
 case atStart=>exact ⟨0,by omega,rfl,by rw[G0],rfl⟩
 case round =>
  obtain ⟨m,hm,rfl,rfl,rfl⟩:=hrel
  by_cases hlt:m < 16
  ·obtain ⟨r0,r1⟩:=HR.o m
   obtain ⟨c,hc⟩:∃ c:Nat,zfd f m i=(c:Int):=⟨(zfd f m i).toNat,by omega⟩
   have NX:=zaa (yahz f m i);rw[hc] at NX;rw[hc] at r0 r1;have g:=C0.o c (by omega)
   have m0:(0:Int)≤(m:Int):=by omega
   have m1:(m:Int) < 16:=by omega
   have c1:(c:Int) < 16:=by omega
   rw[hc];clear hc G0;generalize f (c:Int)=z at g NX;go_wp2
   go_roundw
   case rel=>exact ⟨m+1,by omega,by go_num,by rw[NX.o],trivial⟩
   case measure=>simp[intOf];omega
  ·obtain rfl:m=16:=by omega
   generalize hZ:zfd f 16 i=z;have HZ:=zaa hZ;clear hZ;go_wp2;go_ret;exact ⟨zae (by rw[HZ.o]),BW.o⟩
def upC (ts:List Den) (k:Nat):List Value:=sixC (upA ts k)
theorem yadi {ts:List Den} {k:Nat} (hk:k < ts.length) (j:Int):upA ts (k+1) j=if ts[k].child=j then ts[k].dir else upA ts k j:=by
 show (if (ts.getD k ⟨0,⟨#[]⟩,0⟩).child=j then (ts.getD k ⟨0,⟨#[]⟩,0⟩).dir else upA ts k j)=_
 rw[List.getD_eq_getElem?_getD,List.getElem?_eq_getElem hk];rfl
theorem yapc {ts:List Den} {k c:Nat} (hk:k < ts.length) (hc:c < 16) (e:ts[k].child=(c:Int)):(upC ts k).set c (.int .i64 ts[k].dir)=upC ts (k+1):=by
 apply List.ext_getElem?;intro j
 have hl:(upC ts k).length=16:=by simp[upC,sixC]
 by_cases hj:j < 16
 ·rw[zmp (by omega)];unfold upC;rw[zpb _ j hj,zpb _ j hj,yadi hk,e]
  by_cases h:j=c
  ·subst h;rw[if_pos rfl,if_pos rfl]
  ·rw[if_neg h,if_neg (by omega)]
 ·rw[List.getElem?_eq_none (by simp[upC,sixC];omega),List.getElem?_eq_none (by simp[upC,sixC];omega)]
theorem yavs {ws:List Ino} {ts:List Den} (h:∀ i (h:i < ws.length),ws[i].kind=2→zfd (upA ts ts.length) 16 (i:Int)=0):dhB ws ts=true:=decide_eq_true h
theorem yatl {ws:List Ino} {ts:List Den} {i:Nat} (hi:i < ws.length) (hk:ws[i].kind=2) (h:¬ zfd (upA ts ts.length) 16 (i:Int)=0):dhB ws ts=false:=decide_eq_false (fun x=>h (x i hi hk))
theorem zww {ts:List Den} (hT:∀ k (h:k < ts.length),0≤ts[k].dir∧ts[k].dir≤15):∀ (k:Nat) (_:k≤ts.length) (j:Int),0≤upA ts k j∧upA ts k j≤15
 | 0,_,_=>by show (0:Int)≤0∧(0:Int)≤15;omega
 | k+1,hk,j=>by
  rw[yadi (by omega)]
  split
  ·exact hT k (by omega)
  ·exact zww hT k (by omega) j
theorem zte {f:Int→Int} (hf:∀ j,0≤f j∧f j≤15):∀ (n:Nat) (i:Int),0≤i∧i≤15→0≤zfd f n i∧zfd f n i≤15
 | 0,_,h=>h
 | n+1,i,_=>zte hf n (f i) (hf i)
theorem zjn (vW v:Value) (ws:List Ino) (ts:List Den) (w:World) (hw:RdN w vW ws) (h:RdD w v ts) (hl:ws.length=16) (hn:ts.length≤4096) (hT:∀ k (h:k < ts.length),(0≤ts[k].child∧ts[k].child≤15)∧(0≤ts[k].dir∧ts[k].dir≤15)) :
  Calls Tryz.prog 190 #[vW,v] w fun e w'=>e=.returned (.bool (dhB ws ts))∧Below w.heap.size w w':=by
 obtain ⟨aW,cW,rfl,_,hcW⟩:=hw.shape;obtain ⟨aP,cP,rfl,_,hcP⟩:=h.shape;have HW:=zaa hcW;have HP:=zaa hcP;have HT:=zaa hT;have HL:=zaa hl;have UB:=zaa (zww (fun k h=>(hT k h).2) ts.length (Nat.le_refl _))
 have S0:Hid ((w.alloc (.cells #[.int .i64 0,.int .i64 0,.int .i64 0,.int .i64 0,.int .i64 0,.int .i64 0,.int .i64 0,.int .i64 0,.int .i64 0,.int .i64 0,.int .i64 0,.int .i64 0,.int .i64 0,.int .i64 0,.int .i64 0,.int .i64 0] 234)).heap[w.heap.size]?=some (.cells (upC ts 0).toArray 234 (0,0))∧Below w.heap.size w (w.alloc (.cells #[.int .i64 0,.int .i64 0,.int .i64 0,.int .i64 0,.int .i64 0,.int .i64 0,.int .i64 0,.int .i64 0,.int .i64 0,.int .i64 0,.int .i64 0,.int .i64 0,.int .i64 0,.int .i64 0,.int .i64 0,.int .i64 0] 234))):=⟨zag rfl,(Below.refl _ _).alloc (Nat.le_refl _) _⟩
 clear h hw hcW hcP hT hl;go_enter Tryz.func190,Tryz.ntmps190;go_wp2
 go_loopw [7,12] (fun _ i wr=>∃ k:Nat,k≤ts.length∧i=.int .i64 k∧Hid (wr.heap[w.heap.size]?=some (.cells (upC ts k).toArray 234 (0,0))∧Below w.heap.size w wr)) (fun _ i _=>ts.length - (intOf i).toNat)
 case atStart=>exact ⟨0,by omega,rfl,S0⟩
 case round =>
  obtain ⟨k,hk,rfl,I⟩:=hrel;have hz:w.heap.size≤wr.heap.size:=I.o.2.size;have hzz:w.heap.size < wr.heap.size:=(Array.getElem?_eq_some_iff.1 I.o.1).1;clear S0
  by_cases hlt:k < ts.length
  ·obtain ⟨b,o,rfl,hbl,hcell⟩:=HP.o (by omega);obtain ⟨a0,a1,a2⟩:=hcell k hlt;have d0:=(I.o.2.cell (p:=⟨b,o+k*3,none⟩) hbl).trans a0;have d1:=(I.o.2.cell (p:=⟨b,o+k*3+1,none⟩) hbl).trans a1;have d2:=(I.o.2.cell (p:=⟨b,o+k*3+2,none⟩) hbl).trans a2
   have k0:(0:Int)≤(k:Int):=by omega
   have k1:(k:Int) < (ts.length:Int):=by omega
   obtain ⟨c1,c2⟩:=(HT.o k hlt).1
   obtain ⟨c,hc⟩:∃ c:Nat,ts[k].child=(c:Int):=⟨ts[k].child.toNat,by omega⟩
   have LS:=zaa (yapc hlt (c:=c) (by omega) hc);rw[hc] at d2 c1 c2;have LA:=zaa (zpb (upA ts k) c (by omega));have g1:=(zbe (xs:=upC ts k) I.o.1 c).1.trans LA.o;have g2:=(zbe I.o.1 c).2;clear a0 a1 a2 hcell hc;generalize ts[k].dir=xd at *;generalize ts[k].name=xs at *;generalize upA ts k (c:Int)=z at *;have BA:Hid (Below wr.heap.size wr (wr.alloc (.cells #[.int .i64 xd,.string xs,.int .i64 (c:Int)] 189))):=(Below.refl _ _).alloc (Nat.le_refl _) _;have g3:=(BA.o.cell (p:=⟨w.heap.size,c,none⟩) hzz).trans g1;have g4:(wr.alloc (.cells #[.int .i64 xd,.string xs,.int .i64 (c:Int)] 189)).frozen? ⟨w.heap.size,c,none⟩=false:=(zbe (zal I.o.1) c).2
   have c16:(c:Int) < 16:=by omega
   have G:Hid (((wr.setCell ⟨w.heap.size,c,none⟩ (.int .i64 xd)).alloc (.cells #[.int .i64 xd,.string xs,.int .i64 (c:Int)] 189)).heap[w.heap.size]?=some (.cells (upC ts (k+1)).toArray 234 (0,0))∧Below w.heap.size w ((wr.setCell ⟨w.heap.size,c,none⟩ (.int .i64 xd)).alloc (.cells #[.int .i64 xd,.string xs,.int .i64 (c:Int)] 189))):=by
    refine ⟨?_,(I.o.2.setCell (Nat.le_refl _) _).alloc (by simp;omega) _⟩;rw[← LS.o];exact zal (zci I.o.1 c _)
   clear I LS LA BA;go_wp2
   go_roundw
   case rel=>exact ⟨k+1,by omega,by go_num,G⟩
   case measure=>simp[intOf];omega
  ·obtain rfl:k=ts.length:=by omega
   have START:Hid (Below wr.heap.size wr wr):=Below.refl _ _
   have HC:Hid (∀ w',Below wr.heap.size wr w'→∀ j,j < 16→w'.cell? ⟨w.heap.size,j,none⟩=some (.int .i64 (upA ts ts.length (j:Int)))):=fun w' hb j hj=>by
    have:=(hb.block _ hzz).trans I.o.1;exact (zbe (xs:=upC ts ts.length) this j).1.trans (zpb _ j hj)
   have BW:=zaa I.o.2;have LR:=zaa (fun (i:Nat) (hi:i < 16) w1=>zpp (upA ts ts.length) (i:Int) w1 (fun n=>zte UB.o n _ (by omega)));have MK:=zaa (fun h=>yavs (ws:=ws) (ts:=ts) h);have NO:=zaa (fun i hi hk h=>yatl (ws:=ws) (ts:=ts) (i:=i) hi hk h);generalize hV:wr=V at *;generalize upA ts ts.length=f at *;clear hV I UB;go_wp2
   go_loopw [8,9,24] (fun _ _ i wq=>∃ m:Nat,m≤ws.length∧i=.int .i64 m∧Hid (Below V.heap.size V wq∧∀ j (h:j < ws.length),j < m→ws[j].kind=2→zfd f 16 (j:Int)=0)) (fun _ _ i _=>ws.length - (intOf i).toNat)
   case atStart=>exact ⟨0,by omega,rfl,START.o,fun j h a=>absurd a (by omega)⟩
   case round =>
    obtain ⟨m,hm,rfl,J⟩:=hrel;have J1:=zaa J.o.1;have JW:=zaa (zab BW.o J.o.1 hz);have hzq:V.heap.size≤wr.heap.size:=J.o.1.size
    by_cases hlm:m < ws.length
    ·obtain ⟨b,o,rfl,hbl,hcell⟩:=HW.o (by omega);obtain ⟨a0,a1,a2,a3,a4,a5,a6,a7,a8,a9,a10⟩:=hcell m hlm;have d0:=(JW.o.cell (p:=⟨b,o+m*11,none⟩) hbl).trans a0;have d1:=(JW.o.cell (p:=⟨b,o+m*11+1,none⟩) hbl).trans a1;have d2:=(JW.o.cell (p:=⟨b,o+m*11+2,none⟩) hbl).trans a2;have d3:=(JW.o.cell (p:=⟨b,o+m*11+3,none⟩) hbl).trans a3;have d4:=(JW.o.cell (p:=⟨b,o+m*11+4,none⟩) hbl).trans a4;have d5:=(JW.o.cell (p:=⟨b,o+m*11+5,none⟩) hbl).trans a5;have d6:=(JW.o.cell (p:=⟨b,o+m*11+6,none⟩) hbl).trans a6;have d7:=(JW.o.cell (p:=⟨b,o+m*11+7,none⟩) hbl).trans a7;have d8:=(JW.o.cell (p:=⟨b,o+m*11+8,none⟩) hbl).trans a8;have d9:=(JW.o.cell (p:=⟨b,o+m*11+9,none⟩) hbl).trans a9;have d10:=(JW.o.cell (p:=⟨b,o+m*11+10,none⟩) hbl).trans a10
     have m0:(0:Int)≤(m:Int):=by omega
     have m1:(m:Int) < (ws.length:Int):=by omega
     have m16:m < 16:=by have:=HL.o;omega
     have B2:=zaa (J1.o.alloc hzq (.cells ws[m].cs.toArray 187));have BF:=zaa (zab BW.o B2.o hz);have LM:=zaa (fun w1=>LR.o m m16 w1)
     have J2:Hid ((ws[m].kind=2→zfd f 16 (m:Int)=0)→∀ j (h:j < ws.length),j < m+1→ws[j].kind=2→zfd f 16 (j:Int)=0):=fun q j h a=>by
      by_cases e:j=m
      ·subst e;exact q
      ·exact J.o.2 j h (by omega)
     have J3:=zaa (fun hk q=>NO.o m hlm hk q);clear a0 a1 a2 a3 a4 a5 a6 a7 a8 a9 a10 hcell J;generalize ws[m]=x at d0 d1 d2 d3 d4 d5 d6 d7 d8 d9 d10 B2 BF J2 J3
     by_cases r:x.kind=2
     ·have r1:(x.kind == 2)=true:=by rw[r];rfl
      have ZC:=HC.o _ B2.o;have z0:=ZC 0 (by omega);have z1:=ZC 1 (by omega);have z2:=ZC 2 (by omega);have z3:=ZC 3 (by omega);have z4:=ZC 4 (by omega);have z5:=ZC 5 (by omega);have z6:=ZC 6 (by omega);have z7:=ZC 7 (by omega);have z8:=ZC 8 (by omega);have z9:=ZC 9 (by omega);have z10:=ZC 10 (by omega);have z11:=ZC 11 (by omega);have z12:=ZC 12 (by omega);have z13:=ZC 13 (by omega);have z14:=ZC 14 (by omega);have z15:=ZC 15 (by omega);clear ZC;unfold Ino.cs at B2 BF z0 z1 z2 z3 z4 z5 z6 z7 z8 z9 z10 z11 z12 z13 z14 z15;unfold sixC at LM
      by_cases q:zfd f 16 (m:Int)=0
      ·have q1:(zfd f 16 (m:Int) == 0)=true:=by rw[q];rfl
       have E:=zaa (J2.o (fun _=>q));rw[q1] at LM;clear q J2 J3 r q1;go_wp2_with fail;refine (LM.o _).mono ?_;rintro e w1 ⟨rfl,hb1⟩;have B3:=zaa (zab B2.o hb1 B2.o.size);clear hb1 d0 d1 d2 d3 d4 d5 d6 d7 d8 d9 d10 z0 z1 z2 z3 z4 z5 z6 z7 z8 z9 z10 z11 z12 z13 z14 z15;go_wp2
       go_roundw
       case rel=>exact ⟨m+1,by omega,by go_num,B3.o,E.o⟩
       case measure=>simp[intOf];omega
      ·have q1:(zfd f 16 (m:Int) == 0)=false:=by rw[beq_eq_false_iff_ne];exact q
       have E:=zaa (J3.o r q);rw[q1] at LM;clear q J2 J3 r q1;go_wp2_with fail;refine (LM.o _).mono ?_;rintro e w1 ⟨rfl,hb1⟩;have B3:=zaa (zab BF.o hb1 BF.o.size);clear hb1 d0 d1 d2 d3 d4 d5 d6 d7 d8 d9 d10 z0 z1 z2 z3 z4 z5 z6 z7 z8 z9 z10 z11 z12 z13 z14 z15;go_wp2;go_ret;exact ⟨zae E.o.symm,B3.o⟩
     ·have r1:(x.kind == 2)=false:=by rw[beq_eq_false_iff_ne];exact r
      have E:=zaa (J2.o (fun e=>absurd e r));unfold Ino.cs at B2 BF;clear r J2 J3;go_wp2
      go_roundw
      case rel=>exact ⟨m+1,by omega,by go_num,B2.o,E.o⟩
      case measure=>simp[intOf];omega
    ·have E:=zaa (MK.o (fun j h=>J.o.2 j h (by omega)));clear J;go_wp2;go_ret;exact ⟨zae E.o.symm,JW.o⟩
end Go.Proofs.YtahiphgmhndgaaaGreatDoor
