import Derived.Test.YtfagbapgnocjiaaGreatDoorZBG
import Derived.Sort.Grow
import Derived.Sort.Statements
set_option maxRecDepth 100000
set_option maxHeartbeats 4000000
namespace Go.Proofs.YtfagbapgnocjiaaGreatDoor
open Go.RowKit
structure WayP(ws:List Ino)(ps:List Den)(s:ByteArray)(xs:List ByteArray)(x:ByteArray)(z c:Int):Prop where
 sp:spR s=xs++[x]
 lk:lkR ws ps s=(c,0)
 pa:paR ws ps s=(z,x,0)
 rng:1<=c/\c<=15
 ec:eoC ws ps z=0
 el:x∈eoL ws ps z
 ben:zag ws c=2->(beC ws ps c z=0/\beV ws ps c z=true)/\(beC ws ps z c=0/\beV ws ps z c=false)
theorem yali{ws:List Ino}{ps:List Den}(h:zbo ws ps=true){s:ByteArray}(hs:s∈poL ws ps)(c0:spC s=0):∃ xs x z c,WayP ws ps s xs x z c:=by
 unfold poL at hs;rw[if_pos h]at hs
 have sz:¬ 65536<s.size:=fun q=>by unfold spC at c0;rw[if_pos q]at c0;cases c0
 have sb:spB s=true:=by
  unfold spC at c0;rw[if_neg sz]at c0
  split at c0
  ·assumption
  ·cases c0
 obtain⟨xs,x,z,j,m,e,sl,lk,pa,rg,bn⟩:=yadi h hs sb;have zr:=e.zr;have zk:=e.kind;refine⟨xs,x,z,zap ps j,?_,?_,?_,rg,?_,?_,fun kc=>?_⟩
 ·unfold spR;rw[if_neg sz];exact sl
 ·unfold lkR;rw[if_neg sz,if_pos h];exact lk
 ·unfold paR;rw[if_neg sz,if_pos h];exact pa
 ·unfold eoC;rw[if_pos h,if_pos zr,if_pos zk]
 ·unfold eoL;rw[if_pos (by unfold eoC;rw[if_pos h,if_pos zr,if_pos zk])];exact e.mem
 ·obtain⟨b1,b2⟩:=bn kc
  have a1:beC ws ps (zap ps j) z=0:=by unfold beC;rw[if_pos h,if_pos ⟨by omega,zr⟩,if_pos ⟨kc,zk⟩]
  have a2:beC ws ps z (zap ps j)=0:=by unfold beC;rw[if_pos h,if_pos ⟨zr,by omega⟩,if_pos ⟨zk,kc⟩]
  exact⟨⟨a1,by unfold beV;rw[if_pos a1];exact b1⟩,a2,by unfold beV;rw[if_pos a2];exact b2⟩
theorem ztz{ps:List Den}{k:Nat}(h:k<ps.length):zap ps k=(zav ps k).child:=zxw h
theorem zsa{ws:List Ino}{ps:List Den}(h:Img ws ps)(f:¬ feI ps<0):∃ k:Nat,feI ps=(k:Int)/\k<24/\zav ps k=freeD:=by
 have hit:=znp (p:=fun i=>decide (zap ps i<0)) (n:=ps.length) f;have b:=(zds (fun i=>decide (zap ps i<0)) ps.length).2;have e:feI ps=zbu (fun i=>decide (zap ps i<0)) ps.length:=rfl;rw[<- e]at hit b;refine⟨(feI ps).toNat,by omega,by have:=h.l24;omega,?_⟩
 have hk:(feI ps).toNat<ps.length:=by omega
 have c:zap ps (feI ps).toNat<0:=of_decide_eq_true hit;rw[ztz hk]at c
 rcases h.ent (feI ps).toNat (by have:=h.l24;omega)with q | q
 ·exact q
 ·have:=q.1;omega
theorem zwn{ws:List Ino}{ps:List Den}(h:Img ws ps)(f:¬ fiI ws<0):∃ i:Nat,fiI ws=(i:Int)/\i<16/\(zal ws i).kind=0:=by
 have hit:=znp (p:=fun i=>decide (1<=i)&&zag ws (i:Int) == 0) (n:=ws.length) f;have b:=(zds (fun i=>decide (1<=i)&&zag ws (i:Int) == 0) ws.length).2;have e:fiI ws=zbu (fun i=>decide (1<=i)&&zag ws (i:Int) == 0) ws.length:=rfl;rw[<- e]at hit b;refine⟨(fiI ws).toNat,by omega,by have:=h.l16;omega,?_⟩;simp only[Bool.and_eq_true,beq_iff_eq]at hit;rw[<- zbd];exact hit.2
theorem zwe{ps:List Den}(l:ps.length=24){d:Int}{nm:ByteArray}(h:zbj ps d nm=none):∀ j,j<24->0<=(zav ps j).child->(zav ps j).dir=d->¬ (zav ps j).name=nm:=by
 intro j hj a b c;unfold zbj at h;rw[List.findIdx?_eq_none_iff]at h;have:=h ps[j] (List.getElem_mem (by omega));rw[zcd (by omega)]at a b c;rw[zkf.2 ⟨a,b,c⟩]at this
 cases this
theorem zkt{ws:List Ino}{ps:List Den}(h:Img ws ps){d:Int}{nm:ByteArray}{k:Nat}(e:zbj ps d nm=some k):k<24/\∃ i:Nat,zap ps k=(i:Int)/\(zav ps k).child=(i:Int)/\i<16/\zhd ws (zav ps k)/\(zav ps k).dir=d/\(zav ps k).name=nm:=by
 obtain⟨hk,q⟩:=yaag e
 have hk24:k<24:=by have:=h.l24;omega
 obtain⟨c,hd,hn⟩:=zkf.1 q;rw[<- zcd hk]at c hd hn
 have ok:zhd ws (zav ps k):=by
  rcases h.ent k hk24 with r | r
  ·rw[r]at c;exact absurd c (by decide)
  ·exact r
 refine⟨hk24,(zav ps k).child.toNat,?_,by omega,by have:=ok.1;omega,ok,hd,hn⟩;rw[ztz hk];omega
theorem yacr{ps:List Den}(l:ps.length=24){d:Int}(h:zaw ps d=[]):∀ j,j<24->¬ (0<=(zav ps j).child/\(zav ps j).dir=d):=by
 intro j hj;rintro⟨a,b⟩;unfold zaw at h;rw[List.map_eq_nil_iff,List.filter_eq_nil_iff]at h;have:=h ps[j] (List.getElem_mem (by omega));rw[zcd (by omega)]at a b;rw[decide_eq_true_eq]at this;omega
theorem yain{ls:List Int}{ws:List Ino}{ps:List Den}{s:ByteArray}{kind:Int}{us:List Se}(h:Wi ls ws ps)(kd:kind=1\/kind=2)(e:mkI ws ps s kind=(us,0)) :
  ∃ (i k:Nat) (d:Int) (nm:ByteArray),paI ws ps s=(d,nm,0)/\zbj ps d nm=none/\(i<16/\1<=i/\(zal ws i).kind=0)/\(k<24/\zav ps k=freeD)/\Wi (zco ls us) (ws.set i ⟨kind,0,1,0,0,0,0,0,0,0,0⟩) (ps.set k ⟨d,nm,(i:Int)⟩):=by
 unfold mkI at e
 by_cases c:(paI ws ps s).2.2=0
 ·rw[if_pos c]at e;obtain⟨hd,dd,hn⟩:=zjp (zbv.2 h.img) c;unfold mkN at e
  by_cases c1:0<=zjr ps (paI ws ps s).1 (paI ws ps s).2.1
  ·rw[if_pos c1]at e;cases e
  ·rw[if_neg c1]at e
   by_cases c2:fiI ws<0
   ·rw[if_pos c2]at e;cases e
   ·rw[if_neg c2]at e
    by_cases c3:feI ps<0
    ·rw[if_pos c3]at e;cases e
    ·rw[if_neg c3]at e;obtain⟨i,ei,hi,ki⟩:=zwn h.img c2;obtain⟨k,ek,hk,fk⟩:=zsa h.img c3;have en:=zmj.2 c1;generalize paI ws ps s=pr at *;obtain⟨d,nm,pc⟩:=pr;simp only at c hd dd hn en e;subst c;rw[ei,ek]at e
     have eu:us=znm i [(0,kind),(2,1)]++enL (k:Int) ⟨d,nm,(i:Int)⟩:=by
      injection e with e _;rw[<- e];unfold mkU znm;simp only[List.map_cons,List.map_nil];rw[show 48+12*(i:Int)+((0:Nat):Int)=48+12*(i:Int) by omega];rfl
     obtain⟨z,_,i0⟩:=h.img.free hi ki
     have xp:ztf (zal ws i) [(0,kind),(2,1)]=⟨kind,0,1,0,0,0,0,0,0,0,0⟩:=by rw[z];rfl
     refine⟨i,k,d,nm,rfl,en,⟨hi,by omega,ki⟩,⟨hk,fk⟩,?_⟩;rw[eu,<- xp];refine(yaax h hi hk (fun f hf=>?_) (.inr ⟨by show(0:Int)<=(i:Int);omega,hn⟩) ?_).1
     ·simp only[List.mem_cons,List.not_mem_nil,or_false]at hf
      rcases hf with rfl|rfl
      ·show(0:Nat)<11;omega
      ·show(2:Nat)<11;omega
     ·rw[xp];exact yakl h.img hi ki hk fk kd hd dd hn (zwe h.img.l24 en)
 ·rw[if_neg c]at e;injection e with _ e;exact absurd e c
theorem yapi(i:Nat):wrL (i:Int) zhe 8=znm i [(0,0),(1,0),(2,0),(3,0),(4,0),(5,0),(6,0),(7,0),(8,0),(9,0),(10,0)]:=by
 unfold wrL znm;simp only[List.map_cons,List.map_nil,List.range_succ,List.range_zero,List.nil_append,List.cons_append];rw[show 48+12*(i:Int)+((0:Nat):Int)=48+12*(i:Int) by omega];rfl
theorem yadx{ls:List Int}{ws:List Ino}{ps:List Den}{s:ByteArray}{us:List Se}(h:Wi ls ws ps)(e:rmI ws ps s=(us,0)) :
  ∃ (i k:Nat) (d:Int) (nm:ByteArray),paI ws ps s=(d,nm,0)/\zbj ps d nm=some k/\(zav ps k).child=(i:Int)/\i<16/\k<24/\zaw ps (i:Int)=[]/\Wi (zco ls us) (ws.set i (zce (zal ws i))) (ps.set k freeD):=by
 unfold rmI at e
 by_cases c:(paI ws ps s).2.2=0
 ·rw[if_pos c]at e;generalize paI ws ps s=pr at *;obtain⟨d,nm,pc⟩:=pr;simp only at c e;subst c;unfold rmN at e
  cases en:zbj ps d nm with
  | none=>rw[en]at e;cases e
  | some k =>
   rw[en]at e;have e':rmC ws ps k=(us,0):=e;obtain⟨hk,i,ci,ck,hi,ok,_,_⟩:=zkt h.img en;unfold rmC at e';rw[ci]at e'
   by_cases c1:zag ws (i:Int)=2/\¬ zaw ps (i:Int)=[]
   ·rw[if_pos c1]at e';cases e'
   ·rw[if_neg c1]at e'
    have nn:zaw ps (i:Int)=[]:=by
     by_cases q:zag ws (i:Int)=2
     ·exact Classical.byContradiction fun r=>c1 ⟨q,r⟩
     ·exact yabg (zbv.2 h.img) q
    refine⟨i,k,d,nm,rfl,en,ck,hi,hk,nn,?_⟩;have img:=yacu h.img hk ck (yacr h.img.l24 nn);injection e' with e' _;rw[<- e'];unfold rmU;rw[zpu]
    by_cases two:1<(zal ws i).links
    ·rw[if_pos two]
     have xp:ztf (zal ws i) [(2,(zal ws i).links-1)]=zce (zal ws i):=by
      unfold zce;rw[if_pos two];rfl
     rw[<- xp]at img ⊢;exact(yaax h hi hk (fun f hf=>by simp only[List.mem_cons,List.not_mem_nil,or_false]at hf;rw[hf];show(2:Nat)<11;omega) (.inl rfl) img).2
    ·rw[if_neg two,yapi]
     have xp:ztf (zal ws i) [(0,0),(1,0),(2,0),(3,0),(4,0),(5,0),(6,0),(7,0),(8,0),(9,0),(10,0)]=zce (zal ws i):=by
      unfold zce;rw[if_neg two];rfl
     rw[<- xp]at img ⊢;refine(yaax h hi hk (fun f hf=>?_) (.inl rfl) img).2;simp only[List.mem_cons,List.not_mem_nil,or_false]at hf
     rcases hf with rfl|rfl|rfl|rfl|rfl|rfl|rfl|rfl|rfl|rfl|rfl<;>decide
 ·rw[if_neg c]at e;injection e with _ e;exact absurd e c
theorem yaer{ws:List Ino}{ps:List Den}(h:Img ws ps):∀ (ns:List ByteArray) (z:Int),(wk ws ps z ns).2=0->¬ zag ws z=0->¬ zag ws (wk ws ps z ns).1=0
 | [],z,_,k=>k
 | n::ns,z,c,k=>by
  by_cases q:zag ws z=2
  ·cases e:zbj ps z n with
   | none=>rw[zjz q e]at c;cases c
   | some j =>
    rw[zgc q e]at c ⊢;obtain⟨_,i,ci,ck,_,ok,_,_⟩:=zkt h e;refine yaer h ns _ c ?_;rw[ci,<- ck];exact ok.2.2.2.1
  ·rw[zhk q]at c;cases c
theorem yagb{ws:List Ino}{ps:List Den}(h:Img ws ps):∀ (ns:List ByteArray) (z:Int),(wk ws ps z ns).2=0->(wk ws ps z ns).1=z\/1<=(wk ws ps z ns).1
 | [],z,_=>.inl rfl
 | n::ns,z,c=>by
  by_cases q:zag ws z=2
  ·cases e:zbj ps z n with
   | none=>rw[zjz q e]at c;cases c
   | some k =>
    rw[zgc q e]at c ⊢;obtain⟨_,i,ci,ck,_,ok,_,_⟩:=zkt h e;have:=ok.1
    rcases yagb h ns _ c with r | r
    ·right;rw[r,ci];omega
    ·exact .inr r
  ·rw[zhk q]at c;cases c
theorem zlg{ws:List Ino}{ps:List Den}{s:ByteArray}(h:Img ws ps)(c:(lkI ws ps s).2=0)(k:¬ zag ws (lkI ws ps s).1=2):∃ i:Nat,(lkI ws ps s).1=(i:Int)/\i<16/\¬ i=0/\(zal ws i).kind=1:=by
 have rg:=yaab (s:=s) (zbv.2 h);refine⟨(lkI ws ps s).1.toNat,by omega,by omega,?_⟩;unfold lkI at c k rg ⊢
 by_cases q:spB s=true
 ·rw[if_pos q]at c k rg ⊢;have r1:zag ws 0=2:=h.root;have kk:=yaer h (spL s) 0 c (by rw[r1];decide)
  have hp:1<=(wk ws ps 0 (spL s)).1:=by
   rcases yagb h _ 0 c with r | r
   ·rw[r]at k;exact absurd r1 k
   ·exact r
  refine⟨by omega,?_⟩
  obtain⟨n,hn⟩:∃ n:Nat,(wk ws ps 0 (spL s)).1=(n:Int):=⟨(wk ws ps 0 (spL s)).1.toNat,by omega⟩
  rw[hn]at k kk rg ⊢;rw[Int.toNat_natCast];rw[zbd]at k kk;have:=(zcf (h.ok n (by omega))).1;omega
 ·rw[if_neg q]at c;cases c
theorem yaon{ls:List Int}{ws:List Ino}{ps:List Den}{s t:ByteArray}{us:List Se}(h:Wi ls ws ps)(e:lnI ws ps s t=(us,0)) :
  ∃ (i k:Nat) (d:Int) (nm:ByteArray),lkI ws ps s=((i:Int),0)/\(i<16/\¬ i=0/\(zal ws i).kind=1)/\paI ws ps t=(d,nm,0)/\zbj ps d nm=none/\(k<24/\zav ps k=freeD)/\Wi (zco ls us) (ws.set i (zgn (zal ws i))) (ps.set k ⟨d,nm,(i:Int)⟩):=by
 unfold lnI at e
 by_cases c0:(lkI ws ps s).2=0
 ·rw[if_pos c0]at e
  by_cases c1:zag ws (lkI ws ps s).1=2
  ·rw[if_pos c1]at e;cases e
  ·rw[if_neg c1]at e;obtain⟨i,ei,hi,i0,ki⟩:=zlg h.img c0 c1;have el:lkI ws ps s=((i:Int),0):=Prod.ext ei c0;rw[ei]at e;unfold lnP at e
   by_cases c:(paI ws ps t).2.2=0
   ·rw[if_pos c]at e;obtain⟨hd,dd,hn⟩:=zjp (zbv.2 h.img) c;unfold lnN at e
    by_cases c2:0<=zjr ps (paI ws ps t).1 (paI ws ps t).2.1
    ·rw[if_pos c2]at e;cases e
    ·rw[if_neg c2]at e
     by_cases c3:feI ps<0
     ·rw[if_pos c3]at e;cases e
     ·rw[if_neg c3]at e;obtain⟨k,ek,hk,fk⟩:=zsa h.img c3;have en:=zmj.2 c2;generalize paI ws ps t=pr at *;obtain⟨d,nm,pc⟩:=pr;simp only at c hd dd hn en e;subst c;rw[ek,zpu]at e;injection e with e _;refine⟨i,k,d,nm,el,⟨hi,i0,ki⟩,rfl,en,⟨hk,fk⟩,?_⟩;have img:=yamz h.img hi i0 ki hk fk hd dd hn (zwe h.img.l24 en);have xp:ztf (zal ws i) [(2,(zal ws i).links+1)]=zgn (zal ws i):=rfl;rw[<- e];rw[<- xp]at img ⊢;exact(yaax h hi hk (fun f hf=>by simp only[List.mem_cons,List.not_mem_nil,or_false]at hf;rw[hf];show(2:Nat)<11;omega) (.inr ⟨by show(0:Int)<=(i:Int);omega,hn⟩) img).2
   ·rw[if_neg c]at e;injection e with _ e;exact absurd e c
 ·rw[if_neg c0]at e;injection e with _ e;exact absurd e c0
theorem yadw{ls:List Int}{ws:List Ino}{ps:List Den}{s t:ByteArray}{us:List Se}(h:Wi ls ws ps)(e:rnI ws ps s t=(us,0)) :
  ∃ (i k:Nat) (d0 d:Int) (n0 nm:ByteArray),paI ws ps s=(d0,n0,0)/\zbj ps d0 n0=some k/\(zav ps k).child=(i:Int)/\i<16/\k<24/\paI ws ps t=(d,nm,0)/\zbj ps d nm=none/\Wi (zco ls us) ws (ps.set k ⟨d,nm,(i:Int)⟩):=by
 unfold rnI at e
 by_cases c0:(paI ws ps s).2.2=0
 ·rw[if_pos c0]at e;unfold rnE at e
  cases en0:zbj ps (paI ws ps s).1 (paI ws ps s).2.1 with
  | none=>rw[en0]at e;cases e
  | some k =>
   rw[en0]at e;have e':rnP ws ps t k=(us,0):=e;obtain⟨hk,i,ci,ck,hi,ok,_,_⟩:=zkt h.img en0;unfold rnP at e'
   by_cases c:(paI ws ps t).2.2=0
   ·rw[if_pos c]at e';obtain⟨hd,dd,hn⟩:=zjp (zbv.2 h.img) c;unfold rnN at e';rw[ci]at e'
    by_cases c2:0<=zjr ps (paI ws ps t).1 (paI ws ps t).2.1
    ·rw[if_pos c2]at e';cases e'
    ·rw[if_neg c2]at e';have en:=zmj.2 c2
     by_cases c3:zag ws (i:Int)=2/\zgr ps 17 (paI ws ps t).1 (i:Int)=true
     ·rw[if_pos c3]at e';cases e'
     ·rw[if_neg c3]at e';generalize paI ws ps t=pr at *;obtain⟨d,nm,pc⟩:=pr;generalize paI ws ps s=pq at *;obtain⟨d0,n0,qc⟩:=pq;simp only at c hd dd hn en e' c0 en0 c3;subst c c0;injection e' with e' _;refine⟨i,k,d0,d,n0,nm,rfl,en0,ck,hi,hk,rfl,en,?_⟩;rw[<- e'];exact yasy h hk (.inr ⟨by show(0:Int)<=(i:Int);omega,hn⟩) (yacp h.img hk ck hd dd hn (zwe h.img.l24 en) c3)
   ·rw[if_neg c]at e';injection e' with _ e';exact absurd e' c
 ·rw[if_neg c0]at e;injection e with _ e;exact absurd e c0
def zij(hs:List Int):Bool:=decide (hs.length=128/\∀ k (h:k<hs.length),0<=hs[k]/\hs[k]<=64)
def zsr(n:Nat):List Int:=List.replicate n 1
theorem yaft(n:Nat):zsr (n+1)=zsr n++[1]:=by unfold zsr;rw[List.replicate_succ',]
theorem zro(n:Nat):(zsr n).length=n:=by simp[zsr]
theorem yabs(w:World):zC 108 #[] w fun e w'=>∃ v',e=.returned v'/\Row w' 3 1 w.heap.size w'.heap.size v' (zsr 128).length (zeh (zsr 128))/\zB w w':=by
 have START:Hid (InI w (w.alloc (.cells #[] 3)) (.slice (some ⟨w.heap.size,0,none⟩) 0 0) (zsr 0)):=⟨World.ownsRow_lit w #[] 0 zL (by simp[maxLen]) (by simp),zR.alloc zL _⟩
 go_enter Tryz.func108,Tryz.ntmps108;go_wp2
 go_loopw [1,2] (fun vL i wr=>∃ m:Nat,m<=128/\i=.I (m:Int)/\Hid (InI w wr vL (zsr m))) (fun _ i _=>128-(intOf i).toNat)
 case atStart=>exact⟨0,by omega,rfl,START⟩
 case round =>
  obtain⟨m,hm,rfl,J⟩:=hrel;clear START
  have m0:(0:Int)<=(m:Int):=by omega
  by_cases hlt:m<128
  ·have m1:(m:Int)<128:=by omega
   have EM:=zaa (yaft m)
   have l2:(zsr m).length<=128:=by rw[zro];omega
   have JB:Hid (InI w (wr.alloc (.cells #[.I 1] 3)) u1 (zsr m)):=J.o.below (zR.alloc zL _);have RB:=zaa (yajj wr 1);have hzb:=JB.o.z;clear J;go_wp2_with (at_builtin;refine zaf _ rfl (.tmp 8) (.tmp 9) 70 rfl w.heap.size 3 (.I 0) 1 8 Tryz.underlying70 zmu rfl (by decide) _ _ _ rfl JB.o.l _ 1 _ rfl RB.o (zwr _) (by first | omega | (simp[maxLen];omega)) (by first | omega | (simp;omega)) hzb ?_);intro vN wN hownN hgrN;have G:=zaa (JB.o.grow 1 hownN hgrN);rw[<- EM.o]at G;clear hownN hgrN JB RB;go_wp2
   go_roundw
   case rel=>exact⟨m+1,by omega,by go_num,G⟩
   case measure=>simp[intOf];omega
  ·obtain rfl:m=128:=by omega
   obtain⟨-,aN,cN,hvN,-⟩:=(zac J.o.l).rd;subst hvN;go_wp2;go_ret;exact⟨_,rfl,zac J.o.l,J.o.b⟩
def pgE(ns:List Ino)(i:Nat):Int:=(zal ns (i/8)).map.getD (i%8) 0
def pkS(ns:List Ino)(hs:List Int)(t:Int)(hot:Bool)(b:Int)(i:Nat):Int:=if pgE ns i=0\/¬ pgE ns i%4=t then b else if b<0\/(hot=true/\hs.getD b.toNat 0<hs.getD i 0)\/(hot=false/\hs.getD i 0<hs.getD b.toNat 0) then(i:Int)else b
def pkN(ns:List Ino)(hs:List Int)(t:Int)(hot:Bool):Nat->Int
 | 0=>-1
 | n+1=>pkS ns hs t hot (pkN ns hs t hot n) n
theorem ztc(ns:List Ino)(hs:List Int)(t:Int)(hot:Bool)(n:Nat):-1<=pkN ns hs t hot n/\pkN ns hs t hot n<(n:Int):=by
 induction n with
 | zero=>exact⟨Int.le_refl (-1),show(-1:Int)<0 by decide⟩
 | succ n ih =>
  have e:pkN ns hs t hot (n+1)=pkS ns hs t hot (pkN ns hs t hot n) n:=rfl;rw[e];unfold pkS
  split
  ·omega
  ·split<;>omega
theorem yaie{ns:List Ino}{ds:List Den}(h:zbo ns ds=true){k:Nat}(hk:k<16)(j:Nat):zel ((zal ns k).map.getD j 0)=true:=by
 have t:=(zfk ((zbv.1 h).ok k hk)).1;rw[List.getD_eq_getElem?_getD]
 rcases Nat.lt_or_ge j (zal ns k).map.length with q | q
 ·rw[List.getElem?_eq_getElem q];exact t _ (List.getElem_mem q)
 ·rw[List.getElem?_eq_none q];exact zst
end Go.Proofs.YtfagbapgnocjiaaGreatDoor

namespace Go.Proofs.YtfagbapgnocjiaaGreatDoor
open Go.Shelf Go.RowKit Go.Lib
theorem zrk(s p:ByteArray)(w:World) :
  zC 26 #[.string s,.string p] w fun e w'=>e=.returned (.tuple #[.string ⟨(Lib.trimPrefix s.data.toList p.data.toList).toArray⟩,.bool (Lib.hasPrefix s.data.toList p.data.toList)])/\w'=w:=Any.strings_CutPrefix yaqk s p w
theorem zxr(a b:ByteArray)(w:World) :
  zC 20 #[.string a,.string b] w fun e w'=>e=.returned (.I (Lib.compareBytes a.data.toList b.data.toList))/\w'=w:=Any.strings_Compare yapf a b w
theorem zwj(x:ByteArray)(w:World):zC 97 #[.string x,.string ⟨#[47]⟩] w fun e w'=>e=.returned (.I (Lib.indexB x ⟨#[47]⟩))/\w'=w:=by
 refine(show zC 97 #[.string x,.string ⟨#[47]⟩] w fun e w'=>e=.returned (.I (Lib.indexByte x.data.toList 47))/\w'=w from Any.strings_Index_one (ρ:=zgf) { zwu with } x 47 w).mono fun e w' ⟨he,hw⟩=>⟨?_,hw⟩
 rw[he]
 show _=Ending.returned (Value.I (Lib.index x.data.toList [47]))
 rw[Lib.index_one]
theorem zyl(x:ByteArray)(w:World):zC 96 #[.string x,.string ⟨#[47]⟩] w fun e w'=>e=.returned (.I (Lib.countB x ⟨#[47]⟩))/\w'=w:=by
 refine(show zC 96 #[.string x,.string ⟨#[47]⟩] w fun e w'=>e=.returned (.I (Lib.countByte x.data.toList 47))/\w'=w from Any.strings_Count_one (ρ:=zgf) { zwu with } x 47 w).mono fun e w' ⟨he,hw⟩=>⟨?_,hw⟩
 rw[he]
 show _=Ending.returned (Value.I ((Lib.count x.data.toList [47]:Nat):Int))
 rw[Lib.count_one];rfl
theorem zya(s:ByteArray)(w:World)(hs:s.size<4294967281) :
  zC 27 #[.string s,.string ⟨#[47]⟩] w fun e w' =>
   e=.returned (.slice (some ⟨w.heap.size,0,none⟩) (pcs s).length (pcs s).length)/\w'=w.alloc (.cells (zcs (pcs s)).toArray 9):=by
 have hle:=Lib.countB_le ⟨#[47]⟩ (by decide) s.size s zL;have hlen:=Lib.splitB_all ⟨#[47]⟩ (by decide) 0 _ s rfl
 have c:zC 52 #[.string s,.string ⟨#[47]⟩,.I ((0:Nat):Int),.I (-1)] w fun e w' =>
   e=.returned (.slice (some ⟨w.heap.size,0,none⟩) (Lib.splitB ⟨#[47]⟩ 0 (Lib.countB s ⟨#[47]⟩+1-1) s).length (Lib.countB s ⟨#[47]⟩+1))/\w'=w.alloc (.cells (Lib.cellsOf (Lib.splitB ⟨#[47]⟩ 0 (Lib.countB s ⟨#[47]⟩+1-1) s) (Lib.countB s ⟨#[47]⟩+1)) 9) :=
  Any.strings_genSplit_core (ρ:=zgf) { zwu with } (by kernel_rfl) s ⟨#[47]⟩ 0 (-1) (Lib.countB s ⟨#[47]⟩+1) w hs (by decide) (Nat.zero_le _) (fun x _ _=>zwj x _) (zyl s w) (by decide) (by decide) (by rw[if_pos (by decide)];omega)
 rw[Nat.add_sub_cancel,hlen]at c
 have e2:Lib.cellsOf (Lib.splitB ⟨#[47]⟩ 0 (Lib.countB s ⟨#[47]⟩) s) (Lib.countB s ⟨#[47]⟩+1)=((Lib.splitB ⟨#[47]⟩ 0 (Lib.countB s ⟨#[47]⟩) s).map Value.string).toArray:=by rw[<- hlen];exact Lib.cellsOf_full _
 rw[e2,zvf,yaif]at c;have C:=zaa c;clear c hle hlen e2;unfold zcs;generalize (pcs s).length=n at *;generalize ((pcs s).map Value.string).toArray=cs at *;go_enter Tryz.func27,Tryz.ntmps27;go_wp2_with (go_at_call 52;refine C.o.mono ?_;rintro e w' ⟨rfl,hw⟩;rw[hw]);go_ret;exact⟨rfl,rfl⟩
end Go.Proofs.YtfagbapgnocjiaaGreatDoor

namespace Go.Proofs.YtfagbapgnocjiaaGreatDoor
open Go.RowKit Go.Sort
def zkm(x:Den):List Value:=[.I x.dir,.string x.name,.I x.child]
def zhq(x y:Den):Int:=Lib.compareBytes x.name.data.toList y.name.data.toList
theorem zdw:∀ (a b:List UInt8),Lib.compareBytes a b<0↔a<b
 | [],[]=>by simp[Lib.compareBytes]
 | [],y::b=>by simp[Lib.compareBytes]
 | x::a,[]=>by simp[Lib.compareBytes]
 | x::a,y::b=>by
  have ih:=zdw a b;unfold Lib.compareBytes;rw[List.cons_lt_cons_iff]
  by_cases h1:x<y
  ·simp[h1]
  ·by_cases h2:y<x
   ·have h3:¬ x=y:=fun e=>by subst e;exact h1 h2
    simp[h1,h2,h3]
   ·have h3:x=y:=by
     apply UInt8.toNat_inj.1;rw[UInt8.lt_iff_toNat_lt]at h1 h2;omega
    subst h3;simpa[h1]using ih
theorem yaqw:SWO (fun x y:Den=>decide (zhq x y<0)) where
 irrefl x:=decide_eq_false (by unfold zhq;rw[zdw];exact List.lt_irrefl _)
 trans x y z h1 h2:=by
  have a:=of_decide_eq_true h1;have b:=of_decide_eq_true h2;unfold zhq at a b;rw[zdw]at a b;refine decide_eq_true ?_;unfold zhq;rw[zdw];exact List.lt_trans a b
 ntrans x y z h1 h2:=by
  have a:=of_decide_eq_false h1;have b:=of_decide_eq_false h2;unfold zhq at a b;rw[zdw,List.not_lt]at a b;refine decide_eq_false ?_;unfold zhq;rw[zdw,List.not_lt];exact List.le_trans b a
theorem yabw(x y:Den)(W:World):zC 19 #[.agg #[.I x.dir,.string x.name,.I x.child],.agg #[.I y.dir,.string y.name,.I y.child]] W fun e w'=>e=.returned (.I (zhq x y))/\∃ q os',w'=grow (W.drewN q) os':=by
 have hcon:=zaa (fun w=>zxr x.name y.name w);go_enter Tryz.func19,Tryz.ntmps19;go_wp2_with fail;refine(hcon.o _).mono ?_;rintro e w' ⟨rfl,hw⟩;subst w';go_wp2;go_ret;exact⟨rfl,0,_,by rw[alloc_eq_grow,alloc_eq_grow,grow_grow];rfl⟩
end Go.Proofs.YtfagbapgnocjiaaGreatDoor
