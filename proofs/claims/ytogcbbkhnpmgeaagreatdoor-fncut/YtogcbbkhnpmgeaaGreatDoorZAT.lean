import Derived.Test.YtogcbbkhnpmgeaaGreatDoorZAS
import Derived.BigRegion
set_option maxRecDepth 100000
set_option maxHeartbeats 8000000
namespace Go.Proofs.YtogcbbkhnpmgeaaGreatDoor
open Go.RowKit
theorem ztn{ps:List Den}{k:Nat}(h:k<ps.length):zar ps k=(zat ps k).child:=zyn h
theorem zso{ws:List Ino}{ps:List Den}(h:Img ws ps)(f:¬ feI ps<0):∃ k:Nat,feI ps=(k:Int)/\k<24/\zat ps k=freeD:=by
 have hit:=zmr (p:=fun i=>decide (zar ps i<0)) (n:=ps.length) f;have b:=(zea (fun i=>decide (zar ps i<0)) ps.length).2;have e:feI ps=zby (fun i=>decide (zar ps i<0)) ps.length:=rfl;rw[<- e]at hit b;refine⟨(feI ps).toNat,by omega,by have:=h.l24;omega,?_⟩
 have hk:(feI ps).toNat<ps.length:=by omega
 have c:zar ps (feI ps).toNat<0:=of_decide_eq_true hit;rw[ztn hk]at c
 rcases h.ent (feI ps).toNat (by have:=h.l24;omega)with q | q
 ·exact q
 ·have:=q.1;omega
theorem zxf{ws:List Ino}{ps:List Den}(h:Img ws ps)(f:¬ fiI ws<0):∃ i:Nat,fiI ws=(i:Int)/\i<16/\(zam ws i).kind=0:=by
 have hit:=zmr (p:=fun i=>decide (1<=i)&&zai ws (i:Int) == 0) (n:=ws.length) f;have b:=(zea (fun i=>decide (1<=i)&&zai ws (i:Int) == 0) ws.length).2;have e:fiI ws=zby (fun i=>decide (1<=i)&&zai ws (i:Int) == 0) ws.length:=rfl;rw[<- e]at hit b;refine⟨(fiI ws).toNat,by omega,by have:=h.l16;omega,?_⟩;simp only[Bool.and_eq_true,beq_iff_eq]at hit;rw[<- zbd];exact hit.2
theorem zxd{ps:List Den}(l:ps.length=24){d:Int}{nm:ByteArray}(h:zbs ps d nm=none):∀ j,j<24->0<=(zat ps j).child->(zat ps j).dir=d->¬ (zat ps j).name=nm:=by
 intro j hj a b c;unfold zbs at h;rw[List.findIdx?_eq_none_iff]at h;have:=h ps[j] (List.getElem_mem (by omega));rw[zck (by omega)]at a b c;rw[zkq.2 ⟨a,b,c⟩]at this
 cases this
theorem zlb{ws:List Ino}{ps:List Den}(h:Img ws ps){d:Int}{nm:ByteArray}{k:Nat}(e:zbs ps d nm=some k):k<24/\∃ i:Nat,zar ps k=(i:Int)/\(zat ps k).child=(i:Int)/\i<16/\zhg ws (zat ps k)/\(zat ps k).dir=d/\(zat ps k).name=nm:=by
 obtain⟨hk,q⟩:=yaba e
 have hk24:k<24:=by have:=h.l24;omega
 obtain⟨c,hd,hn⟩:=zkq.1 q;rw[<- zck hk]at c hd hn
 have ok:zhg ws (zat ps k):=by
  rcases h.ent k hk24 with r | r
  ·rw[r]at c;exact absurd c (by decide)
  ·exact r
 refine⟨hk24,(zat ps k).child.toNat,?_,by omega,by have:=ok.1;omega,ok,hd,hn⟩;rw[ztn hk];omega
theorem yacc{ps:List Den}(l:ps.length=24){d:Int}(h:zbq ps d=[]):∀ j,j<24->¬ (0<=(zat ps j).child/\(zat ps j).dir=d):=by
 intro j hj;rintro⟨a,b⟩;unfold zbq at h;rw[List.map_eq_nil_iff,List.filter_eq_nil_iff]at h;have:=h ps[j] (List.getElem_mem (by omega));rw[zck (by omega)]at a b;rw[decide_eq_true_eq]at this;omega
theorem yaid{ls:List Int}{ws:List Ino}{ps:List Den}{s:ByteArray}{kind:Int}{us:List Se}(h:Wi ls ws ps)(kd:kind=1\/kind=2)(e:mkI ws ps s kind=(us,0)) :
  ∃ (i k:Nat) (d:Int) (nm:ByteArray),paI ws ps s=(d,nm,0)/\zbs ps d nm=none/\(i<16/\1<=i/\(zam ws i).kind=0)/\(k<24/\zat ps k=freeD)/\Wi (zbu ls us) (ws.set i ⟨kind,0,1,0,0,0,0,0,0,0,0⟩) (ps.set k ⟨d,nm,(i:Int)⟩):=by
 unfold mkI at e
 by_cases c:(paI ws ps s).2.2=0
 ·rw[if_pos c]at e;obtain⟨hd,dd,hn⟩:=zju (zbi.2 h.img) c;unfold mkN at e
  by_cases c1:0<=zlh ps (paI ws ps s).1 (paI ws ps s).2.1
  ·rw[if_pos c1]at e;cases e
  ·rw[if_neg c1]at e
   by_cases c2:fiI ws<0
   ·rw[if_pos c2]at e;cases e
   ·rw[if_neg c2]at e
    by_cases c3:feI ps<0
    ·rw[if_pos c3]at e;cases e
    ·rw[if_neg c3]at e;obtain⟨i,ei,hi,ki⟩:=zxf h.img c2;obtain⟨k,ek,hk,fk⟩:=zso h.img c3;have en:=znw.2 c1;generalize paI ws ps s=pr at *;obtain⟨d,nm,pc⟩:=pr;simp only at c hd dd hn en e;subst c;rw[ei,ek]at e
     have eu:us=zmv i [(0,kind),(2,1)]++enL (k:Int) ⟨d,nm,(i:Int)⟩:=by
      injection e with e _;rw[<- e];unfold mkU zmv;simp only[List.map_cons,List.map_nil];rw[show 48+12*(i:Int)+((0:Nat):Int)=48+12*(i:Int) by omega];rfl
     obtain⟨z,_,i0⟩:=h.img.free hi ki
     have xp:ztp (zam ws i) [(0,kind),(2,1)]=⟨kind,0,1,0,0,0,0,0,0,0,0⟩:=by rw[z];rfl
     refine⟨i,k,d,nm,rfl,en,⟨hi,by omega,ki⟩,⟨hk,fk⟩,?_⟩;rw[eu,<- xp];refine(yaah h hi hk (fun f hf=>?_) (.inr ⟨by show(0:Int)<=(i:Int);omega,hn⟩) ?_).1
     ·simp only[List.mem_cons,List.not_mem_nil,or_false]at hf
      rcases hf with rfl|rfl
      ·show(0:Nat)<11;omega
      ·show(2:Nat)<11;omega
     ·rw[xp];exact yakt h.img hi ki hk fk kd hd dd hn (zxd h.img.l24 en)
 ·rw[if_neg c]at e;injection e with _ e;exact absurd e c
theorem yash(i:Nat):wrL (i:Int) zgg 8=zmv i [(0,0),(1,0),(2,0),(3,0),(4,0),(5,0),(6,0),(7,0),(8,0),(9,0),(10,0)]:=by
 unfold wrL zmv;simp only[List.map_cons,List.map_nil,List.range_succ,List.range_zero,List.nil_append,List.cons_append];rw[show 48+12*(i:Int)+((0:Nat):Int)=48+12*(i:Int) by omega];rfl
theorem yagl{ls:List Int}{ws:List Ino}{ps:List Den}{s:ByteArray}{us:List Se}(h:Wi ls ws ps)(e:rmI ws ps s=(us,0)) :
  ∃ (i k:Nat) (d:Int) (nm:ByteArray),paI ws ps s=(d,nm,0)/\zbs ps d nm=some k/\(zat ps k).child=(i:Int)/\i<16/\k<24/\zbq ps (i:Int)=[]/\Wi (zbu ls us) (ws.set i (zcl (zam ws i))) (ps.set k freeD):=by
 unfold rmI at e
 by_cases c:(paI ws ps s).2.2=0
 ·rw[if_pos c]at e;generalize paI ws ps s=pr at *;obtain⟨d,nm,pc⟩:=pr;simp only at c e;subst c;unfold rmN at e
  cases en:zbs ps d nm with
  | none=>rw[en]at e;cases e
  | some k =>
   rw[en]at e;have e':rmC ws ps k=(us,0):=e;obtain⟨hk,i,ci,ck,hi,ok,_,_⟩:=zlb h.img en;unfold rmC at e';rw[ci]at e'
   by_cases c1:zai ws (i:Int)=2/\¬ zbq ps (i:Int)=[]
   ·rw[if_pos c1]at e';cases e'
   ·rw[if_neg c1]at e'
    have nn:zbq ps (i:Int)=[]:=by
     by_cases q:zai ws (i:Int)=2
     ·exact Classical.byContradiction fun r=>c1 ⟨q,r⟩
     ·exact yadj (zbi.2 h.img) q
    refine⟨i,k,d,nm,rfl,en,ck,hi,hk,nn,?_⟩;have img:=yact h.img hk ck (yacc h.img.l24 nn);injection e' with e' _;rw[<- e'];unfold rmU;rw[zqn]
    by_cases two:1<(zam ws i).links
    ·rw[if_pos two]
     have xp:ztp (zam ws i) [(2,(zam ws i).links-1)]=zcl (zam ws i):=by
      unfold zcl;rw[if_pos two];rfl
     rw[<- xp]at img ⊢;exact(yaah h hi hk (fun f hf=>by simp only[List.mem_cons,List.not_mem_nil,or_false]at hf;rw[hf];show(2:Nat)<11;omega) (.inl rfl) img).2
    ·rw[if_neg two,yash]
     have xp:ztp (zam ws i) [(0,0),(1,0),(2,0),(3,0),(4,0),(5,0),(6,0),(7,0),(8,0),(9,0),(10,0)]=zcl (zam ws i):=by
      unfold zcl;rw[if_neg two];rfl
     rw[<- xp]at img ⊢;refine(yaah h hi hk (fun f hf=>?_) (.inl rfl) img).2;simp only[List.mem_cons,List.not_mem_nil,or_false]at hf
     rcases hf with rfl|rfl|rfl|rfl|rfl|rfl|rfl|rfl|rfl|rfl|rfl<;>decide
 ·rw[if_neg c]at e;injection e with _ e;exact absurd e c
theorem yaes{ws:List Ino}{ps:List Den}(h:Img ws ps):∀ (ns:List ByteArray) (z:Int),(wk ws ps z ns).2=0->¬ zai ws z=0->¬ zai ws (wk ws ps z ns).1=0
 | [],z,_,k=>k
 | n::ns,z,c,k=>by
  by_cases q:zai ws z=2
  ·cases e:zbs ps z n with
   | none=>rw[ziz q e]at c;cases c
   | some j =>
    rw[zja q e]at c ⊢;obtain⟨_,i,ci,ck,_,ok,_,_⟩:=zlb h e;refine yaes h ns _ c ?_;rw[ci,<- ck];exact ok.2.2.2.1
  ·rw[zgt q]at c;cases c
theorem yaeu{ws:List Ino}{ps:List Den}(h:Img ws ps):∀ (ns:List ByteArray) (z:Int),(wk ws ps z ns).2=0->(wk ws ps z ns).1=z\/1<=(wk ws ps z ns).1
 | [],z,_=>.inl rfl
 | n::ns,z,c=>by
  by_cases q:zai ws z=2
  ·cases e:zbs ps z n with
   | none=>rw[ziz q e]at c;cases c
   | some k =>
    rw[zja q e]at c ⊢;obtain⟨_,i,ci,ck,_,ok,_,_⟩:=zlb h e;have:=ok.1
    rcases yaeu h ns _ c with r | r
    ·right;rw[r,ci];omega
    ·exact .inr r
  ·rw[zgt q]at c;cases c
theorem zjy{ws:List Ino}{ps:List Den}{s:ByteArray}(h:Img ws ps)(c:(lkI ws ps s).2=0)(k:¬ zai ws (lkI ws ps s).1=2):∃ i:Nat,(lkI ws ps s).1=(i:Int)/\i<16/\¬ i=0/\(zam ws i).kind=1:=by
 have rg:=zul (s:=s) (zbi.2 h);refine⟨(lkI ws ps s).1.toNat,by omega,by omega,?_⟩;unfold lkI at c k rg ⊢
 by_cases q:spB s=true
 ·rw[if_pos q]at c k rg ⊢;have r1:zai ws 0=2:=h.root;have kk:=yaes h (spL s) 0 c (by rw[r1];decide)
  have hp:1<=(wk ws ps 0 (spL s)).1:=by
   rcases yaeu h _ 0 c with r | r
   ·rw[r]at k;exact absurd r1 k
   ·exact r
  refine⟨by omega,?_⟩
  obtain⟨n,hn⟩:∃ n:Nat,(wk ws ps 0 (spL s)).1=(n:Int):=⟨(wk ws ps 0 (spL s)).1.toNat,by omega⟩
  rw[hn]at k kk rg ⊢;rw[Int.toNat_natCast];rw[zbd]at k kk;have:=(zbr (h.ok n (by omega))).1;omega
 ·rw[if_neg q]at c;cases c
theorem yaqd{ls:List Int}{ws:List Ino}{ps:List Den}{s t:ByteArray}{us:List Se}(h:Wi ls ws ps)(e:lnI ws ps s t=(us,0)) :
  ∃ (i k:Nat) (d:Int) (nm:ByteArray),lkI ws ps s=((i:Int),0)/\(i<16/\¬ i=0/\(zam ws i).kind=1)/\paI ws ps t=(d,nm,0)/\zbs ps d nm=none/\(k<24/\zat ps k=freeD)/\Wi (zbu ls us) (ws.set i (zgm (zam ws i))) (ps.set k ⟨d,nm,(i:Int)⟩):=by
 unfold lnI at e
 by_cases c0:(lkI ws ps s).2=0
 ·rw[if_pos c0]at e
  by_cases c1:zai ws (lkI ws ps s).1=2
  ·rw[if_pos c1]at e;cases e
  ·rw[if_neg c1]at e;obtain⟨i,ei,hi,i0,ki⟩:=zjy h.img c0 c1;have el:lkI ws ps s=((i:Int),0):=Prod.ext ei c0;rw[ei]at e;unfold lnP at e
   by_cases c:(paI ws ps t).2.2=0
   ·rw[if_pos c]at e;obtain⟨hd,dd,hn⟩:=zju (zbi.2 h.img) c;unfold lnN at e
    by_cases c2:0<=zlh ps (paI ws ps t).1 (paI ws ps t).2.1
    ·rw[if_pos c2]at e;cases e
    ·rw[if_neg c2]at e
     by_cases c3:feI ps<0
     ·rw[if_pos c3]at e;cases e
     ·rw[if_neg c3]at e;obtain⟨k,ek,hk,fk⟩:=zso h.img c3;have en:=znw.2 c2;generalize paI ws ps t=pr at *;obtain⟨d,nm,pc⟩:=pr;simp only at c hd dd hn en e;subst c;rw[ek,zqn]at e;injection e with e _;refine⟨i,k,d,nm,el,⟨hi,i0,ki⟩,rfl,en,⟨hk,fk⟩,?_⟩;have img:=yamp h.img hi i0 ki hk fk hd dd hn (zxd h.img.l24 en);have xp:ztp (zam ws i) [(2,(zam ws i).links+1)]=zgm (zam ws i):=rfl;rw[<- e];rw[<- xp]at img ⊢;exact(yaah h hi hk (fun f hf=>by simp only[List.mem_cons,List.not_mem_nil,or_false]at hf;rw[hf];show(2:Nat)<11;omega) (.inr ⟨by show(0:Int)<=(i:Int);omega,hn⟩) img).2
   ·rw[if_neg c]at e;injection e with _ e;exact absurd e c
 ·rw[if_neg c0]at e;injection e with _ e;exact absurd e c0
theorem yais{ls:List Int}{ws:List Ino}{ps:List Den}{s t:ByteArray}{us:List Se}(h:Wi ls ws ps)(e:rnI ws ps s t=(us,0)) :
  ∃ (i k:Nat) (d0 d:Int) (n0 nm:ByteArray),paI ws ps s=(d0,n0,0)/\zbs ps d0 n0=some k/\(zat ps k).child=(i:Int)/\i<16/\k<24/\paI ws ps t=(d,nm,0)/\zbs ps d nm=none/\Wi (zbu ls us) ws (ps.set k ⟨d,nm,(i:Int)⟩):=by
 unfold rnI at e
 by_cases c0:(paI ws ps s).2.2=0
 ·rw[if_pos c0]at e;unfold rnE at e
  cases en0:zbs ps (paI ws ps s).1 (paI ws ps s).2.1 with
  | none=>rw[en0]at e;cases e
  | some k =>
   rw[en0]at e;have e':rnP ws ps t k=(us,0):=e;obtain⟨hk,i,ci,ck,hi,ok,_,_⟩:=zlb h.img en0;unfold rnP at e'
   by_cases c:(paI ws ps t).2.2=0
   ·rw[if_pos c]at e';obtain⟨hd,dd,hn⟩:=zju (zbi.2 h.img) c;unfold rnN at e';rw[ci]at e'
    by_cases c2:0<=zlh ps (paI ws ps t).1 (paI ws ps t).2.1
    ·rw[if_pos c2]at e';cases e'
    ·rw[if_neg c2]at e';have en:=znw.2 c2
     by_cases c3:zai ws (i:Int)=2/\zpt ps 17 (paI ws ps t).1 (i:Int)=true
     ·rw[if_pos c3]at e';cases e'
     ·rw[if_neg c3]at e';generalize paI ws ps t=pr at *;obtain⟨d,nm,pc⟩:=pr;generalize paI ws ps s=pq at *;obtain⟨d0,n0,qc⟩:=pq;simp only at c hd dd hn en e' c0 en0 c3;subst c c0;injection e' with e' _;refine⟨i,k,d0,d,n0,nm,rfl,en0,ck,hi,hk,rfl,en,?_⟩;rw[<- e'];exact yauh h hk (.inr ⟨by show(0:Int)<=(i:Int);omega,hn⟩) (yabx h.img hk ck hd dd hn (zxd h.img.l24 en) c3)
   ·rw[if_neg c]at e';injection e' with _ e';exact absurd e' c
 ·rw[if_neg c0]at e;injection e with _ e;exact absurd e c0
def bys(zs:List Int):List Value:=zs.map (Value.int .u8)
theorem yapm(zs:List Int)(k:Nat)(h:k<zs.length):(bys zs)[k]?=some (.int .u8 zs[k]):=by simp[bys,h]
def RdB(w:World)(v:Value)(zs:List Int):Prop:=Rd w 1 v zs.length (bys zs)/\∀ k (h:k<zs.length),0<=zs[k]/\zs[k]<256
theorem RdB.shape{w:World}{v:Value}{zs:List Int}(h:RdB w v zs):∃ ao cap,v=.slice ao zs.length cap/\zs.length<=cap/\(0<zs.length->∃ b o,ao=some ⟨b,o,none⟩/\b<w.heap.size/\∀ k (h:k<zs.length),w.cell? ⟨b,o+k,none⟩=some (.int .u8 zs[k])):=by
 obtain⟨⟨_,ao,cap,rfl,h2,h3⟩,_⟩:=h;refine⟨ao,cap,rfl,h2.1,fun hn=>?_⟩;obtain⟨b,o,rfl,hb,hc⟩:=h3 hn;exact⟨b,o,rfl,hb,fun k hk=>(hc k (by omega)).trans (yapm zs k hk)⟩
theorem RdB.below{w w':World}{v:Value}{zs:List Int}(h:RdB w v zs)(hb:zB w w'):RdB w' v zs:=⟨h.1.below hb,h.2⟩
theorem zfw{w:World}{b:Nat}{x y z:Value}{t:TypeId}(h:w.heap[b]?=some (.cells #[x,y,z] t (0,0))) :
  w.cell? ⟨b,0,none⟩=some x/\w.cell? ⟨b,1,none⟩=some y/\w.cell? ⟨b,2,none⟩=some z/\∀ j,w.frozen? ⟨b,j,none⟩=false:=by
 refine⟨?_,?_,?_,fun j=>?_⟩<;>simp[World.cell?,World.frozen?,h]
structure Src(w0 w:World)(b:Nat)(vC:Value)(bs:List Int)(k:Nat):Prop where
 code:RdB w0 vC bs
 len:bs.length<=1048576
 old:w0.heap.size<=b
 below:zB w0 w
 size:b<w.heap.size
 cells:∃ at_ seed:Int,0<=at_/\at_<=k/\0<=seed/\seed<2147483648/\w.heap[b]?=some (.cells #[vC,.I at_,.I seed] 110 (0,0))
theorem Src.outside{w0 w w':World}{b k:Nat}{vC:Value}{bs:List Int}(h:Src w0 w b vC bs k){lo hi:Nat}(ho:Outside lo hi w w')(hl:b<lo\/hi<=b)(hl2:w0.heap.size<=lo):Src w0 w' b vC bs k :=
 ⟨h.code,h.len,h.old,h.below.trans (ho.below hl2 h.below.size),Nat.lt_of_lt_of_le h.size ho.size,by
  obtain⟨a,s,h1,h2,h3,h4,h5⟩:=h.cells
  exact⟨a,s,h1,h2,h3,h4,(ho.block b h.size hl).trans h5⟩⟩
theorem Src.newer{w0 w w':World}{b k:Nat}{vC:Value}{bs:List Int}(h:Src w0 w b vC bs k)(hb:zB w w'):Src w0 w' b vC bs k :=
 h.outside (lo:=w.heap.size) (hi:=w'.heap.size) (Outside.of_below hb) (.inl h.size) h.below.size
theorem Outside.drewN{lo hi:Nat}{a w:World}(h:Outside lo hi a w)(n:Nat):Outside lo hi a (w.drewN n):=by
 induction n with
 | zero=>exact h
 | succ n ih=>exact⟨ih.os,ih.tape,ih.output,ih.size,ih.block⟩
theorem yamb{w:World}{b:Nat}{x y z:Value}{t:TypeId}(h:w.heap[b]?=some (.cells #[x,y,z] t (0,0)))(u:Value):(w.setCell ⟨b,1,none⟩ u).heap[b]?=some (.cells #[x,u,z] t (0,0)):=by
 simp[World.setCell,Array.getElem?_modify,h]
theorem yabd{w:World}{b:Nat}{x y z:Value}{t:TypeId}(h:w.heap[b]?=some (.cells #[x,y,z] t (0,0)))(u:Value):(w.setCell ⟨b,2,none⟩ u).heap[b]?=some (.cells #[x,y,u] t (0,0)):=by
 simp[World.setCell,Array.getElem?_modify,h]
theorem Src.set{w0 w w':World}{b k k':Nat}{vC:Value}{bs:List Int}(h:Src w0 w b vC bs k)(ho:Outside b (b+1) w w'){at_ seed:Int}(h1:0<=at_)(h2:at_<=k')(h3:0<=seed)(h4:seed<2147483648)(h5:w'.heap[b]?=some (.cells #[vC,.I at_,.I seed] 110 (0,0))):Src w0 w' b vC bs k' :=
 ⟨h.code,h.len,h.old,h.below.trans (ho.below h.old h.below.size),Nat.lt_of_lt_of_le h.size ho.size,⟨at_,seed,h1,h2,h3,h4,h5⟩⟩
theorem Src.more{w0 w:World}{b k k':Nat}{vC:Value}{bs:List Int}(h:Src w0 w b vC bs k)(hk:k<=k'):Src w0 w b vC bs k' :=
 ⟨h.code,h.len,h.old,h.below,h.size,by obtain⟨a,s,h1,h2,h3⟩:=h.cells;exact⟨a,s,h1,by omega,h3⟩⟩
theorem size_set(w:World)(a:Addr)(u:Value):(w.setCell a u).heap.size=w.heap.size:=by simp[World.setCell]
theorem zec(w:World)(n:Nat):(w.drewN n).heap=w.heap:=by
 induction n with
 | zero=>rfl
 | succ n ih=>exact ih
def zru(bs:List Int)(m:Nat)(seed:Int):Int:=if m<bs.length then bs[m]?.getD 0 else if 3000<m+1 then 0 else(seed*1103515245+12345)%2147483648/65536%256
def zxn(bs:List Int)(m:Nat)(seed:Int):Int:=if m<bs.length then(seed*31+bs[m]?.getD 0+7)%2147483648 else if 3000<m+1 then seed else(seed*1103515245+12345)%2147483648
theorem yajy{bs:List Int}{m:Nat}(seed:Int)(h:m<bs.length):zru bs m seed=bs[m]/\zxn bs m seed=(seed*31+bs[m]+7)%2147483648:=by
 unfold zru zxn;rw[if_pos h,if_pos h];simp[h]
theorem yaaq{bs:List Int}{m:Nat}(seed:Int)(h:¬ m<bs.length)(h2:3000<m+1):zru bs m seed=0/\zxn bs m seed=seed:=by
 unfold zru zxn;rw[if_neg h,if_neg h,if_pos h2,if_pos h2];exact⟨rfl,rfl⟩
theorem ztr{bs:List Int}{m:Nat}(seed:Int)(h:¬ m<bs.length)(h2:¬ 3000<m+1):zru bs m seed=(seed*1103515245+12345)%2147483648/65536%256/\zxn bs m seed=(seed*1103515245+12345)%2147483648:=by
 unfold zru zxn;rw[if_neg h,if_neg h,if_neg h2,if_neg h2];exact⟨rfl,rfl⟩
structure SrcE(w0 w:World)(b:Nat)(vC:Value)(bs:List Int)(m:Nat)(seed:Int):Prop where
 src:Src w0 w b vC bs m
 s0:0<=seed
 s1:seed<2147483648
 cells:w.heap[b]?=some (.cells #[vC,.I (m:Int),.I seed] 110 (0,0))
theorem SrcE.set{w0 w w':World}{b m:Nat}{vC:Value}{bs:List Int}{seed seed':Int}(h:SrcE w0 w b vC bs m seed)(ho:Outside b (b+1) w w')(h3:0<=seed')(h4:seed'<2147483648)(h5:w'.heap[b]?=some (.cells #[vC,.I ((m:Int)+1),.I seed'] 110 (0,0))):SrcE w0 w' b vC bs (m+1) seed' :=
 ⟨h.src.set ho (at_:=(m:Int)+1) (seed:=seed') (by omega) (by omega) h3 h4 h5,h3,h4,h5⟩
theorem zry(w0 w:World)(b m:Nat)(vC:Value)(bs:List Int)(seed:Int)(h:SrcE w0 w b vC bs m seed)(hk:m<=1000000) :
  zC 103 #[.pointer (some ⟨b,0,none⟩)] w fun e w'=>e=.returned (.I (zru bs m seed))/\SrcE w0 w' b vC bs (m+1) (zxn bs m seed)/\Outside b (b+1) w w'/\w'.heap.size=w.heap.size:=by
 have HS:=zaa h;obtain⟨hsrc,s0,s1,hblk⟩:=h;obtain⟨aC,cC,rfl,_,hcC⟩:=hsrc.code.shape;obtain⟨c0,c1,c2,c3⟩:=zfw hblk;have f1:=c3 1;have hlen:=hsrc.len;have NB:=zaa (yamb hblk (.I ((m:Int)+1)));have O1:=zaa ((Outside.refl b (b+1) w).setCell (a:=⟨b,1,none⟩) zL (by simp) (.I ((m:Int)+1)));have B1:=zaa (hsrc.below.trans (O1.o.below hsrc.old hsrc.below.size));have hold:=hsrc.old;clear hsrc hblk c3;go_enter Tryz.func103,Tryz.ntmps103;go_wp2_with fail;clear c0 c1 c2 f1;generalize hw1:w.setCell ⟨b,1,none⟩ (.I ((m:Int)+1))=w1 at *
 have hz1:w1.heap.size=w.heap.size:=by rw[<- hw1];exact size_set _ _ _
 obtain⟨c0,c1,c2,c3⟩:=zfw NB.o;have f2:=c3 2;clear c3 hw1
 by_cases c:m<bs.length
 ·obtain⟨bc,oc,rfl,hbc,hcc⟩:=hcC (by omega);have x0:=(B1.o.cell (p:=⟨bc,oc+m,none⟩) hbc).trans (hcc m c);obtain⟨x1,x2⟩:=HS.o.src.code.2 m c;clear hcC hcc;obtain⟨E1,E2⟩:=yajy seed c;have EE:=zaa (And.intro E1 E2);clear E1 E2;generalize bs[m]=x at *
  have cc:((m:Int)+1)<=(bs.length:Int):=by omega
  have c4:(m:Int)<(bs.length:Int):=by omega
  have c5:(0:Int)<=(m:Int):=by omega
  go_quiet (fail)
  go_wp2_with fail;generalize hw2:w1.drewN _=w2
  have e2:w2.heap=w1.heap:=by rw[<- hw2];exact zec _ _
  have O2:Hid (Outside b (b+1) w w2):=by rw[<- hw2];exact O1.o.drewN _
  have NB2:Hid (w2.heap[b]?=some (.cells #[.slice (some ⟨bc,oc,none⟩) bs.length cC,.I ((m:Int)+1),.I seed] 110 (0,0))):=by rw[e2];exact NB.o
  have x2':=(World.cell?_of_block (w:=w1) (a:=⟨bc,oc+m,none⟩) (by rw[e2])).trans x0;clear c0 c1 c2 f2 x0;obtain⟨c0,c1,c2,c3⟩:=zfw NB2.o;have f2:=c3 2
  have hz2:w2.heap.size=w.heap.size:=by rw[e2];exact hz1
  clear c3 hw2 e2
  go_region
  go_wp2_with fail;have O3:=zaa (Outside.drewN (O2.o.setCell (a:=⟨b,2,none⟩) zL (by simp) (.I ((seed*31+x+7)%2147483648))) 1);have NB3:=zaa (yabd NB2.o (.I ((seed*31+x+7)%2147483648)));generalize hw3:(w2.setCell ⟨b,2,none⟩ (.I ((seed*31+x+7)%2147483648))).drew=w3
  have O4:Hid (Outside b (b+1) w w3):=by rw[<- hw3];exact O3.o
  have NB4:Hid (w3.heap[b]?=some (.cells #[.slice (some ⟨bc,oc,none⟩) bs.length cC,.I ((m:Int)+1),.I ((seed*31+x+7)%2147483648)] 110 (0,0))):=by rw[<- hw3];exact NB3.o
  have hz3:w3.heap.size=w.heap.size:=by rw[<- hw3];exact(size_set _ _ _).trans hz2
  have x3:w3.cell? ⟨bc,oc+m,none⟩=some (.int .u8 x):=by
   rw[<- hw3];exact(World.cell?_of_block (w:=w2) (a:=⟨bc,oc+m,none⟩) (Below.heap_setCell _ _ _ _ (by simp only;omega))).trans x2'
  clear c0 c1 c2 f2 x2' hw3 O3 NB3;obtain⟨c0,c1,c2,c3⟩:=zfw NB4.o;clear c3
  go_quiet (fail)
  go_wp2;go_ret;rw[EE.o.1,EE.o.2];exact⟨rfl,HS.o.set (O4.o.drewN _) (by omega) (by omega) (by rw[zec];exact NB4.o),O4.o.drewN _,by rw[zec];exact hz3⟩
 ·have cc:¬ ((m:Int)+1)<=(bs.length:Int):=by omega
  clear hcC
  go_quiet (fail)
  go_wp2
  ·go_ret;obtain⟨E1,E2⟩:=yaaq seed c (by omega);rw[E1,E2];exact⟨rfl,HS.o.set (O1.o.drewN _) (by omega) (by omega) (by rw[zec];exact NB.o),O1.o.drewN _,by rw[zec];exact hz1⟩
  ·go_ret;have O3:=(O1.o.drewN nq).setCell (a:=⟨b,2,none⟩) zL (by simp) (.I ((seed*1103515245+12345)%2147483648));obtain⟨E1,E2⟩:=ztr seed c (by omega);rw[E1,E2];refine⟨rfl,HS.o.set O3 (by omega) (by omega) (yabd (by rw[zec];exact NB.o) _),O3,by rw[size_set,zec];exact hz1⟩
theorem yaoc{w:World}{v:Value}{bs:List Int}(h:RdB w v bs)(m:Nat)(seed:Int):0<=zru bs m seed/\zru bs m seed<256:=by
 by_cases c:m<bs.length
 ·rw[(yajy seed c).1];exact h.2 m c
 ·by_cases c2:3000<m+1
  ·rw[(yaaq seed c c2).1];omega
  ·rw[(ztr seed c c2).1];omega
theorem zgq(w0 w:World)(b k:Nat)(vC:Value)(bs:List Int)(h:Src w0 w b vC bs k)(hk:k<=1000000) :
  zC 103 #[.pointer (some ⟨b,0,none⟩)] w fun e w'=>∃ r:Int,e=.returned (.I r)/\0<=r/\r<256/\Src w0 w' b vC bs (k+1)/\Outside b (b+1) w w'/\w'.heap.size=w.heap.size:=by
 obtain⟨at_,seed,a0,a1,s0,s1,hblk⟩:=h.cells
 obtain⟨m,rfl⟩:∃ m:Nat,at_=m:=⟨at_.toNat,by omega⟩
 have bd:=yaoc h.code m seed;refine(zry w0 w b m vC bs seed ⟨h.set (Outside.refl _ _ _) a0 (Int.le_refl _) s0 s1 hblk,s0,s1,hblk⟩ (by omega)).mono ?_;rintro e w' ⟨rfl,h1,h2,h3⟩;exact⟨_,rfl,bd.1,bd.2,h1.src.more (by omega),h2,h3⟩
theorem zbp(n:Int)(hn:2<=n/\n<=1000)(w0 w:World)(b k:Nat)(vC:Value)(bs:List Int)(h:Src w0 w b vC bs k)(hk:k<=900000) :
  zC 49 #[.pointer (some ⟨b,0,none⟩),.I n] w fun e w'=>∃ r:Int,e=.returned (.I r)/\0<=r/\r<n/\Src w0 w' b vC bs (k+3)/\Outside b (b+1) w w'/\w'.heap.size=w.heap.size:=by
 have HS:=zaa h;clear h
 by_cases c:n<=256
 ·go_enter Tryz.func49,Tryz.ntmps49;go_wp2_with fail;refine(zgq w0 w b k vC bs HS.o (by omega)).mono ?_;rintro e w1 ⟨r,rfl,r0,r1,hs,ho,hz⟩;have S1:=zaa hs;have O1:=zaa ho;clear hs ho;go_wp2;go_ret;exact⟨_,rfl,Int.emod_nonneg _ (by omega),Int.emod_lt_of_pos _ (by omega),S1.o.more (by omega),O1.o,hz⟩
 ·go_enter Tryz.func49,Tryz.ntmps49;go_wp2_with fail;refine(zgq w0 w b k vC bs HS.o (by omega)).mono ?_;rintro e w1 ⟨r,rfl,r0,r1,hs,ho,hz⟩;have S1:=zaa hs;have O1:=zaa ho;clear hs ho;go_wp2_with fail;refine(zgq w0 w1 b (k+1) vC bs S1.o (by omega)).mono ?_;rintro e w2 ⟨r',rfl,r2,r3,hs,ho,hz2⟩;have S2:=zaa hs;have O2:=zaa (O1.o.trans ho);clear hs ho;go_wp2_with fail;refine(zgq w0 w2 b (k+2) vC bs S2.o (by omega)).mono ?_;rintro e w3 ⟨r'',rfl,r4,r5,hs,ho,hz3⟩;have S3:=zaa hs;have O3:=zaa (O2.o.trans ho);clear hs ho;go_wp2;go_ret;exact⟨_,rfl,Int.emod_nonneg _ (by omega),Int.emod_lt_of_pos _ (by omega),S3.o,O3.o,by omega⟩
theorem yaft{w w':World}{cs:Array Value}{t:TypeId}{lo hi:Nat}(ho:Outside lo hi (w.alloc (.cells cs t)) w')(hl:hi<=w.heap.size):w'.heap[w.heap.size]?=some (.cells cs t (0,0)) :=
 (ho.block w.heap.size (by simp) (.inr hl)).trans (zah rfl)
theorem zms(w0 w:World)(b k:Nat)(vC:Value)(bs:List Int)(h:Src w0 w b vC bs k)(hk:k<=800000) :
  zC 55 #[.pointer (some ⟨b,0,none⟩)] w fun e w'=>∃ r:Int,e=.returned (.I r)/\0<=r/\r<1099511627776/\Src w0 w' b vC bs (k+9)/\Outside b (b+1) w w':=by
 have HS:=zaa h;have hsz:=h.size;clear h;go_enter Tryz.func55,Tryz.ntmps55;go_wp2_with fail;refine(zbp 9 (by omega) w0 w b k vC bs HS.o (by omega)).mono ?_;rintro e w1 ⟨r,rfl,r0,r1,hs,ho,hz⟩;have S1:=zaa hs;have O1:=zaa ho;clear hs ho;go_wp2_with fail;refine(zbp 1000 (by omega) w0 w1 b (k+3) vC bs S1.o (by omega)).mono ?_;rintro e w2 ⟨r',rfl,r2,r3,hs,ho,hz2⟩;have S2:=zaa (hs.newer (zR.alloc zL (.cells #[.I r,.I r',.I 1099511627775] 3)));have O2:=zaa ((O1.o.trans ho).trans (Outside.of_below (zR.alloc zL (.cells #[.I r,.I r',.I 1099511627775] 3))));clear hs ho;go_wp2_with fail;refine(zbp 9 (by omega) w0 _ b (k+6) vC bs S2.o (by omega)).mono ?_;rintro e w3 ⟨r'',rfl,r4,r5,hs,ho,hz3⟩;obtain⟨c0,c1,c2,_⟩:=zfw (yaft ho (by omega));rw[hz2,hz]at c0 c1 c2;have S3:=zaa hs;have O3:=zaa (O2.o.trans ho);clear hs ho
 rcases(show r'' / 4=0\/r'' / 4=1\/r'' / 4=2 by omega)with e | e | e
 ·go_wp2;go_ret;exact⟨_,rfl,by omega,by omega,S3.o,O3.o⟩
 ·go_wp2;go_ret;exact⟨_,rfl,by omega,by omega,S3.o,O3.o⟩
 ·go_wp2;go_ret;exact⟨_,rfl,by omega,by omega,S3.o,O3.o⟩
theorem zjf(v:Value)(bs:List Int)(w:World)(h:RdB w v bs)(hl:bs.length<=1048576) :
  zC 20 #[v] w fun e w'=>e=.returned (.pointer (some ⟨w.heap.size,0,none⟩))/\SrcE w w' w.heap.size v bs 0 ((bs.length:Int)%1000)/\zB w w':=by
 have H:=zaa h;obtain⟨aC,cC,rfl,_⟩:=h.shape;clear h
 have hm:(0:Int)<=(bs.length:Int):=by omega
 go_enter Tryz.func20,Tryz.ntmps20;go_wp2;go_ret;refine⟨rfl,⟨⟨H.o,hl,Nat.le_refl _,zR.alloc zL _,by simp,0,(bs.length:Int)%1000,by omega,by omega,by omega,by omega,zah rfl⟩,by omega,by omega,zah rfl⟩,zR.alloc zL _⟩
end Go.Proofs.YtogcbbkhnpmgeaaGreatDoor
