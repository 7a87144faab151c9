import Derived.Test.YtogcbbkhnpmgeaaGreatDoorZAS
set_option maxRecDepth 100000
set_option maxHeartbeats 4000000
namespace Go.Proofs.YtogcbbkhnpmgeaaGreatDoor
open Go.RowKit
def zcw(x:Ino):Ino:=if 1<x.links then⟨x.kind,x.size,x.links-1,x.m0,x.m1,x.m2,x.m3,x.m4,x.m5,x.m6,x.m7⟩else zbb
def zin(x:Ino):Ino:=⟨x.kind,x.size,x.links+1,x.m0,x.m1,x.m2,x.m3,x.m4,x.m5,x.m6,x.m7⟩
theorem zch{x:Ino}(h:zed x=true):(0<=x.kind/\x.kind<=2)/\(0<=x.size/\x.size<=8)/\(0<=x.links/\x.links<=24)/\mapB x.map x.size=true/\zfm x=true:=by
 unfold zed at h;simp only[Bool.and_eq_true,decide_eq_true_eq]at h;exact h
theorem yagh{x:Ino}(h1:0<=x.kind/\x.kind<=2)(h2:0<=x.size/\x.size<=8)(h3:0<=x.links/\x.links<=24)(h4:mapB x.map x.size=true)(h5:zfm x=true):zed x=true:=by
 unfold zed;rw[decide_eq_true h1,decide_eq_true h2,decide_eq_true h3,h4,h5];rfl
theorem zmk{x:Ino}(h:zed x=true)(k:x.kind=2):x.links=1/\x.size=0:=by
 have:=(zch h).2.2.2.2;unfold zfm at this;rw[if_neg (by omega),if_pos k]at this;simp only[Bool.and_eq_true,beq_iff_eq]at this;exact⟨this.2,this.1⟩
theorem yaiq{x:Ino}(h:zed x=true)(k:¬ x.kind=0):0<x.links:=by
 by_cases q:x.kind=2
 ·rw[(zmk h q).1];decide
 ·have:=(zch h).2.2.2.2;unfold zfm at this;rw[if_neg k,if_neg q]at this;simpa using this
theorem ybaf{x:Ino}(h:zed x=true):zed (zcw x)=true:=by
 unfold zcw
 split
 ·rename_i q;obtain⟨a,b,c,d,e⟩:=zch h
  have k2:¬ x.kind=2:=fun k=>by have:=(zmk h k).1;omega
  have k0:¬ x.kind=0:=by
   intro k;unfold zfm at e;rw[if_pos k]at e;have:=(of_decide_eq_true e).2.1;omega
  refine yagh a b ⟨by show 0<=x.links-1;omega,by show x.links-1<=24;omega⟩ d ?_;unfold zfm;rw[if_neg k0,if_neg k2];exact decide_eq_true (show 0<x.links-1 by omega)
 ·decide
theorem yayq{x:Ino}(h:zed x=true)(k:x.kind=1)(l:x.links<24):zed (zin x)=true:=by
 obtain⟨a,b,c,d,e⟩:=zch h;refine yagh a b ⟨by show 0<=x.links+1;omega,by show x.links+1<=24;omega⟩ d ?_;unfold zfm;rw[if_neg (by show ¬ x.kind=0;omega),if_neg (by show ¬ x.kind=2;omega)];exact decide_eq_true (show 0<x.links+1 by omega)
theorem yaoj{x:Ino}:(zdw (zcw x).map).Sublist (zdw x.map):=by
 unfold zcw
 split
 ·exact List.Sublist.refl _
 ·exact List.nil_sublist _
theorem ybcx(ps:List Den)(c:Int):zlr ps c<=ps.length:=List.length_filter_le _ _
theorem yarn{ps:List Den}{c:Int}{k:Nat}(hk:k<ps.length)(ne:¬ (zaz ps k).child=c):zlr ps c<ps.length:=by
 have a:=zij ps k ⟨0,⟨#[]⟩,c⟩ c hk;rw[if_neg ne,if_pos rfl]at a;have:=ybcx (ps.set k ⟨0,⟨#[]⟩,c⟩) c;rw[List.length_set]at this;omega
theorem yahy{ws:List Ino}{ps:List Den}(h:Img ws ps){i k:Nat}(hk:k<24)(ci:(zaz ps k).child=(i:Int))(em:∀ j,j<24->¬ (0<=(zaz ps j).child/\(zaz ps j).dir=(i:Int))) :
  Img (ws.set i (zcw (zan ws i))) (ps.set k freeD):=by
 have hk':k<ps.length:=by rw[h.l24];exact hk
 have ek:zja ws (zaz ps k):=by
  rcases h.ent k hk with q | q
  ·rw[q]at ci;have:(-1:Int)=(i:Int):=ci;omega
  ·exact q
 have hi:i<16:=by have:=ek.1;omega
 have i0:¬ i=0:=by have:=ek.1;omega
 have hi':i<ws.length:=by rw[h.l16];exact hi
 have ki:¬ (zan ws i).kind=0:=by rw[<- zbq,<- ci];exact ek.2.2.2.1
 have KA:=fun c hc=>zpl hi' (zcw (zan ws i)) c hc
 have noin:∀ c,0<=c->0<=upD ps c->¬ upD ps c=(i:Int):=by
  intro c hc hu e;obtain⟨j,hj,cj,dj,q⟩:=yawz h.ent' hc hu;exact em j (by rw[h.l24]at hj;exact hj) ⟨by omega,by rw[dj,e]⟩
 have ln:=h.links i hi;rw[if_neg i0]at ln
 have entn:∀ j,j<24->zaz (ps.set k freeD) j=freeD\/zja (ws.set i (zcw (zan ws i))) (zaz (ps.set k freeD) j):=by
  intro j hj;rw[zbf hk']
  by_cases e:j=k
  ·rw[if_pos e];exact .inl rfl
  ·rw[if_neg e]
   rcases h.ent j hj with q | q
   ·exact .inl q
   ·right
    have dne:¬ (zaz ps j).dir=(i:Int):=fun e=>em j hj ⟨by have:=q.1;omega,e⟩
    obtain⟨q1,q2,q3,q4,q5⟩:=q;refine⟨q1,q2,q3,?_,?_⟩
    ·rw[KA _ (by omega)]
     by_cases e2:(zaz ps j).child=(i:Int)
     ·rw[if_pos e2]
      have two:1<(zan ws i).links:=by
       have a:=zij ps k freeD (i:Int) hk';rw[if_pos ci,if_neg (show ¬ freeD.child=(i:Int) by show ¬ (-1:Int)=(i:Int);omega)]at a
       have b:¬ zlr (ps.set k freeD) (i:Int)=0:=by
        intro z;refine zpu z j (by rw[List.length_set,h.l24];exact hj) ?_;rw[zbf hk',if_neg e];exact e2
       omega
      unfold zcw;rw[if_pos two];exact ki
     ·rw[if_neg e2];exact q4
    ·rw[KA _ q2.1,if_neg dne];exact q5
 have entn':∀ j,j<(ps.set k freeD).length->zaz (ps.set k freeD) j=freeD\/zja (ws.set i (zcw (zan ws i))) (zaz (ps.set k freeD) j):=fun j hj=>entn j (by rw[List.length_set,h.l24]at hj;exact hj)
 have US:∀ c,0<=c->¬ c=(i:Int)->upD (ps.set k freeD) c=upD ps c:=by
  intro c hc ne;refine zvd (by simp) ?_;intro j hj;rw[zbf hk']
  by_cases e:j=k
  ·rw[if_pos e];right;refine⟨?_,?_⟩
   ·intro q;have:(-1:Int)=c:=q;omega
   ·rw[e,ci];exact fun q=>ne q.symm
  ·rw[if_neg e];exact .inl rfl
 refine⟨by rw[List.length_set];exact h.l16,by rw[List.length_set];exact h.l24,?_,?_,entn,?_,?_,?_,?_⟩
 ·rw[KA 0 (by omega),if_neg (by omega)];exact h.root
 ·intro j hj;rw[zcy hi']
  by_cases e:j=i
  ·rw[if_pos e];exact ybaf (h.ok i hi)
  ·rw[if_neg e];exact h.ok j hj
 ·intro j l hj hl cj cl ed en;rw[zbf hk']at cj ed en;rw[zbf hk' _ l]at cl ed en
  have e1:¬ j=k:=by
   intro e;rw[if_pos e]at cj;exact absurd cj (by decide)
  have e2:¬ l=k:=by
   intro e;rw[if_pos e]at cl;exact absurd cl (by decide)
  rw[if_neg e1,if_neg e2]at ed en;rw[if_neg e1]at cj;rw[if_neg e2]at cl;exact h.once j l hj hl cj cl ed en
 ·intro j hj;have c:=zij ps k freeD (j:Int) hk';rw[if_neg (show ¬ freeD.child=(j:Int) by show ¬ (-1:Int)=(j:Int);omega)]at c;rw[zcy hi']
  by_cases e:j=i
  ·rw[if_pos (show(zaz ps k).child=(j:Int) by rw[ci];omega)]at c;rw[if_pos e,if_neg (by omega)];have l1:=yaiq (h.ok i hi) ki;rw[e]at c ⊢;unfold zcw
   by_cases two:1<(zan ws i).links
   ·rw[if_pos two]
    show 0+((zlr _ (i:Int):Nat):Int)=(zan ws i).links-1
    omega
   ·rw[if_neg two]
    show 0+((zlr _ (i:Int):Nat):Int)=0
    omega
  ·rw[if_neg (show ¬ (zaz ps k).child=(j:Int) by rw[ci];omega)]at c;rw[if_neg e,<- h.links j hj]
   have:zlr (ps.set k freeD) (j:Int)=zlr ps (j:Int):=by omega
   rw[this]
 ·intro j hj kj;rw[zcy hi']at kj
  have e:¬ j=i:=by
   intro e;rw[if_pos e]at kj;unfold zcw at kj
   split at kj
   ·rename_i two;have:=(zmk (h.ok i hi) kj).1;omega
   ·exact absurd kj (by decide)
  rw[if_neg e]at kj;refine zpq ?_ ⟨by omega,by omega⟩ (yaus entn');exact zpj (G:=fun c=>0<=c) (i:=(i:Int)) (fun c hc hu=>⟨noin c hc hu,hu⟩) (fun c hc ne=>US c hc ne) (h.rch hj kj) (by omega) (by omega)
 ·exact zpe hi' h.sing yaoj
theorem yatx {ws:List Ino} {ps:List Den} (h:Img ws ps) {i k:Nat} {d:Int} {nm:ByteArray} (hi:i<16) (i0:¬ i=0) (ki:(zan ws i).kind=1) (hk:k<24) (fk:zaz ps k=freeD)
  (hd:0<=d/\d<=15) (dd:zaj ws d=2) (hn:nmB nm=true) (new:∀ j,j<24->0<=(zaz ps j).child->(zaz ps j).dir=d->¬ (zaz ps j).name=nm) :
  Img (ws.set i (zin (zan ws i))) (ps.set k ⟨d,nm,(i:Int)⟩):=by
 have hi':i<ws.length:=by rw[h.l16];exact hi
 have hk':k<ps.length:=by rw[h.l24];exact hk
 have KA:∀ c,0<=c->zaj (ws.set i (zin (zan ws i))) c=zaj ws c:=by
  intro c hc;rw[zpl hi' _ c hc]
  by_cases e:c=(i:Int)
  ·rw[if_pos e,e,zbq];rfl
  ·rw[if_neg e]
 have room:=yarn (c:=(i:Int)) hk' (by rw[fk];show ¬ (-1:Int)=(i:Int);omega);have ln:=h.links i hi;rw[if_neg i0]at ln
 have entn:∀ j,j<24->zaz (ps.set k ⟨d,nm,(i:Int)⟩) j=freeD\/zja (ws.set i (zin (zan ws i))) (zaz (ps.set k ⟨d,nm,(i:Int)⟩) j):=by
  intro j hj;rw[zbf hk']
  by_cases e:j=k
  ·rw[if_pos e];right;refine⟨⟨?_,?_⟩,hd,hn,?_,?_⟩
   ·show 1<=(i:Int);omega
   ·show(i:Int)<=15;omega
   ·show ¬ zaj _ (i:Int)=0
    rw[KA _ (by omega),zbq,ki];decide
   ·show zaj _ d=2
    rw[KA _ hd.1];exact dd
  ·rw[if_neg e]
   rcases h.ent j hj with q | q
   ·exact .inl q
   ·right;obtain⟨q1,q2,q3,q4,q5⟩:=q;exact⟨q1,q2,q3,by rw[KA _ (by omega)];exact q4,by rw[KA _ q2.1];exact q5⟩
 have entn':∀ j,j<(ps.set k ⟨d,nm,(i:Int)⟩).length->zaz (ps.set k ⟨d,nm,(i:Int)⟩) j=freeD\/zja (ws.set i (zin (zan ws i))) (zaz (ps.set k ⟨d,nm,(i:Int)⟩) j):=fun j hj=>entn j (by rw[List.length_set,h.l24]at hj;exact hj)
 have US:∀ c,0<=c->¬ c=(i:Int)->upD (ps.set k ⟨d,nm,(i:Int)⟩) c=upD ps c:=by
  intro c hc ne;refine zvd (by simp) ?_;intro j hj;rw[zbf hk']
  by_cases e:j=k
  ·rw[if_pos e];right;refine⟨fun q=>ne q.symm,?_⟩;rw[e,fk];intro q;have:(-1:Int)=c:=q;omega
  ·rw[if_neg e];exact .inl rfl
 refine⟨by rw[List.length_set];exact h.l16,by rw[List.length_set];exact h.l24,?_,?_,entn,?_,?_,?_,?_⟩
 ·rw[KA 0 (by omega)];exact h.root
 ·intro j hj;rw[zcy hi']
  by_cases e:j=i
  ·rw[if_pos e];refine yayq (h.ok i hi) ki ?_;have:=h.l24;omega
  ·rw[if_neg e];exact h.ok j hj
 ·intro j l hj hl cj cl ed en;rw[zbf hk']at cj ed en;rw[zbf hk' _ l]at cl ed en
  by_cases e1:j=k
  ·by_cases e2:l=k
   ·omega
   ·rw[if_pos e1,if_neg e2]at ed en;rw[if_neg e2]at cl;exact absurd en.symm (new l hl cl ed.symm)
  ·by_cases e2:l=k
   ·rw[if_neg e1,if_pos e2]at ed en;rw[if_neg e1]at cj;exact absurd en (new j hj cj ed)
   ·rw[if_neg e1,if_neg e2]at ed en;rw[if_neg e1]at cj;rw[if_neg e2]at cl;exact h.once j l hj hl cj cl ed en
 ·intro j hj;have c:=zij ps k ⟨d,nm,(i:Int)⟩ (j:Int) hk';rw[fk,if_neg (show ¬ freeD.child=(j:Int) by show ¬ (-1:Int)=(j:Int);omega)]at c;rw[zcy hi']
  by_cases e:j=i
  ·rw[if_pos (show(i:Int)=(j:Int) by omega)]at c;rw[if_pos e,if_neg (by omega)];rw[e]at c ⊢
   show 0+((zlr _ (i:Int):Nat):Int)=(zan ws i).links+1
   omega
  ·rw[if_neg (show ¬ (i:Int)=(j:Int) by omega)]at c;rw[if_neg e,<- h.links j hj]
   have:zlr (ps.set k ⟨d,nm,(i:Int)⟩) (j:Int)=zlr ps (j:Int):=by omega
   rw[this]
 ·intro j hj kj;rw[zcy hi']at kj
  have e:¬ j=i:=by
   intro e;rw[if_pos e]at kj;have:(zan ws i).kind=2:=kj;omega
  rw[if_neg e]at kj;refine zpq ?_ ⟨by omega,by omega⟩ (yaus entn');refine zpj (G:=fun c=>0<=c) (i:=(i:Int)) (fun c hc hu=>⟨?_,hu⟩) (fun c hc ne=>US c hc ne) (h.rch hj kj) (by omega) (by omega);intro e;have:=(h.dir hc hu).1;rw[e,zbq,ki]at this
  cases this
 ·refine zpe hi' h.sing ?_;exact List.Sublist.refl _
theorem yaja {ws:List Ino} {ps:List Den} (h:Img ws ps) {i k:Nat} {d:Int} {nm:ByteArray} (hk:k<24) (ci:(zaz ps k).child=(i:Int))
  (hd:0<=d/\d<=15) (dd:zaj ws d=2) (hn:nmB nm=true) (new:∀ j,j<24->0<=(zaz ps j).child->(zaz ps j).dir=d->¬ (zaz ps j).name=nm)
  (loop:¬ (zaj ws (i:Int)=2/\ziv ps 17 d (i:Int)=true)) :
  Img ws (ps.set k ⟨d,nm,(i:Int)⟩):=by
 have hk':k<ps.length:=by rw[h.l24];exact hk
 have ek:zja ws (zaz ps k):=by
  rcases h.ent k hk with q | q
  ·rw[q]at ci;have:(-1:Int)=(i:Int):=ci;omega
  ·exact q
 have hi:i<16:=by have:=ek.1;omega
 have i0:¬ i=0:=by have:=ek.1;omega
 have entn:∀ j,j<24->zaz (ps.set k ⟨d,nm,(i:Int)⟩) j=freeD\/zja ws (zaz (ps.set k ⟨d,nm,(i:Int)⟩) j):=by
  intro j hj;rw[zbf hk']
  by_cases e:j=k
  ·rw[if_pos e];right;refine⟨⟨by show 1<=(i:Int);omega,by show(i:Int)<=15;omega⟩,hd,hn,?_,dd⟩
   show ¬ zaj ws (i:Int)=0
   rw[<- ci];exact ek.2.2.2.1
  ·rw[if_neg e];exact h.ent j hj
 have entn':∀ j,j<(ps.set k ⟨d,nm,(i:Int)⟩).length->zaz (ps.set k ⟨d,nm,(i:Int)⟩) j=freeD\/zja ws (zaz (ps.set k ⟨d,nm,(i:Int)⟩) j):=fun j hj=>entn j (by rw[List.length_set,h.l24]at hj;exact hj)
 have US:∀ c,0<=c->¬ c=(i:Int)->upD (ps.set k ⟨d,nm,(i:Int)⟩) c=upD ps c:=by
  intro c hc ne;refine zvd (by simp) ?_;intro j hj;rw[zbf hk']
  by_cases e:j=k
  ·rw[if_pos e];right;refine⟨fun q=>ne q.symm,?_⟩;rw[e,ci]
   exact fun q=>ne q.symm
  ·rw[if_neg e];exact .inl rfl
 have CN:∀ c:Int,zlr (ps.set k ⟨d,nm,(i:Int)⟩) c=zlr ps c:=by
  intro c;have a:=zij ps k ⟨d,nm,(i:Int)⟩ c hk';rw[ci]at a;have b:(if (i:Int)=c then(1:Nat)else 0)=(if (Den.mk d nm (i:Int)).child=c then 1 else 0):=rfl;omega
 have ALL:∀ c,Rch ps c->0<=c->zaj ws c=2->Rch (ps.set k ⟨d,nm,(i:Int)⟩) c:=by
  by_cases ki:zaj ws (i:Int)=2
  ·have nb:ziv ps 17 d (i:Int)=false:=by
    cases q:ziv ps 17 d (i:Int) with
    | false=>rfl
    | true=>exact absurd ⟨ki,q⟩ loop
   have UI:upD (ps.set k ⟨d,nm,(i:Int)⟩) (i:Int)=d:=by
    have one:zlr ps (i:Int)=1:=by
     have l:=h.links i hi;rw[if_neg i0,(zmk (h.ok i hi) (by rw[<- zbq];exact ki)).1]at l;omega
    have q:=yakl (ps:=ps.set k ⟨d,nm,(i:Int)⟩) (c:=(i:Int)) (k:=k) (by rw[List.length_set];exact hk') (by rw[zbf hk',if_pos rfl]) (fun j hj e=>by
     rw[List.length_set]at hj;rw[zbf hk']at e
     by_cases ej:j=k
     ·exact ej
     ·rw[if_neg ej]at e
      exact yayz one hj hk' e ci)
    rw[q,zbf hk',if_pos rfl]
   obtain⟨dn,rfl⟩:∃ n:Nat,d=(n:Int):=⟨d.toNat,by omega⟩
   have rd:Rch (ps.set k ⟨(dn:Int),nm,(i:Int)⟩) (dn:Int):=zun US 16 _ (h.hang dn (by omega) (by rw[<- zbq];exact dd)) (by omega) nb;have ri:Rch (ps.set k ⟨(dn:Int),nm,(i:Int)⟩) (i:Int):=zma (by rw[UI];omega) (by rw[UI];exact rd);intro c hr hc _
   have:0<=c->Rch (ps.set k ⟨(dn:Int),nm,(i:Int)⟩) c:=by
    refine yald (P:=fun c=>0<=c->Rch (ps.set k ⟨(dn:Int),nm,(i:Int)⟩) c) hr (fun _=>zwa _) ?_;intro c c0 cu ih hc
    by_cases e:c=(i:Int)
    ·rw[e];exact ri
    ·have u:=US c hc e;refine zma (by rw[u];exact cu) ?_;rw[u];exact ih cu
   exact this hc
  ·intro c hr hc kc;refine zpj (G:=fun c=>0<=c) (i:=(i:Int)) (fun c hc hu=>⟨?_,hu⟩) (fun c hc ne=>US c hc ne) hr hc (fun e=>ki (by rw[<- e];exact kc));intro e;have:=(h.dir hc hu).1;rw[e]at this;exact ki this
 refine⟨h.l16,by rw[List.length_set];exact h.l24,h.root,h.ok,entn,?_,?_,?_,h.sing⟩
 ·intro j l hj hl cj cl ed en;rw[zbf hk']at cj ed en;rw[zbf hk' _ l]at cl ed en
  by_cases e1:j=k
  ·by_cases e2:l=k
   ·omega
   ·rw[if_pos e1,if_neg e2]at ed en;rw[if_neg e2]at cl;exact absurd en.symm (new l hl cl ed.symm)
  ·by_cases e2:l=k
   ·rw[if_neg e1,if_pos e2]at ed en;rw[if_neg e1]at cj;exact absurd en (new j hj cj ed)
   ·rw[if_neg e1,if_neg e2]at ed en;rw[if_neg e1]at cj;rw[if_neg e2]at cl;exact h.once j l hj hl cj cl ed en
 ·intro j hj;rw[CN];exact h.links j hj
 ·intro j hj kj;refine zpq ?_ ⟨by omega,by omega⟩ (yaus entn');exact ALL _ (h.rch hj kj) (by omega) (by rw[zbq];exact kj)
def inoM(kind size links:Int)(zs:List Int):Ino:=⟨kind,size,links,zs.getD 0 0,zs.getD 1 0,zs.getD 2 0,zs.getD 3 0,zs.getD 4 0,zs.getD 5 0,zs.getD 6 0,zs.getD 7 0⟩
theorem zpb{kind size links:Int}{zs:List Int}(h:zs.length=8):(inoM kind size links zs).map=zs:=by
 match zs,h with
 | [a,b,c,d,e,f,g,i],_=>rfl
theorem yaay{ws:List Ino}{ps:List Den}(h:Img ws ps){i:Nat}{x:Ino}(hi:i<16)(kx:x.kind=(zan ws i).kind)(lx:x.links=(zan ws i).links)(ox:zed x=true)(sx:(zam (ws.set i x)).Pairwise fun x y=>x≠y) :
  Img (ws.set i x) ps:=by
 have hi':i<ws.length:=by rw[h.l16];exact hi
 have KA:∀ c,0<=c->zaj (ws.set i x) c=zaj ws c:=by
  intro c hc;rw[zpl hi' _ c hc]
  by_cases e:c=(i:Int)
  ·rw[if_pos e,e,zbq,kx]
  ·rw[if_neg e]
 refine⟨by rw[List.length_set];exact h.l16,h.l24,?_,?_,?_,h.once,?_,?_,sx⟩
 ·rw[KA 0 (by omega)];exact h.root
 ·intro j hj;rw[zcy hi']
  by_cases e:j=i
  ·rw[if_pos e];exact ox
  ·rw[if_neg e];exact h.ok j hj
 ·intro k hk
  rcases h.ent k hk with q | q
  ·exact .inl q
  ·obtain⟨q1,q2,q3,q4,q5⟩:=q;exact .inr ⟨q1,q2,q3,by rw[KA _ (by omega)];exact q4,by rw[KA _ q2.1];exact q5⟩
 ·intro j hj;rw[zcy hi']
  by_cases e:j=i
  ·rw[if_pos e,lx,<- e];exact h.links j hj
  ·rw[if_neg e];exact h.links j hj
 ·intro j hj kj;rw[zcy hi']at kj
  by_cases e:j=i
  ·rw[if_pos e,kx,<- e]at kj;exact h.hang j hj kj
  ·rw[if_neg e]at kj;exact h.hang j hj kj
theorem yaos{l:List Int}{p:Nat}{e:Int}(hp:p<l.length)(he:¬ e=0):zdw (l.set p e)=zdw (l.take p)++[e]++zdw (l.drop (p+1)):=by
 unfold zdw;rw[List.set_eq_take_append_cons_drop,if_pos hp,List.filter_append,List.filter_cons,if_pos (by simpa using he),List.append_assoc];rfl
theorem yads{l:List Int}{p:Nat}(hp:p<l.length):(zdw (l.take p)++zdw (l.drop (p+1))).Sublist (zdw l):=by
 unfold zdw;rw[<- List.filter_append];apply List.Sublist.filter
 have:l=l.take p++(l[p]::l.drop (p+1)):=by rw[<- List.drop_eq_getElem_cons hp,List.take_append_drop]
 conv=>rhs;rw[this]
 exact List.Sublist.append (List.Sublist.refl _) (List.sublist_cons_self _ _)
theorem yasx{ws:List Ino}{i p:Nat}{e:Int}{x:Ino}(hi:i<ws.length)(hp:p<8)(he:¬ e=0)(s:(zam ws).Pairwise fun x y=>x≠y)(new:¬ e∈zam ws)(hx:x.map=(zan ws i).map.set p e):(zam (ws.set i x)).Pairwise fun x y=>x≠y:=by
 have hl:p<(zan ws i).map.length:=hp;rw[znr hi,hx,yaos hl he];rw[zon hi]at s new
 have sub:(zam (ws.take i)++(zdw ((zan ws i).map.take p)++zdw ((zan ws i).map.drop (p+1)))++zam (ws.drop (i+1))).Sublist (zam (ws.take i)++zdw (zan ws i).map++zam (ws.drop (i+1))) :=
  List.Sublist.append (List.Sublist.append (List.Sublist.refl _) (yads hl)) (List.Sublist.refl _)
 have s2:=s.sublist sub
 have new2:¬ e∈zam (ws.take i)++(zdw ((zan ws i).map.take p)++zdw ((zan ws i).map.drop (p+1)))++zam (ws.drop (i+1)):=fun q=>new (sub.subset q)
 generalize zam (ws.take i)=A at *;generalize zdw ((zan ws i).map.take p)=P at *;generalize zdw ((zan ws i).map.drop (p+1))=Q at *;generalize zam (ws.drop (i+1))=B at *
 have e1:A++(P++[e]++Q)++B=(A++P)++e::(Q++B):=by simp
 have e2:A++(P++Q)++B=(A++P)++(Q++B):=by simp
 rw[e2]at s2 new2;rw[e1];rw[List.pairwise_append]at s2 ⊢;refine⟨s2.1,?_,?_⟩
 ·rw[List.pairwise_cons];exact⟨fun y hy q=>new2 (by rw[List.mem_append];right;rw[q];exact hy),s2.2.1⟩
 ·intro a ha b hb;rw[List.mem_cons]at hb
  rcases hb with rfl | hb
  ·intro q;exact new2 (by rw[List.mem_append];left;rw[<- q];exact ha)
  ·exact s2.2.2 a ha b hb
theorem yaxb(x:Ino):x.map.length=8:=rfl
theorem ybcv{x:Ino}{p:Nat}{e sz:Int}(h:zed x=true)(k:x.kind=1)(hp:p<8)(te:zer e=true)(sx:x.size<=sz)(s8:sz<=8)(ps:(p:Int)<sz):zed (inoM x.kind sz x.links (x.map.set p e))=true:=by
 obtain⟨a,b,c,d,f⟩:=zch h;refine yagh a ⟨by show 0<=sz;omega,s8⟩ c ?_ ?_
 ·rw[zpb (by rw[List.length_set];rfl)];apply zvp;intro j hj;have q:=zle d j hj
  show ztw j ((x.map.set p e).getD j 0) sz=true
  rw[List.getD_eq_getElem?_getD,List.getElem?_set]
  by_cases e1:p=j
  ·subst e1;rw[if_pos rfl,if_pos (by rw[yaxb];exact hp)]
   show ztw p e sz=true
   unfold ztw;rw[te,decide_eq_true ps];simp
  ·rw[if_neg e1];unfold ztw at q ⊢;rw[List.getD_eq_getElem?_getD]at q;rw[Bool.and_eq_true,Bool.or_eq_true]at q ⊢;refine⟨q.1,?_⟩
   rcases q.2 with r | r
   ·exact .inl r
   ·right
    have:(j:Int)<x.size:=by simpa using r
    simp only[decide_eq_true_eq];omega
 ·unfold zfm at f ⊢;rw[if_neg (by omega),if_neg (by omega)]at f;rw[if_neg (by show ¬ x.kind=0;omega),if_neg (by show ¬ x.kind=2;omega)];exact f
theorem yanl{ws:List Ino}{ps:List Den}(h:Img ws ps){i p:Nat}{e sz:Int}(hi:i<16)(k:(zan ws i).kind=1)(hp:p<8)(te:zer e=true)(he:¬ e=0)(new:¬ e∈zam ws)(hsz:sz=if (p:Int)<(zan ws i).size then(zan ws i).size else(p:Int)+1) :
  Img (ws.set i (inoM (zan ws i).kind sz (zan ws i).links ((zan ws i).map.set p e))) ps:=by
 have o:=zch (h.ok i hi);refine yaay h hi rfl rfl (ybcv (h.ok i hi) k hp te ?_ ?_ ?_) (yasx (by rw[h.l16];exact hi) hp he h.sing new (zpb (by rw[List.length_set];rfl)))
 ·rw[hsz];split<;>omega
 ·rw[hsz];split<;>omega
 ·rw[hsz];split<;>omega
theorem yarh{x:Ino}(h:zed x=true){p:Nat}(hp:p<8)(e:¬ x.map.getD p 0=0):(p:Int)<x.size/\x.kind=1:=by
 obtain⟨a,b,c,d,f⟩:=zch h;have q:=zle d p hp;unfold ztw at q;rw[Bool.and_eq_true,Bool.or_eq_true,beq_iff_eq,decide_eq_true_eq]at q
 have s:(p:Int)<x.size:=by
  rcases q.2 with r | r
  ·exact absurd r e
  ·exact r
 refine⟨s,?_⟩;unfold zfm at f
 by_cases k0:x.kind=0
 ·rw[if_pos k0]at f;have:=(of_decide_eq_true f).1;omega
 ·by_cases k2:x.kind=2
  ·rw[if_neg k0,if_pos k2]at f;rw[Bool.and_eq_true,beq_iff_eq]at f;omega
  ·omega
def cutM(zs:List Int)(n:Nat):List Int:=(List.range 8).map fun j=>if j<n then zs.getD j 0 else 0
theorem yafr(zs:List Int)(n:Nat):(cutM zs n).length=8:=by simp[cutM]
theorem yapv(zs:List Int)(n j:Nat)(hj:j<8):(cutM zs n).getD j 0=if j<n then zs.getD j 0 else 0:=by
 unfold cutM;rw[List.getD_eq_getElem?_getD,List.getElem?_map,List.getElem?_range hj];rfl
theorem ybcc{x:Ino}{n:Nat}(h:zed x=true)(k:x.kind=1)(hn:n<=8):zed (inoM x.kind (n:Int) x.links (cutM x.map n))=true:=by
 obtain⟨a,b,c,d,f⟩:=zch h;refine yagh a ⟨by show 0<=(n:Int);omega,by show(n:Int)<=8;omega⟩ c ?_ ?_
 ·rw[zpb (yafr _ _)];apply zvp;intro j hj;have q:=zle d j hj
  show ztw j ((cutM x.map n).getD j 0) (n:Int)=true
  rw[yapv _ _ _ hj];unfold ztw at q ⊢
  by_cases e1:j<n
  ·rw[if_pos e1];rw[Bool.and_eq_true]at q ⊢;refine⟨q.1,?_⟩;rw[decide_eq_true (show(j:Int)<(n:Int) by omega)];simp
  ·rw[if_neg e1];rfl
 ·unfold zfm at f ⊢;rw[if_neg (by omega),if_neg (by omega)]at f;rw[if_neg (by show ¬ x.kind=0;omega),if_neg (by show ¬ x.kind=2;omega)];exact f
theorem yasj(x:Ino)(n:Nat):(zdw (cutM x.map n)).Sublist (zdw x.map):=by
 have e:x.map=(List.range 8).map fun j=>x.map.getD j 0:=rfl
 have gen:∀ (l:List Nat),(zdw (l.map fun j=>if j<n then x.map.getD j 0 else 0)).Sublist (zdw (l.map fun j=>x.map.getD j 0)):=by
  intro l;unfold zdw
  induction l with
  | nil=>exact List.Sublist.refl _
  | cons a l ih =>
   rw[List.map_cons,List.map_cons]
   by_cases q:a<n
   ·rw[if_pos q,List.filter_cons,List.filter_cons]
    split
    ·exact ih.cons_cons _
    ·exact ih
   ·rw[if_neg q,List.filter_cons,if_neg (by decide),List.filter_cons]
    split
    ·exact ih.cons _
    ·exact ih
 have:=gen (List.range 8);rw[<- e]at this;exact this
theorem yayn{ws:List Ino}{ps:List Den}(h:Img ws ps){i n:Nat}(hi:i<16)(k:(zan ws i).kind=1)(hn:n<=8) :
  Img (ws.set i (inoM (zan ws i).kind (n:Int) (zan ws i).links (cutM (zan ws i).map n))) ps:=by
 refine yaay h hi rfl rfl (ybcc (h.ok i hi) k hn) (zpe (by rw[h.l16];exact hi) h.sing ?_);rw[zpb (yafr _ _)];exact yasj _ _
def arrD(ds:List Nat)(j:Nat):Value:=if j<6-ds.length then .int .u8 0 else .int .u8 (96+((ds[j-(6-ds.length)]?.getD 0:Nat):Int))
theorem yata(j:Nat)(h:j<6):arrD [] j=.int .u8 0:=by unfold arrD;rw[if_pos (by simpa using h)]
theorem yake(d:Nat)(ds:List Nat)(h:ds.length<6)(j:Nat):(if j=6-ds.length-1 then Value.int .u8 (96+(d:Int))else arrD ds j)=arrD (d::ds) j:=by
 unfold arrD
 by_cases e:j=6-ds.length-1
 ·subst e;rw[if_pos rfl,if_neg (by simp only[List.length_cons];omega)];simp only[List.length_cons];rw[show 6-ds.length-1-(6-(ds.length+1))=0 by omega];rfl
 ·rw[if_neg e];simp only[List.length_cons]
  by_cases e2:j<6-ds.length
  ·rw[if_pos e2,if_pos (by omega)]
  ·rw[if_neg e2,if_neg (by omega),show j-(6-(ds.length+1))=(j-(6-ds.length))+1 by omega];rfl
theorem yaju(ds:List Nat):strOfNums (ds.map fun d=>(96:Int)+(d:Nat))=zcs ds:=by
 unfold strOfNums zcs;rw[List.map_map]
 congr 2
theorem ybcz(w:World)(b l:Nat)(h1:1<=l)(h6:l<=6):(Instr.sliceAt 188 (.pointer (some ⟨b,0,none⟩)) (some (.I (6-(l:Int)))) none none).run Tryz.prog w=.ok (.slice (some ⟨b,6-l,none⟩) l l) w:=by
 have al:Tryz.prog.arrayLen 188=6:=by kernel_rfl
 rw[run_sliceAt_array_l w 188 ⟨b,0,none⟩ (by kernel_rfl) .i64 (6-(l:Int)) (by omega) (by rw[al];omega),al]
 have sz:(sizeOf (Tryz.prog.elem 188)).run Tryz.prog w=.ok 1 w:=by kernel_rfl
 rw[sz];simp only[Result.andThen,slicedAt];rw[if_neg (by omega),show(6-(l:Int)).toNat=6-l by omega,show 6-(6-l)=l by omega,Nat.mul_one];simp[Addr.add];omega
theorem zmi(n:Int)(w:World)(hn:n<=9223372036854775807):zC 82 #[.I n] w fun e w'=>e=.returned (.tuple #[.string (zxj n),.I (unpC n)])/\zB w w':=by
 by_cases c0:n<1
 ·have E:=zaa (yacz (yabx (n:=n) (by omega)));go_enter Tryz.func82,Tryz.ntmps82;go_wp2;go_ret2;exact⟨yagl E.o.1.symm E.o.2.symm,zR⟩
 obtain⟨N,rfl⟩:=Int.eq_ofNat_of_zero_le (show 0<=n by omega)
 have START:Hid ((w.alloc (.cells #[.int .u8 0,.int .u8 0,.int .u8 0,.int .u8 0,.int .u8 0,.int .u8 0] 188)).rowIs w.heap.size 188 6 (arrD [])):=by
  refine World.rowIs_alloc w #[.int .u8 0,.int .u8 0,.int .u8 0,.int .u8 0,.int .u8 0,.int .u8 0] 188 (arrD []) (fun i hi=>?_);have hi':i<6:=hi;rw[yata i hi']
  rcases(show i=0\/i=1\/i=2\/i=3\/i=4\/i=5 by omega)with rfl|rfl|rfl|rfl|rfl|rfl<;>rfl
 have BH:Hid (zB w (w.alloc (.cells #[.int .u8 0,.int .u8 0,.int .u8 0,.int .u8 0,.int .u8 0,.int .u8 0] 188))):=zR.alloc zL _;go_enter Tryz.func82,Tryz.ntmps82;go_wp2
 go_loopw [0,5,6] (fun x f _ wr=>∃ (m:Nat) (ds:List Nat),x=.I (m:Int)/\f=.I (6-(ds.length:Int))/\m<=N/\ds.length<=6/\Hid (Dg N m ds)/\Hid (wr.rowIs w.heap.size 188 6 (arrD ds))/\Hid (zB w wr)) (fun x _ _ _=>(intOf x).toNat)
 case atStart=>exact⟨N,[],rfl,rfl,Nat.le_refl _,by simp,Dg.start N,START.o,BH.o⟩
 case round =>
  obtain⟨m,ds,rfl,rfl,hm,hl,D,R,B⟩:=hrel
  by_cases c1:0<m
  ·have m0:(0:Int)<(m:Int):=by omega
   by_cases c2:m%27=0
   ·have E:=zaa (yacz (yaho D.o c1 c2))
    have c2':((m:Int)%27 == 0)=true:=by rw[beq_iff_eq];omega
    go_wp2;go_ret2;exact⟨yagl E.o.1.symm E.o.2.symm,B.o⟩
   ·have c2':((m:Int)%27 == 0)=false:=by rw[beq_eq_false_iff_ne];omega
    by_cases c3:6<=ds.length
    ·have E:=zaa (yacz (yatn D.o c1 c3))
     have c3':((6:Int)-(ds.length:Int) == 0)=true:=by rw[beq_iff_eq];omega
     go_wp2;go_ret2;exact⟨yagl E.o.1.symm E.o.2.symm,B.o⟩
    ·have c3':((6:Int)-(ds.length:Int) == 0)=false:=by rw[beq_eq_false_iff_ne];omega
     have D2:=zaa (D.o.step c1 c2);have g0:=R.o.frozen (6-ds.length-1);have g1:=R.o.cell (show 6-ds.length-1<6 by omega);generalize hv:arrD ds (6-ds.length-1)=v0 at g1
     have ev:(97+(m:Int)%27-1)=96+((m%27:Nat):Int):=by omega
     have R2:Hid ((wr.setCell ⟨w.heap.size,6-ds.length-1,none⟩ (.int .u8 (97+(m:Int)%27-1))).rowIs w.heap.size 188 6 (arrD (m%27::ds))):=by
      rw[ev];exact(R.o.set (6-ds.length-1) (.int .u8 (96+((m%27:Nat):Int)))).congr (fun j _=>yake (m%27) ds (by omega) j)
     have B2:Hid (zB w (wr.setCell ⟨w.heap.size,6-ds.length-1,none⟩ (.int .u8 (97+(m:Int)%27-1)))):=B.o.setCell (by simp only;omega) _;clear ev;clear hv;go_wp2
     go_roundw
     case rel=>exact⟨m/27,m%27::ds,by go_num,by go_num,by omega,by simp;omega,D2.o,R2.o,B2.o⟩
     case measure=>simp[intOf];omega
  ·obtain rfl:m=0:=by omega
   have E:=zaa (yasg D.o (by omega) hl)
   have hconv:=fun cap=>run_convert_bytes_arg (P:=Tryz.prog) wr 22 5 Tryz.underlying22 Tryz.underlying5 w.heap.size (6-ds.length) ds.length cap (ds.map fun d=>(96:Int)+(d:Nat)) (by simp) (fun i hi=>by
    rw[R.o.cell (show 6-ds.length+i<6 by omega)];unfold arrD;rw[if_neg (by omega),show 6-ds.length+i-(6-ds.length)=i by omega]
    simp[List.getD,hi]) 9 Tryz.underlying9
   rw[yaju]at hconv
   have l1:1<=ds.length:=by
    have:=yaqh (n:=N) (by omega);rw[D.o.done]at this;exact this
   have hsl:=ybcz wr w.heap.size ds.length l1 hl;have hcv:=hconv ds.length;clear hconv;go_wp2;go_ret2;exact⟨yagl E.o.1.symm E.o.2.symm,B.o⟩
theorem zuw(n:Int)(w:World)(hn:n<=9223372036854775807):zC 162 #[.I n] w fun e w'=>(∃ s,e=.returned (.tuple #[.string s,.bool (zgz n)])/\(zgz n=true->s=zxj n))/\zB w w':=by
 obtain⟨N,hN,hN2,hN3⟩:∃ N:Nat,(0<n->n=(N:Int))/\(¬ 0<n->N=0)/\N<=9223372036854775807:=⟨n.toNat,fun h=>by omega,fun h=>by omega,by omega⟩
 have hdl:(zsx N).length<=14:=yavj 14 N (by omega);go_enter Tryz.func162,Tryz.ntmps162;go_wp2
 go_loopw [0,4,5] (fun x o _ wr=>∃ (y:Int) (ds:List Nat),x=.I y/\o=.string (zcs ds)/\y<=9223372036854775807/\Hid ((0<n->∃ m:Nat,y=(m:Int)/\Dg N m ds)/\(¬ 0<n->¬ 0<y/\ds=[]))/\Hid (zB w wr)) (fun x _ _ _=>(intOf x).toNat)
 case atStart=>exact⟨n,[],rfl,rfl,hn,⟨fun h=>⟨N,hN h,Dg.start N⟩,fun h=>⟨h,rfl⟩⟩,zR⟩
 case round =>
  obtain⟨y,ds,rfl,rfl,hy,D,B⟩:=hrel
  by_cases c1:0<y
  ·have hp:0<n:=by
    rcases Decidable.em (0<n)with h | h
    ·exact h
    ·exact absurd c1 (D.o.2 h).1
   obtain⟨m,rfl,D1⟩:=D.o.1 hp;have D0:=zaa D1;clear D D1
   by_cases c2:m%27=0
   ·have E:Hid (zgz n=false):=by
     rw[hN hp];exact yaho D0.o (by omega) c2
    have c2':((m:Int)%27 == 0)=true:=by rw[beq_iff_eq];omega
    go_wp2;go_ret2;exact⟨⟨_,yawr rfl E.o.symm,fun h=>by rw[E.o]at h;cases h⟩,B.o⟩
   ·have c2':((m:Int)%27 == 0)=false:=by rw[beq_eq_false_iff_ne];omega
    have D2:=zaa (D0.o.step (by omega) c2);have hl14:ds.length<=14:=Nat.le_trans D0.o.len hdl
    have hcv:=run_convert_bytes_arg (P:=Tryz.prog) (wr.alloc (.cells #[.int .u8 (97+(m:Int)%27-1)] 5)) 22 5 Tryz.underlying22 Tryz.underlying5 wr.heap.size 0 1 1 [97+(m:Int)%27-1] rfl (fun i hi=>by
     obtain rfl:i=0:=by omega
     exact World.cell?_alloc_mark wr #[.int .u8 (97+(m:Int)%27-1)] 5 (0,0) 0) 9 Tryz.underlying9
    have eb:strOfNums [97+(m:Int)%27-1]=⟨#[UInt8.ofNat (96+m%27)]⟩:=by
     unfold strOfNums;simp only[List.map_cons,List.map_nil];rw[show(97+(m:Int)%27-1).toNat=96+m%27 by omega]
    rw[eb]at hcv;have had:=run_string_add_sum (P:=Tryz.prog) (wr.alloc (.cells #[.int .u8 (97+(m:Int)%27-1)] 5)) ⟨#[UInt8.ofNat (96+m%27)]⟩ (zcs ds) (by rw[zcq];show 1+_<=_;omega);rw[zzb]at had;have B2:Hid (zB w (wr.alloc (.cells #[.int .u8 (97+(m:Int)%27-1)] 5))):=B.o.alloc B.o.size _;clear eb;generalize hbb:(⟨#[UInt8.ofNat (96+m%27)]⟩:ByteArray)=bb at hcv had;clear hbb;go_wp2
    go_roundw
    case rel=>exact⟨(m:Int)/27,m%27::ds,rfl,rfl,by omega,⟨fun _=>⟨m/27,by omega,D2.o⟩,fun h=>absurd hp h⟩,B2.o⟩
    case measure=>simp[intOf];omega
  ·have LEN:Hid (ds.length<=14/\nmB (zcs ds)=zgz n/\(zgz n=true->zcs ds=zxj n)):=by
    rcases Decidable.em (0<n)with hp | hp
    ·obtain⟨m,em,D1⟩:=D.o.1 hp
     obtain rfl:m=0:=by omega
     have en:=hN hp;have hl:=D1.len;have hd:=D1.done;refine⟨by omega,?_,fun h=>?_⟩
     ·by_cases c6:ds.length<=6
      ·have h1:1<=ds.length:=by rw[<- hd];exact yaqh (by omega)
       rw[yadn D1.ok h1 c6,en];exact(decide_eq_true ⟨by omega,by rw[Int.toNat_natCast,hd];exact fun d x=>(D1.ok d x).1,by rw[Int.toNat_natCast,hd];exact c6⟩).symm
      ·rw[zwd (by rw[zcq];omega),en];exact(decide_eq_false (fun x=>by have:=x.2.2;rw[Int.toNat_natCast,hd]at this;omega)).symm
     ·unfold zxj;rw[if_pos h,en,Int.toNat_natCast,hd]
    ·obtain⟨_,rfl⟩:=D.o.2 hp;refine⟨by simp,?_,fun h=>?_⟩
     ·rw[zyv (by rw[zcq];simp),yabx hp]
     ·rw[yabx hp]at h;cases h
   have hsz:(zcs ds).size<=maxLen:=by
    have:=LEN.o.1;rw[zcq];unfold maxLen;omega
   go_wp2_with (go_at_call 155;refine(zev _ _ hsz).mono ?_;rintro e w' ⟨rfl,rfl⟩);go_ret2;exact⟨⟨_,yawr rfl LEN.o.2.1,LEN.o.2.2⟩,B.o⟩
end Go.Proofs.YtogcbbkhnpmgeaaGreatDoor
