import Derived.Test.YtdiaiejmoocpmaaGreatDoorZAM
set_option maxHeartbeats 4000000
namespace Go.Proofs.YtdiaiejmoocpmaaGreatDoor
open Go.RowKit
def zcv(x:Ino):Ino:=if 1<x.links then⟨x.kind,x.size,x.links-1,x.m0,x.m1,x.m2,x.m3,x.m4,x.m5,x.m6,x.m7⟩else zcf
def zie(x:Ino):Ino:=⟨x.kind,x.size,x.links+1,x.m0,x.m1,x.m2,x.m3,x.m4,x.m5,x.m6,x.m7⟩
theorem zbq{x:Ino}(h:zer x=true):(0<=x.kind/\x.kind<=2)/\(0<=x.size/\x.size<=8)/\(0<=x.links/\x.links<=24)/\mapB x.map x.size=true/\zfy x=true:=by
 unfold zer at h;simp only[Bool.and_eq_true,decide_eq_true_eq]at h;exact h
theorem yafj{x:Ino}(h1:0<=x.kind/\x.kind<=2)(h2:0<=x.size/\x.size<=8)(h3:0<=x.links/\x.links<=24)(h4:mapB x.map x.size=true)(h5:zfy x=true):zer x=true:=by
 unfold zer;rw[decide_eq_true h1,decide_eq_true h2,decide_eq_true h3,h4,h5];rfl
theorem zlz{x:Ino}(h:zer x=true)(k:x.kind=2):x.links=1/\x.size=0:=by
 have:=(zbq h).2.2.2.2;unfold zfy at this;rw[if_neg (by omega),if_pos k]at this;simp only[Bool.and_eq_true,beq_iff_eq]at this;exact⟨this.2,this.1⟩
theorem yaie{x:Ino}(h:zer x=true)(k:¬ x.kind=0):0<x.links:=by
 by_cases q:x.kind=2
 ·rw[(zlz h q).1];decide
 ·have:=(zbq h).2.2.2.2;unfold zfy at this;rw[if_neg k,if_neg q]at this;simpa using this
theorem yawh{x:Ino}(h:zer x=true):zer (zcv x)=true:=by
 unfold zcv
 split
 ·rename_i q;obtain⟨a,b,c,d,e⟩:=zbq h
  have k2:¬ x.kind=2:=fun k=>by have:=(zlz h k).1;omega
  have k0:¬ x.kind=0:=by
   intro k;unfold zfy at e;rw[if_pos k]at e;have:=(of_decide_eq_true e).2.1;omega
  refine yafj a b ⟨by show 0<=x.links-1;omega,by show x.links-1<=24;omega⟩ d ?_;unfold zfy;rw[if_neg k0,if_neg k2];exact decide_eq_true (show 0<x.links-1 by omega)
 ·decide
theorem yaws{x:Ino}(h:zer x=true)(k:x.kind=1)(l:x.links<24):zer (zie x)=true:=by
 obtain⟨a,b,c,d,e⟩:=zbq h;refine yafj a b ⟨by show 0<=x.links+1;omega,by show x.links+1<=24;omega⟩ d ?_;unfold zfy;rw[if_neg (by show ¬ x.kind=0;omega),if_neg (by show ¬ x.kind=2;omega)];exact decide_eq_true (show 0<x.links+1 by omega)
theorem yalf{x:Ino}:(zea (zcv x).map).Sublist (zea x.map):=by
 unfold zcv
 split
 ·exact List.Sublist.refl _
 ·exact List.nil_sublist _
theorem ybbj(ps:List Den)(c:Int):zln ps c<=ps.length:=List.length_filter_le _ _
theorem yaqp{ps:List Den}{c:Int}{k:Nat}(hk:k<ps.length)(ne:¬ (zax ps k).child=c):zln ps c<ps.length:=by
 have a:=zib ps k ⟨0,⟨#[]⟩,c⟩ c hk;rw[if_neg ne,if_pos rfl]at a;have:=ybbj (ps.set k ⟨0,⟨#[]⟩,c⟩) c;rw[List.length_set]at this;omega
theorem yahm{ws:List Ino}{ps:List Den}(h:Img ws ps){i k:Nat}(hk:k<24)(ci:(zax ps k).child=(i:Int))(em:∀ j,j<24->¬ (0<=(zax ps j).child/\(zax ps j).dir=(i:Int))) :
  Img (ws.set i (zcv (zan ws i))) (ps.set k freeD):=by
 have hk':k<ps.length:=by rw[h.l24];exact hk
 have ek:zir ws (zax ps k):=by
  rcases h.ent k hk with q | q
  ·rw[q]at ci;have:(-1:Int)=(i:Int):=ci;omega
  ·exact q
 have hi:i<16:=by have:=ek.1;omega
 have i0:¬ i=0:=by have:=ek.1;omega
 have hi':i<ws.length:=by rw[h.l16];exact hi
 have ki:¬ (zan ws i).kind=0:=by rw[<- zbk,<- ci];exact ek.2.2.2.1
 have KA:=fun c hc=>zpq hi' (zcv (zan ws i)) c hc
 have noin:∀ c,0<=c->0<=upD ps c->¬ upD ps c=(i:Int):=by
  intro c hc hu e;obtain⟨j,hj,cj,dj,q⟩:=yavn h.ent' hc hu;exact em j (by rw[h.l24]at hj;exact hj) ⟨by omega,by rw[dj,e]⟩
 have ln:=h.links i hi;rw[if_neg i0]at ln
 have entn:∀ j,j<24->zax (ps.set k freeD) j=freeD\/zir (ws.set i (zcv (zan ws i))) (zax (ps.set k freeD) j):=by
  intro j hj;rw[zbd hk']
  by_cases e:j=k
  ·rw[if_pos e];exact .inl rfl
  ·rw[if_neg e]
   rcases h.ent j hj with q | q
   ·exact .inl q
   ·right
    have dne:¬ (zax ps j).dir=(i:Int):=fun e=>em j hj ⟨by have:=q.1;omega,e⟩
    obtain⟨q1,q2,q3,q4,q5⟩:=q;refine⟨q1,q2,q3,?_,?_⟩
    ·rw[KA _ (by omega)]
     by_cases e2:(zax ps j).child=(i:Int)
     ·rw[if_pos e2]
      have two:1<(zan ws i).links:=by
       have a:=zib ps k freeD (i:Int) hk';rw[if_pos ci,if_neg (show ¬ freeD.child=(i:Int) by show ¬ (-1:Int)=(i:Int);omega)]at a
       have b:¬ zln (ps.set k freeD) (i:Int)=0:=by
        intro z;refine zpw z j (by rw[List.length_set,h.l24];exact hj) ?_;rw[zbd hk',if_neg e];exact e2
       omega
      unfold zcv;rw[if_pos two];exact ki
     ·rw[if_neg e2];exact q4
    ·rw[KA _ q2.1,if_neg dne];exact q5
 have entn':∀ j,j<(ps.set k freeD).length->zax (ps.set k freeD) j=freeD\/zir (ws.set i (zcv (zan ws i))) (zax (ps.set k freeD) j):=fun j hj=>entn j (by rw[List.length_set,h.l24]at hj;exact hj)
 have US:∀ c,0<=c->¬ c=(i:Int)->upD (ps.set k freeD) c=upD ps c:=by
  intro c hc ne;refine zvn (by simp) ?_;intro j hj;rw[zbd hk']
  by_cases e:j=k
  ·rw[if_pos e];right;refine⟨?_,?_⟩
   ·intro q;have:(-1:Int)=c:=q;omega
   ·rw[e,ci];exact fun q=>ne q.symm
  ·rw[if_neg e];exact .inl rfl
 refine⟨by rw[List.length_set];exact h.l16,by rw[List.length_set];exact h.l24,?_,?_,entn,?_,?_,?_,?_⟩
 ·rw[KA 0 (by omega),if_neg (by omega)];exact h.root
 ·intro j hj;rw[zcz hi']
  by_cases e:j=i
  ·rw[if_pos e];exact yawh (h.ok i hi)
  ·rw[if_neg e];exact h.ok j hj
 ·intro j l hj hl cj cl ed en;rw[zbd hk']at cj ed en;rw[zbd hk' _ l]at cl ed en
  have e1:¬ j=k:=by
   intro e;rw[if_pos e]at cj;exact absurd cj (by decide)
  have e2:¬ l=k:=by
   intro e;rw[if_pos e]at cl;exact absurd cl (by decide)
  rw[if_neg e1,if_neg e2]at ed en;rw[if_neg e1]at cj;rw[if_neg e2]at cl;exact h.once j l hj hl cj cl ed en
 ·intro j hj;have c:=zib ps k freeD (j:Int) hk';rw[if_neg (show ¬ freeD.child=(j:Int) by show ¬ (-1:Int)=(j:Int);omega)]at c;rw[zcz hi']
  by_cases e:j=i
  ·rw[if_pos (show(zax ps k).child=(j:Int) by rw[ci];omega)]at c;rw[if_pos e,if_neg (by omega)];have l1:=yaie (h.ok i hi) ki;rw[e]at c ⊢;unfold zcv
   by_cases two:1<(zan ws i).links
   ·rw[if_pos two]
    show 0+((zln _ (i:Int):Nat):Int)=(zan ws i).links-1
    omega
   ·rw[if_neg two]
    show 0+((zln _ (i:Int):Nat):Int)=0
    omega
  ·rw[if_neg (show ¬ (zax ps k).child=(j:Int) by rw[ci];omega)]at c;rw[if_neg e,<- h.links j hj]
   have:zln (ps.set k freeD) (j:Int)=zln ps (j:Int):=by omega
   rw[this]
 ·intro j hj kj;rw[zcz hi']at kj
  have e:¬ j=i:=by
   intro e;rw[if_pos e]at kj;unfold zcv at kj
   split at kj
   ·rename_i two;have:=(zlz (h.ok i hi) kj).1;omega
   ·exact absurd kj (by decide)
  rw[if_neg e]at kj;refine zpm ?_ ⟨by omega,by omega⟩ (yaru entn');exact zpv (G:=fun c=>0<=c) (i:=(i:Int)) (fun c hc hu=>⟨noin c hc hu,hu⟩) (fun c hc ne=>US c hc ne) (h.rch hj kj) (by omega) (by omega)
 ·exact zqb hi' h.sing yalf
theorem yaso {ws:List Ino} {ps:List Den} (h:Img ws ps) {i k:Nat} {d:Int} {nm:ByteArray} (hi:i<16) (i0:¬ i=0) (ki:(zan ws i).kind=1) (hk:k<24) (fk:zax ps k=freeD)
  (hd:0<=d/\d<=15) (dd:zal ws d=2) (hn:nmB nm=true) (new:∀ j,j<24->0<=(zax ps j).child->(zax ps j).dir=d->¬ (zax ps j).name=nm) :
  Img (ws.set i (zie (zan ws i))) (ps.set k ⟨d,nm,(i:Int)⟩):=by
 have hi':i<ws.length:=by rw[h.l16];exact hi
 have hk':k<ps.length:=by rw[h.l24];exact hk
 have KA:∀ c,0<=c->zal (ws.set i (zie (zan ws i))) c=zal ws c:=by
  intro c hc;rw[zpq hi' _ c hc]
  by_cases e:c=(i:Int)
  ·rw[if_pos e,e,zbk];rfl
  ·rw[if_neg e]
 have room:=yaqp (c:=(i:Int)) hk' (by rw[fk];show ¬ (-1:Int)=(i:Int);omega);have ln:=h.links i hi;rw[if_neg i0]at ln
 have entn:∀ j,j<24->zax (ps.set k ⟨d,nm,(i:Int)⟩) j=freeD\/zir (ws.set i (zie (zan ws i))) (zax (ps.set k ⟨d,nm,(i:Int)⟩) j):=by
  intro j hj;rw[zbd hk']
  by_cases e:j=k
  ·rw[if_pos e];right;refine⟨⟨?_,?_⟩,hd,hn,?_,?_⟩
   ·show 1<=(i:Int);omega
   ·show(i:Int)<=15;omega
   ·show ¬ zal _ (i:Int)=0
    rw[KA _ (by omega),zbk,ki];decide
   ·show zal _ d=2
    rw[KA _ hd.1];exact dd
  ·rw[if_neg e]
   rcases h.ent j hj with q | q
   ·exact .inl q
   ·right;obtain⟨q1,q2,q3,q4,q5⟩:=q;exact⟨q1,q2,q3,by rw[KA _ (by omega)];exact q4,by rw[KA _ q2.1];exact q5⟩
 have entn':∀ j,j<(ps.set k ⟨d,nm,(i:Int)⟩).length->zax (ps.set k ⟨d,nm,(i:Int)⟩) j=freeD\/zir (ws.set i (zie (zan ws i))) (zax (ps.set k ⟨d,nm,(i:Int)⟩) j):=fun j hj=>entn j (by rw[List.length_set,h.l24]at hj;exact hj)
 have US:∀ c,0<=c->¬ c=(i:Int)->upD (ps.set k ⟨d,nm,(i:Int)⟩) c=upD ps c:=by
  intro c hc ne;refine zvn (by simp) ?_;intro j hj;rw[zbd hk']
  by_cases e:j=k
  ·rw[if_pos e];right;refine⟨fun q=>ne q.symm,?_⟩;rw[e,fk];intro q;have:(-1:Int)=c:=q;omega
  ·rw[if_neg e];exact .inl rfl
 refine⟨by rw[List.length_set];exact h.l16,by rw[List.length_set];exact h.l24,?_,?_,entn,?_,?_,?_,?_⟩
 ·rw[KA 0 (by omega)];exact h.root
 ·intro j hj;rw[zcz hi']
  by_cases e:j=i
  ·rw[if_pos e];refine yaws (h.ok i hi) ki ?_;have:=h.l24;omega
  ·rw[if_neg e];exact h.ok j hj
 ·intro j l hj hl cj cl ed en;rw[zbd hk']at cj ed en;rw[zbd hk' _ l]at cl ed en
  by_cases e1:j=k
  ·by_cases e2:l=k
   ·omega
   ·rw[if_pos e1,if_neg e2]at ed en;rw[if_neg e2]at cl;exact absurd en.symm (new l hl cl ed.symm)
  ·by_cases e2:l=k
   ·rw[if_neg e1,if_pos e2]at ed en;rw[if_neg e1]at cj;exact absurd en (new j hj cj ed)
   ·rw[if_neg e1,if_neg e2]at ed en;rw[if_neg e1]at cj;rw[if_neg e2]at cl;exact h.once j l hj hl cj cl ed en
 ·intro j hj;have c:=zib ps k ⟨d,nm,(i:Int)⟩ (j:Int) hk';rw[fk,if_neg (show ¬ freeD.child=(j:Int) by show ¬ (-1:Int)=(j:Int);omega)]at c;rw[zcz hi']
  by_cases e:j=i
  ·rw[if_pos (show(i:Int)=(j:Int) by omega)]at c;rw[if_pos e,if_neg (by omega)];rw[e]at c ⊢
   show 0+((zln _ (i:Int):Nat):Int)=(zan ws i).links+1
   omega
  ·rw[if_neg (show ¬ (i:Int)=(j:Int) by omega)]at c;rw[if_neg e,<- h.links j hj]
   have:zln (ps.set k ⟨d,nm,(i:Int)⟩) (j:Int)=zln ps (j:Int):=by omega
   rw[this]
 ·intro j hj kj;rw[zcz hi']at kj
  have e:¬ j=i:=by
   intro e;rw[if_pos e]at kj;have:(zan ws i).kind=2:=kj;omega
  rw[if_neg e]at kj;refine zpm ?_ ⟨by omega,by omega⟩ (yaru entn');refine zpv (G:=fun c=>0<=c) (i:=(i:Int)) (fun c hc hu=>⟨?_,hu⟩) (fun c hc ne=>US c hc ne) (h.rch hj kj) (by omega) (by omega);intro e;have:=(h.dir hc hu).1;rw[e,zbk,ki]at this
  cases this
 ·refine zqb hi' h.sing ?_;exact List.Sublist.refl _
theorem yaig {ws:List Ino} {ps:List Den} (h:Img ws ps) {i k:Nat} {d:Int} {nm:ByteArray} (hk:k<24) (ci:(zax ps k).child=(i:Int))
  (hd:0<=d/\d<=15) (dd:zal ws d=2) (hn:nmB nm=true) (new:∀ j,j<24->0<=(zax ps j).child->(zax ps j).dir=d->¬ (zax ps j).name=nm)
  (loop:¬ (zal ws (i:Int)=2/\ztf ps 17 d (i:Int)=true)) :
  Img ws (ps.set k ⟨d,nm,(i:Int)⟩):=by
 have hk':k<ps.length:=by rw[h.l24];exact hk
 have ek:zir ws (zax ps k):=by
  rcases h.ent k hk with q | q
  ·rw[q]at ci;have:(-1:Int)=(i:Int):=ci;omega
  ·exact q
 have hi:i<16:=by have:=ek.1;omega
 have i0:¬ i=0:=by have:=ek.1;omega
 have entn:∀ j,j<24->zax (ps.set k ⟨d,nm,(i:Int)⟩) j=freeD\/zir ws (zax (ps.set k ⟨d,nm,(i:Int)⟩) j):=by
  intro j hj;rw[zbd hk']
  by_cases e:j=k
  ·rw[if_pos e];right;refine⟨⟨by show 1<=(i:Int);omega,by show(i:Int)<=15;omega⟩,hd,hn,?_,dd⟩
   show ¬ zal ws (i:Int)=0
   rw[<- ci];exact ek.2.2.2.1
  ·rw[if_neg e];exact h.ent j hj
 have entn':∀ j,j<(ps.set k ⟨d,nm,(i:Int)⟩).length->zax (ps.set k ⟨d,nm,(i:Int)⟩) j=freeD\/zir ws (zax (ps.set k ⟨d,nm,(i:Int)⟩) j):=fun j hj=>entn j (by rw[List.length_set,h.l24]at hj;exact hj)
 have US:∀ c,0<=c->¬ c=(i:Int)->upD (ps.set k ⟨d,nm,(i:Int)⟩) c=upD ps c:=by
  intro c hc ne;refine zvn (by simp) ?_;intro j hj;rw[zbd hk']
  by_cases e:j=k
  ·rw[if_pos e];right;refine⟨fun q=>ne q.symm,?_⟩;rw[e,ci]
   exact fun q=>ne q.symm
  ·rw[if_neg e];exact .inl rfl
 have CN:∀ c:Int,zln (ps.set k ⟨d,nm,(i:Int)⟩) c=zln ps c:=by
  intro c;have a:=zib ps k ⟨d,nm,(i:Int)⟩ c hk';rw[ci]at a;have b:(if (i:Int)=c then(1:Nat)else 0)=(if (Den.mk d nm (i:Int)).child=c then 1 else 0):=rfl;omega
 have ALL:∀ c,Rch ps c->0<=c->zal ws c=2->Rch (ps.set k ⟨d,nm,(i:Int)⟩) c:=by
  by_cases ki:zal ws (i:Int)=2
  ·have nb:ztf ps 17 d (i:Int)=false:=by
    cases q:ztf ps 17 d (i:Int) with
    | false=>rfl
    | true=>exact absurd ⟨ki,q⟩ loop
   have UI:upD (ps.set k ⟨d,nm,(i:Int)⟩) (i:Int)=d:=by
    have one:zln ps (i:Int)=1:=by
     have l:=h.links i hi;rw[if_neg i0,(zlz (h.ok i hi) (by rw[<- zbk];exact ki)).1]at l;omega
    have q:=yaka (ps:=ps.set k ⟨d,nm,(i:Int)⟩) (c:=(i:Int)) (k:=k) (by rw[List.length_set];exact hk') (by rw[zbd hk',if_pos rfl]) (fun j hj e=>by
     rw[List.length_set]at hj;rw[zbd hk']at e
     by_cases ej:j=k
     ·exact ej
     ·rw[if_neg ej]at e
      exact yaxg one hj hk' e ci)
    rw[q,zbd hk',if_pos rfl]
   obtain⟨dn,rfl⟩:∃ n:Nat,d=(n:Int):=⟨d.toNat,by omega⟩
   have rd:Rch (ps.set k ⟨(dn:Int),nm,(i:Int)⟩) (dn:Int):=ztt US 16 _ (h.hang dn (by omega) (by rw[<- zbk];exact dd)) (by omega) nb;have ri:Rch (ps.set k ⟨(dn:Int),nm,(i:Int)⟩) (i:Int):=znf (by rw[UI];omega) (by rw[UI];exact rd);intro c hr hc _
   have:0<=c->Rch (ps.set k ⟨(dn:Int),nm,(i:Int)⟩) c:=by
    refine yaoq (P:=fun c=>0<=c->Rch (ps.set k ⟨(dn:Int),nm,(i:Int)⟩) c) hr (fun _=>zwy _) ?_;intro c c0 cu ih hc
    by_cases e:c=(i:Int)
    ·rw[e];exact ri
    ·have u:=US c hc e;refine znf (by rw[u];exact cu) ?_;rw[u];exact ih cu
   exact this hc
  ·intro c hr hc kc;refine zpv (G:=fun c=>0<=c) (i:=(i:Int)) (fun c hc hu=>⟨?_,hu⟩) (fun c hc ne=>US c hc ne) hr hc (fun e=>ki (by rw[<- e];exact kc));intro e;have:=(h.dir hc hu).1;rw[e]at this;exact ki this
 refine⟨h.l16,by rw[List.length_set];exact h.l24,h.root,h.ok,entn,?_,?_,?_,h.sing⟩
 ·intro j l hj hl cj cl ed en;rw[zbd hk']at cj ed en;rw[zbd hk' _ l]at cl ed en
  by_cases e1:j=k
  ·by_cases e2:l=k
   ·omega
   ·rw[if_pos e1,if_neg e2]at ed en;rw[if_neg e2]at cl;exact absurd en.symm (new l hl cl ed.symm)
  ·by_cases e2:l=k
   ·rw[if_neg e1,if_pos e2]at ed en;rw[if_neg e1]at cj;exact absurd en (new j hj cj ed)
   ·rw[if_neg e1,if_neg e2]at ed en;rw[if_neg e1]at cj;rw[if_neg e2]at cl;exact h.once j l hj hl cj cl ed en
 ·intro j hj;rw[CN];exact h.links j hj
 ·intro j hj kj;refine zpm ?_ ⟨by omega,by omega⟩ (yaru entn');exact ALL _ (h.rch hj kj) (by omega) (by rw[zbk];exact kj)
def zxk(kind size links:Int)(zs:List Int):Ino:=⟨kind,size,links,zs.getD 0 0,zs.getD 1 0,zs.getD 2 0,zs.getD 3 0,zs.getD 4 0,zs.getD 5 0,zs.getD 6 0,zs.getD 7 0⟩
theorem zjo{kind size links:Int}{zs:List Int}(h:zs.length=8):(zxk kind size links zs).map=zs:=by
 match zs,h with
 | [a,b,c,d,e,f,g,i],_=>rfl
theorem zya{ws:List Ino}{ps:List Den}(h:Img ws ps){i:Nat}{x:Ino}(hi:i<16)(kx:x.kind=(zan ws i).kind)(lx:x.links=(zan ws i).links)(ox:zer x=true)(sx:(zao (ws.set i x)).Pairwise fun x y=>x≠y) :
  Img (ws.set i x) ps:=by
 have hi':i<ws.length:=by rw[h.l16];exact hi
 have KA:∀ c,0<=c->zal (ws.set i x) c=zal ws c:=by
  intro c hc;rw[zpq hi' _ c hc]
  by_cases e:c=(i:Int)
  ·rw[if_pos e,e,zbk,kx]
  ·rw[if_neg e]
 refine⟨by rw[List.length_set];exact h.l16,h.l24,?_,?_,?_,h.once,?_,?_,sx⟩
 ·rw[KA 0 (by omega)];exact h.root
 ·intro j hj;rw[zcz hi']
  by_cases e:j=i
  ·rw[if_pos e];exact ox
  ·rw[if_neg e];exact h.ok j hj
 ·intro k hk
  rcases h.ent k hk with q | q
  ·exact .inl q
  ·obtain⟨q1,q2,q3,q4,q5⟩:=q;exact .inr ⟨q1,q2,q3,by rw[KA _ (by omega)];exact q4,by rw[KA _ q2.1];exact q5⟩
 ·intro j hj;rw[zcz hi']
  by_cases e:j=i
  ·rw[if_pos e,lx,<- e];exact h.links j hj
  ·rw[if_neg e];exact h.links j hj
 ·intro j hj kj;rw[zcz hi']at kj
  by_cases e:j=i
  ·rw[if_pos e,kx,<- e]at kj;exact h.hang j hj kj
  ·rw[if_neg e]at kj;exact h.hang j hj kj
theorem yajd{l:List Int}{p:Nat}{e:Int}(hp:p<l.length)(he:¬ e=0):zea (l.set p e)=zea (l.take p)++[e]++zea (l.drop (p+1)):=by
 unfold zea;rw[List.set_eq_take_append_cons_drop,if_pos hp,List.filter_append,List.filter_cons,if_pos (by simpa using he),List.append_assoc];rfl
theorem yadq{l:List Int}{p:Nat}(hp:p<l.length):(zea (l.take p)++zea (l.drop (p+1))).Sublist (zea l):=by
 unfold zea;rw[<- List.filter_append];apply List.Sublist.filter
 have:l=l.take p++(l[p]::l.drop (p+1)):=by rw[<- List.drop_eq_getElem_cons hp,List.take_append_drop]
 conv=>rhs;rw[this]
 exact List.Sublist.append (List.Sublist.refl _) (List.sublist_cons_self _ _)
theorem yasz{ws:List Ino}{i p:Nat}{e:Int}{x:Ino}(hi:i<ws.length)(hp:p<8)(he:¬ e=0)(s:(zao ws).Pairwise fun x y=>x≠y)(new:¬ e∈zao ws)(hx:x.map=(zan ws i).map.set p e):(zao (ws.set i x)).Pairwise fun x y=>x≠y:=by
 have hl:p<(zan ws i).map.length:=hp;rw[znt hi,hx,yajd hl he];rw[zoh hi]at s new
 have sub:(zao (ws.take i)++(zea ((zan ws i).map.take p)++zea ((zan ws i).map.drop (p+1)))++zao (ws.drop (i+1))).Sublist (zao (ws.take i)++zea (zan ws i).map++zao (ws.drop (i+1))) :=
  List.Sublist.append (List.Sublist.append (List.Sublist.refl _) (yadq hl)) (List.Sublist.refl _)
 have s2:=s.sublist sub
 have new2:¬ e∈zao (ws.take i)++(zea ((zan ws i).map.take p)++zea ((zan ws i).map.drop (p+1)))++zao (ws.drop (i+1)):=fun q=>new (sub.subset q)
 generalize zao (ws.take i)=A at *;generalize zea ((zan ws i).map.take p)=P at *;generalize zea ((zan ws i).map.drop (p+1))=Q at *;generalize zao (ws.drop (i+1))=B at *
 have e1:A++(P++[e]++Q)++B=(A++P)++e::(Q++B):=by simp
 have e2:A++(P++Q)++B=(A++P)++(Q++B):=by simp
 rw[e2]at s2 new2;rw[e1];rw[List.pairwise_append]at s2 ⊢;refine⟨s2.1,?_,?_⟩
 ·rw[List.pairwise_cons];exact⟨fun y hy q=>new2 (by rw[List.mem_append];right;rw[q];exact hy),s2.2.1⟩
 ·intro a ha b hb;rw[List.mem_cons]at hb
  rcases hb with rfl | hb
  ·intro q;exact new2 (by rw[List.mem_append];left;rw[<- q];exact ha)
  ·exact s2.2.2 a ha b hb
theorem yaxl(x:Ino):x.map.length=8:=rfl
theorem ybav{x:Ino}{p:Nat}{e sz:Int}(h:zer x=true)(k:x.kind=1)(hp:p<8)(te:zeo e=true)(sx:x.size<=sz)(s8:sz<=8)(ps:(p:Int)<sz):zer (zxk x.kind sz x.links (x.map.set p e))=true:=by
 obtain⟨a,b,c,d,f⟩:=zbq h;refine yafj a ⟨by show 0<=sz;omega,s8⟩ c ?_ ?_
 ·rw[zjo (by rw[List.length_set];rfl)];apply zwm;intro j hj;have q:=zhp d j hj
  show zsv j ((x.map.set p e).getD j 0) sz=true
  rw[List.getD_eq_getElem?_getD,List.getElem?_set]
  by_cases e1:p=j
  ·subst e1;rw[if_pos rfl,if_pos (by rw[yaxl];exact hp)]
   show zsv p e sz=true
   unfold zsv;rw[te,decide_eq_true ps];simp
  ·rw[if_neg e1];unfold zsv at q ⊢;rw[List.getD_eq_getElem?_getD]at q;rw[Bool.and_eq_true,Bool.or_eq_true]at q ⊢;refine⟨q.1,?_⟩
   rcases q.2 with r | r
   ·exact .inl r
   ·right
    have:(j:Int)<x.size:=by simpa using r
    simp only[decide_eq_true_eq];omega
 ·unfold zfy at f ⊢;rw[if_neg (by omega),if_neg (by omega)]at f;rw[if_neg (by show ¬ x.kind=0;omega),if_neg (by show ¬ x.kind=2;omega)];exact f
theorem yakl{ws:List Ino}{ps:List Den}(h:Img ws ps){i p:Nat}{e sz:Int}(hi:i<16)(k:(zan ws i).kind=1)(hp:p<8)(te:zeo e=true)(he:¬ e=0)(new:¬ e∈zao ws)(hsz:sz=if (p:Int)<(zan ws i).size then(zan ws i).size else(p:Int)+1) :
  Img (ws.set i (zxk (zan ws i).kind sz (zan ws i).links ((zan ws i).map.set p e))) ps:=by
 have o:=zbq (h.ok i hi);refine zya h hi rfl rfl (ybav (h.ok i hi) k hp te ?_ ?_ ?_) (yasz (by rw[h.l16];exact hi) hp he h.sing new (zjo (by rw[List.length_set];rfl)))
 ·rw[hsz];split<;>omega
 ·rw[hsz];split<;>omega
 ·rw[hsz];split<;>omega
theorem yamr{x:Ino}(h:zer x=true){p:Nat}(hp:p<8)(e:¬ x.map.getD p 0=0):(p:Int)<x.size/\x.kind=1:=by
 obtain⟨a,b,c,d,f⟩:=zbq h;have q:=zhp d p hp;unfold zsv at q;rw[Bool.and_eq_true,Bool.or_eq_true,beq_iff_eq,decide_eq_true_eq]at q
 have s:(p:Int)<x.size:=by
  rcases q.2 with r | r
  ·exact absurd r e
  ·exact r
 refine⟨s,?_⟩;unfold zfy at f
 by_cases k0:x.kind=0
 ·rw[if_pos k0]at f;have:=(of_decide_eq_true f).1;omega
 ·by_cases k2:x.kind=2
  ·rw[if_neg k0,if_pos k2]at f;rw[Bool.and_eq_true,beq_iff_eq]at f;omega
  ·omega
def cutM(zs:List Int)(n:Nat):List Int:=(List.range 8).map fun j=>if j<n then zs.getD j 0 else 0
theorem yafo(zs:List Int)(n:Nat):(cutM zs n).length=8:=by simp[cutM]
theorem yaot(zs:List Int)(n j:Nat)(hj:j<8):(cutM zs n).getD j 0=if j<n then zs.getD j 0 else 0:=by
 unfold cutM;rw[List.getD_eq_getElem?_getD,List.getElem?_map,List.getElem?_range hj];rfl
theorem yazb{x:Ino}{n:Nat}(h:zer x=true)(k:x.kind=1)(hn:n<=8):zer (zxk x.kind (n:Int) x.links (cutM x.map n))=true:=by
 obtain⟨a,b,c,d,f⟩:=zbq h;refine yafj a ⟨by show 0<=(n:Int);omega,by show(n:Int)<=8;omega⟩ c ?_ ?_
 ·rw[zjo (yafo _ _)];apply zwm;intro j hj;have q:=zhp d j hj
  show zsv j ((cutM x.map n).getD j 0) (n:Int)=true
  rw[yaot _ _ _ hj];unfold zsv at q ⊢
  by_cases e1:j<n
  ·rw[if_pos e1];rw[Bool.and_eq_true]at q ⊢;refine⟨q.1,?_⟩;rw[decide_eq_true (show(j:Int)<(n:Int) by omega)];simp
  ·rw[if_neg e1];rfl
 ·unfold zfy at f ⊢;rw[if_neg (by omega),if_neg (by omega)]at f;rw[if_neg (by show ¬ x.kind=0;omega),if_neg (by show ¬ x.kind=2;omega)];exact f
theorem yarl(x:Ino)(n:Nat):(zea (cutM x.map n)).Sublist (zea x.map):=by
 have e:x.map=(List.range 8).map fun j=>x.map.getD j 0:=rfl
 have gen:∀ (l:List Nat),(zea (l.map fun j=>if j<n then x.map.getD j 0 else 0)).Sublist (zea (l.map fun j=>x.map.getD j 0)):=by
  intro l;unfold zea
  induction l with
  | nil=>exact List.Sublist.refl _
  | cons a l ih =>
   rw[List.map_cons,List.map_cons]
   by_cases q:a<n
   ·rw[if_pos q,List.filter_cons,List.filter_cons]
    split
    ·exact ih.cons_cons _
    ·exact ih
   ·rw[if_neg q,List.filter_cons,if_neg (by decide),List.filter_cons]
    split
    ·exact ih.cons _
    ·exact ih
 have:=gen (List.range 8);rw[<- e]at this;exact this
theorem yawq{ws:List Ino}{ps:List Den}(h:Img ws ps){i n:Nat}(hi:i<16)(k:(zan ws i).kind=1)(hn:n<=8) :
  Img (ws.set i (zxk (zan ws i).kind (n:Int) (zan ws i).links (cutM (zan ws i).map n))) ps:=by
 refine zya h hi rfl rfl (yazb (h.ok i hi) k hn) (zqb (by rw[h.l16];exact hi) h.sing ?_);rw[zjo (yafo _ _)];exact yarl _ _
def RdPm(w:World)(v:Value)(ws:List Int)(ps:List St):Prop:=∃ vW vP,v=.agg #[vW,vP]/\RdI w vW ws/\RdS w vP ps
def RowPm(w:World)(lo hi:Nat)(v:Value)(ws:List Int)(ps:List St):Prop:=∃ vW vP,v=.agg #[vW,vP]/\Row w 3 1 lo hi vW ws.length (zcl ws)/\Row w 175 3 lo hi vP ps.length (sts ps)
theorem RowPm.rd{w:World}{lo hi:Nat}{v:Value}{ws:List Int}{ps:List St}(h:RowPm w lo hi v ws ps):RdPm w v ws ps:=by
 obtain⟨vW,vP,rfl,h1,h2⟩:=h;exact⟨vW,vP,rfl,h1.rd,h2.rd⟩
theorem RdPm.below{w w':World}{v:Value}{ws:List Int}{ps:List St}(h:RdPm w v ws ps)(hb:zB w w'):RdPm w' v ws ps:=by
 obtain⟨vW,vP,rfl,h1,h2⟩:=h;exact⟨vW,vP,rfl,Rd.below h1 hb,Rd.below h2 hb⟩
theorem RowPm.below{w w':World}{lo hi:Nat}{v:Value}{ws:List Int}{ps:List St}(h:RowPm w lo hi v ws ps){B:Nat}(hb:Below B w w')(hB:hi<=B):RowPm w' lo hi v ws ps:=by
 obtain⟨vW,vP,rfl,h1,h2⟩:=h;exact⟨vW,vP,rfl,h1.below hb hB,h2.below hb hB⟩
theorem RowPm.outside{w w':World}{lo hi:Nat}{v:Value}{ws:List Int}{ps:List St}(h:RowPm w lo hi v ws ps){lo' hi':Nat}(ho:Outside lo' hi' w w')(hd:hi<=lo'\/hi'<=lo)(hz:hi<=w.heap.size):RowPm w' lo hi v ws ps:=by
 obtain⟨vW,vP,rfl,h1,h2⟩:=h;exact⟨vW,vP,rfl,h1.outside ho hd hz,h2.outside ho hd hz⟩
theorem RowPm.wide{w:World}{lo hi:Nat}{v:Value}{ws:List Int}{ps:List St}(h:RowPm w lo hi v ws ps){lo' hi':Nat}(h1:lo'<=lo)(h2:hi<=hi'):RowPm w lo' hi' v ws ps:=by
 obtain⟨vW,vP,rfl,a,b⟩:=h;exact⟨vW,vP,rfl,a.wide h1 h2,b.wide h1 h2⟩
def pmB(ws:List Int)(ps:List St):Bool:=decide (ws.length=336/\ps.length<=400/\(∀ k (h:k<ws.length),zat ws[k]=true)/\∀ k (h:k<ps.length),zbn ps[k].at_=true/\zat ps[k].val=true)
theorem yamj{ws:List Int}{ps:List St}(h1:ws.length=336)(h2:ps.length<=400)(h3:∀ k (h:k<ws.length),zat ws[k]=true)(h4:∀ k (h:k<ps.length),zbn ps[k].at_=true/\zat ps[k].val=true):pmB ws ps=true:=decide_eq_true ⟨h1,h2,h3,h4⟩
theorem zfh{ws:List Int}{ps:List St}(h:pmB ws ps=true):ws.length=336/\ps.length<=400:=⟨(of_decide_eq_true h).1,(of_decide_eq_true h).2.1⟩
theorem yaex{ws:List Int}{ps:List St}(h:pmB ws ps=true)(k:Nat)(hk:k<ws.length):zat ws[k]=true:=(of_decide_eq_true h).2.2.1 k hk
theorem zmy{ws:List Int}{ps:List St}(h:pmB ws ps=true)(k:Nat)(hk:k<ps.length):zbn ps[k].at_=true/\zat ps[k].val=true:=(of_decide_eq_true h).2.2.2 k hk
theorem yafr{ws:List Int}{ps:List St}(h:¬ ws.length=336):pmB ws ps=false:=decide_eq_false (fun x=>h x.1)
theorem yaek{ws:List Int}{ps:List St}(h:400<ps.length):pmB ws ps=false:=decide_eq_false (fun x=>absurd x.2.1 (by omega))
theorem ybaq{ws:List Int}{ps:List St}{k:Nat}(hk:k<ws.length)(h:zat ws[k]=false):pmB ws ps=false:=decide_eq_false (fun x=>by have:=x.2.2.1 k hk;rw[h]at this;cases this)
theorem ybad{ws:List Int}{ps:List St}{k:Nat}(hk:k<ps.length)(h:zbn ps[k].at_=false):pmB ws ps=false:=decide_eq_false (fun x=>by have:=(x.2.2.2 k hk).1;rw[h]at this;cases this)
theorem yazn{ws:List Int}{ps:List St}{k:Nat}(hk:k<ps.length)(h:zat ps[k].val=false):pmB ws ps=false:=decide_eq_false (fun x=>by have:=(x.2.2.2 k hk).2;rw[h]at this;cases this)
theorem zjg(v:Value)(ws:List Int)(ps:List St)(w:World)(h:RdPm w v ws ps)(hw:ws.length<=1048576)(hp:ps.length<=1048576) :
  zC 113 #[v] w fun e w'=>e=.returned (.bool (pmB ws ps))/\zB w w':=by
 obtain⟨vW,vP,rfl,h1,h2⟩:=h;obtain⟨aW,cW,rfl,_,hcW⟩:=h1.shape;obtain⟨aP,cP,rfl,_,hcP⟩:=h2.shape;clear h1 h2;have hb0:zB w (w.alloc (.cells #[.slice aW ws.length cW,.slice aP ps.length cP] 26)):=zR.alloc zL _
 by_cases c1:ws.length=336
 case neg =>
  have E:=zaa (yafr (ps:=ps) c1)
  have c1':((ws.length:Int) != 336)=true:=by simp;omega
  clear c1;go_enter Tryz.func113,Tryz.ntmps113;go_wp2;go_ret;exact⟨zag E.o.symm,hb0⟩
 have c1n:((ws.length:Int) != 336)=false:=by simp;omega
 have hpos:0<ws.length:=by omega
 have C1:=zaa c1;clear c1
 by_cases c2:400<ps.length
 ·have E:=zaa (yaek (ws:=ws) c2);go_enter Tryz.func113,Tryz.ntmps113;go_wp2;go_ret;exact⟨zag E.o.symm,hb0⟩
 obtain⟨b,o,rfl,hbl,hcell⟩:=hcW hpos;clear hcW hpos;go_enter Tryz.func113,Tryz.ntmps113;go_wp2
 go_loop [3] (fun i=>∃ k:Nat,k<=ws.length/\i=.I k/\Hid (∀ j (h:j<ws.length),j<k->zat ws[j]=true)) (fun i=>ws.length-(intOf i).toNat)
 case atStart=>exact⟨0,by omega,rfl,fun j h a=>absurd a (by omega)⟩
 case round =>
  obtain⟨k,hk,rfl,H⟩:=hrel
  by_cases hlt:k<ws.length
  ·have hck:=(hb0.cell (p:=⟨b,o+k,none⟩) hbl).trans (hcell k hlt);clear hcell hcP
   by_cases q:zat ws[k]=true
   ·go_wp2_with (go_at_call 66;refine(zci _ _).mono ?_;rintro e w' ⟨rfl,rfl⟩)
    go_round
    case rel =>
     refine⟨k+1,by omega,by go_num,fun j h a=>?_⟩
     by_cases e:j=k
     ·subst e;exact q
     ·exact H.o j h (by omega)
    case measure=>simp[intOf];omega
   ·have q':zat ws[k]=false:=by simpa using q
    have E:=zaa (ybaq (ps:=ps) hlt q');go_wp2_with (go_at_call 66;refine(zci _ _).mono ?_;rintro e w' ⟨rfl,rfl⟩);go_ret;exact⟨zag E.o.symm,hb0⟩
  ·have HW:=zaa (fun j (h:j<ws.length)=>H.o j h (by omega));clear H hcell;go_wp2
   go_loop [4] (fun i=>∃ k:Nat,k<=ps.length/\i=.I k/\Hid (∀ j (h:j<ps.length),j<k->zbn ps[j].at_=true/\zat ps[j].val=true)) (fun i=>ps.length-(intOf i).toNat)
   case atStart=>exact⟨0,by omega,rfl,fun j h a=>absurd a (by omega)⟩
   case round =>
    obtain⟨m,hm,rfl,H⟩:=hrel
    by_cases hlt2:m<ps.length
    ·obtain⟨b2,o2,rfl,hbl2,hcell2⟩:=hcP (by omega);obtain⟨d0,d1,_⟩:=hcell2 m hlt2;have e0:=(hb0.cell (p:=⟨b2,o2+m*3,none⟩) hbl2).trans d0;have e1:=(hb0.cell (p:=⟨b2,o2+m*3+1,none⟩) hbl2).trans d1;clear d0 d1 hcell2 hcP
     by_cases q:zbn ps[m].at_=true
     ·by_cases q2:zat ps[m].val=true
      ·go_wp2_with (first | (go_at_call 65;refine(zgx _ _).mono ?_;rintro e w' ⟨rfl,rfl⟩) | (go_at_call 66;refine(zci _ _).mono ?_;rintro e w' ⟨rfl,rfl⟩))
       go_round
       case rel =>
        refine⟨m+1,by omega,by go_num,fun j h a=>?_⟩
        by_cases e:j=m
        ·subst e;exact⟨q,q2⟩
        ·exact H.o j h (by omega)
       case measure=>simp[intOf];omega
      ·have q2':zat ps[m].val=false:=by simpa using q2
       have E:=zaa (yazn (ws:=ws) hlt2 q2');go_wp2_with (first | (go_at_call 65;refine(zgx _ _).mono ?_;rintro e w' ⟨rfl,rfl⟩) | (go_at_call 66;refine(zci _ _).mono ?_;rintro e w' ⟨rfl,rfl⟩));go_ret;exact⟨zag E.o.symm,hb0⟩
     ·have q':zbn ps[m].at_=false:=by simpa using q
      have E:=zaa (ybad (ws:=ws) hlt2 q');go_wp2_with (first | (go_at_call 65;refine(zgx _ _).mono ?_;rintro e w' ⟨rfl,rfl⟩) | (go_at_call 66;refine(zci _ _).mono ?_;rintro e w' ⟨rfl,rfl⟩));go_ret;exact⟨zag E.o.symm,hb0⟩
    ·have E:=zaa (yamj C1.o (by omega) HW.o (fun j h=>H.o j h (by omega)));go_wp2;go_ret;exact⟨zag E.o.symm,hb0⟩
def zsp(zs:List Int):Bool:=decide (∀ k (h:k<zs.length),zbn zs[k]=true)
theorem yahx{zs:List Int}(h:∀ k (h:k<zs.length),zbn zs[k]=true):zsp zs=true:=decide_eq_true h
theorem yabs{zs:List Int}{k:Nat}(hk:k<zs.length)(h:zbn zs[k]=false):zsp zs=false:=decide_eq_false (fun x=>by have:=x k hk;rw[h]at this;cases this)
theorem zdz(v:Value)(zs:List Int)(w:World)(h:RdI w v zs)(hn:zs.length<=2147483648) :
  zC 98 #[v,.func (.func 51) #[] #[]] w fun e w'=>e=.returned (.bool (zkl zs))/\w'=w:=by
 obtain⟨ao,cap,rfl,_,hc⟩:=h.shape;clear h;go_enter Tryz.func98,Tryz.ntmps98;go_wp2
 go_loop [6,9] (fun _ i=>∃ k:Nat,k<=zs.length/\i=.I k/\Hid (∀ j (h:j<zs.length),j<k->zat zs[j]=true)) (fun _ i=>zs.length-(intOf i).toNat)
 case atStart=>exact⟨0,by omega,rfl,fun j h a=>absurd a (by omega)⟩
 case round =>
  obtain⟨k,hk,rfl,H⟩:=hrel
  by_cases hlt:k<zs.length
  ·obtain⟨b,o,rfl,hbl,hcell⟩:=hc (by omega);have hck:=hcell k hlt;clear hcell hc
   by_cases q:zat zs[k]=true
   ·go_wp2_with (go_at_call 51;refine(zce _ _).mono ?_;rintro e w' ⟨rfl,rfl⟩)
    go_round
    case rel =>
     refine⟨k+1,by omega,by go_num,fun j h a=>?_⟩
     by_cases e:j=k
     ·subst e;exact q
     ·exact H.o j h (by omega)
    case measure=>simp[intOf];omega
   ·have q':zat zs[k]=false:=by simpa using q
    have E:=zaa (yagv hlt q');go_wp2_with (go_at_call 51;refine(zce _ _).mono ?_;rintro e w' ⟨rfl,rfl⟩);go_ret;exact⟨zag E.o.symm,rfl⟩
  ·have E:=zaa (zyv (fun j h=>H.o j h (by omega)));clear H;go_wp2;go_ret;exact⟨zag E.o.symm,rfl⟩
theorem zkh(v:Value)(zs:List Int)(w:World)(h:RdI w v zs)(hn:zs.length<=2147483648) :
  zC 98 #[v,.func (.func 106) #[] #[]] w fun e w'=>e=.returned (.bool (zsp zs))/\w'=w:=by
 obtain⟨ao,cap,rfl,_,hc⟩:=h.shape;clear h;go_enter Tryz.func98,Tryz.ntmps98;go_wp2
 go_loop [6,9] (fun _ i=>∃ k:Nat,k<=zs.length/\i=.I k/\Hid (∀ j (h:j<zs.length),j<k->zbn zs[j]=true)) (fun _ i=>zs.length-(intOf i).toNat)
 case atStart=>exact⟨0,by omega,rfl,fun j h a=>absurd a (by omega)⟩
 case round =>
  obtain⟨k,hk,rfl,H⟩:=hrel
  by_cases hlt:k<zs.length
  ·obtain⟨b,o,rfl,hbl,hcell⟩:=hc (by omega);have hck:=hcell k hlt;clear hcell hc
   by_cases q:zbn zs[k]=true
   ·go_wp2_with (go_at_call 106;refine(zdj _ _).mono ?_;rintro e w' ⟨rfl,rfl⟩)
    go_round
    case rel =>
     refine⟨k+1,by omega,by go_num,fun j h a=>?_⟩
     by_cases e:j=k
     ·subst e;exact q
     ·exact H.o j h (by omega)
    case measure=>simp[intOf];omega
   ·have q':zbn zs[k]=false:=by simpa using q
    have E:=zaa (yabs hlt q');go_wp2_with (go_at_call 106;refine(zdj _ _).mono ?_;rintro e w' ⟨rfl,rfl⟩);go_ret;exact⟨zag E.o.symm,rfl⟩
  ·have E:=zaa (yahx (fun j h=>H.o j h (by omega)));clear H;go_wp2;go_ret;exact⟨zag E.o.symm,rfl⟩
end Go.Proofs.YtdiaiejmoocpmaaGreatDoor
