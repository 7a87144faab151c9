import Derived.Test.YtogcbbkhnpmgeaaGreatDoorZAO
namespace Go.Proofs.YtogcbbkhnpmgeaaGreatDoor
open Go.RowKit
theorem zkv{ws:List Ino}:∀ {i:Nat} {x:Ino},i<ws.length->zap (ws.set i x)=zap (ws.take i)++zdd x.map++zap (ws.drop (i+1)):=by
 intro i x h;unfold zap;rw[List.set_eq_take_append_cons_drop,if_pos h,List.flatMap_append,List.flatMap_cons,List.append_assoc]
theorem zlf{ws:List Ino}{i:Nat}(h:i<ws.length):zap ws=zap (ws.take i)++zdd (zam ws i).map++zap (ws.drop (i+1)):=by
 have:ws=ws.set i (zam ws i):=by
  apply List.ext_getElem?;intro j;rw[List.getElem?_set]
  by_cases e:i=j
  ·subst e;rw[if_pos rfl,if_pos h,zbj h,List.getElem?_eq_getElem h]
  ·rw[if_neg e]
 have q:=zkv (x:=zam ws i) h;rw[<- this]at q;exact q
theorem zmh{ws:List Ino}{i:Nat}{x:Ino}(h:i<ws.length)(s:(zap ws).Pairwise fun x y=>x≠y)(hs:(zdd x.map).Sublist (zdd (zam ws i).map)):(zap (ws.set i x)).Pairwise fun x y=>x≠y:=by
 rw[zkv h];rw[zlf h]at s;exact s.sublist ((List.Sublist.append (List.Sublist.append (List.Sublist.refl _) hs) (List.Sublist.refl _)))
theorem zmg{ws:List Ino}{i:Nat}(h:i<ws.length)(x:Ino)(c:Int)(hc:0<=c):zai (ws.set i x) c=if c=(i:Int)then x.kind else zai ws c:=by
 obtain⟨n,rfl⟩:∃ n:Nat,c=(n:Int):=⟨c.toNat,by omega⟩
 rw[zbd,zbd,zcn h]
 by_cases e:n=i
 ·rw[if_pos e,if_pos (by omega)]
 ·rw[if_neg e,if_neg (by omega)]
theorem Img.ent'{ws:List Ino}{ps:List Den}(h:Img ws ps):∀ k,k<ps.length->zat ps k=freeD\/zhg ws (zat ps k):=fun k hk=>h.ent k (by have:=h.l24;omega)
theorem Img.dir{ws:List Ino}{ps:List Den}(h:Img ws ps){c:Int}(hc:0<=c)(hu:0<=upD ps c):zai ws (upD ps c)=2/\upD ps c<=15:=by
 obtain⟨k,hk,_,e,q⟩:=yapv h.ent' hc hu;rw[<- e];exact⟨q.2.2.2.2,q.2.1.2⟩
theorem Img.rch{ws:List Ino}{ps:List Den}(h:Img ws ps){i:Nat}(hi:i<16)(k:(zam ws i).kind=2):Rch ps (i:Int):=⟨16,h.hang i hi k⟩
theorem Img.free{ws:List Ino}{ps:List Den}(h:Img ws ps){i:Nat}(hi:i<16)(k:(zam ws i).kind=0):zam ws i=zgg/\(∀ j,j<24->¬ (zat ps j).child=(i:Int))/\¬ i=0:=by
 have i0:¬ i=0:=by
  intro e;have:=h.root;rw[show(0:Int)=((0:Nat):Int)from rfl,zbd,<- e,k]at this
  cases this
 have o:=h.ok i hi;unfold zdp zex at o;rw[k,if_pos rfl]at o;simp only[Bool.and_eq_true,decide_eq_true_eq]at o;obtain⟨_,_,_,_,o1,o2,o3⟩:=o;have l:=h.links i hi;rw[if_neg i0,o2]at l
 have c0:zjd ps (i:Int)=0:=by omega
 refine⟨?_,fun j hj=>zly c0 j (by rw[h.l24];exact hj),i0⟩;generalize zam ws i=x at *;obtain⟨a,b,c,m0,m1,m2,m3,m4,m5,m6,m7⟩:=x;simp only at k o1 o2;simp only[Ino.map,List.cons.injEq]at o3;obtain⟨rfl,rfl,rfl,rfl,rfl,rfl,rfl,rfl,_⟩:=o3;subst k o1 o2;rfl
theorem yakt {ws:List Ino} {ps:List Den} (h:Img ws ps) {i k:Nat} {kind d:Int} {nm:ByteArray} (hi:i<16) (fi:(zam ws i).kind=0) (hk:k<24) (fk:zat ps k=freeD) (kd:kind=1\/kind=2)
  (hd:0<=d/\d<=15) (dd:zai ws d=2) (hn:nmB nm=true) (new:∀ j,j<24->0<=(zat ps j).child->(zat ps j).dir=d->¬ (zat ps j).name=nm) :
  Img (ws.set i ⟨kind,0,1,0,0,0,0,0,0,0,0⟩) (ps.set k ⟨d,nm,(i:Int)⟩):=by
 obtain⟨zi,nochild,i0⟩:=h.free hi fi
 have hi':i<ws.length:=by rw[h.l16];exact hi
 have hk':k<ps.length:=by rw[h.l24];exact hk
 have hdi:¬ d=(i:Int):=by
  intro e;rw[e,zbd,fi]at dd
  cases dd
 have KA:=fun c hc=>zmg hi' (⟨kind,0,1,0,0,0,0,0,0,0,0⟩:Ino) c hc
 have entn:∀ j,j<24->zat (ps.set k ⟨d,nm,(i:Int)⟩) j=freeD\/zhg (ws.set i ⟨kind,0,1,0,0,0,0,0,0,0,0⟩) (zat (ps.set k ⟨d,nm,(i:Int)⟩) j):=by
  intro j hj;rw[zax hk']
  by_cases e:j=k
  ·rw[if_pos e];right;refine⟨⟨?_,?_⟩,hd,hn,?_,?_⟩
   ·show 1<=(i:Int);omega
   ·show(i:Int)<=15;omega
   ·show ¬ zai _ (i:Int)=0
    rw[KA _ (by omega),if_pos rfl]
    show ¬ kind=0
    omega
   ·show zai _ d=2
    rw[KA _ hd.1,if_neg hdi];exact dd
  ·rw[if_neg e]
   rcases h.ent j hj with q | q
   ·exact .inl q
   ·right;obtain⟨q1,q2,q3,q4,q5⟩:=q;refine⟨q1,q2,q3,?_,?_⟩
    ·rw[KA _ (by omega),if_neg (nochild j hj)];exact q4
    ·rw[KA _ q2.1,if_neg (by intro e;rw[e,zbd,fi]at q5;cases q5)];exact q5
 have entn':∀ j,j<(ps.set k ⟨d,nm,(i:Int)⟩).length->zat (ps.set k ⟨d,nm,(i:Int)⟩) j=freeD\/zhg (ws.set i ⟨kind,0,1,0,0,0,0,0,0,0,0⟩) (zat (ps.set k ⟨d,nm,(i:Int)⟩) j):=fun j hj=>entn j (by rw[List.length_set,h.l24]at hj;exact hj)
 have US:∀ c,0<=c->¬ c=(i:Int)->upD (ps.set k ⟨d,nm,(i:Int)⟩) c=upD ps c:=by
  intro c hc ne;refine zta (by simp) ?_;intro j hj;rw[zax hk']
  by_cases e:j=k
  ·rw[if_pos e];right;refine⟨fun q=>ne q.symm,?_⟩;rw[e,fk];intro q;have:(-1:Int)=c:=q;omega
  ·rw[if_neg e];exact .inl rfl
 have UI:upD (ps.set k ⟨d,nm,(i:Int)⟩) (i:Int)=d:=by
  have q:=yags (ps:=ps.set k ⟨d,nm,(i:Int)⟩) (c:=(i:Int)) (k:=k) (by rw[List.length_set];exact hk') (by rw[zax hk',if_pos rfl]) (fun j hj e=>by
   rw[List.length_set,h.l24]at hj;rw[zax hk']at e
   by_cases ej:j=k
   ·exact ej
   ·rw[if_neg ej]at e
    exact absurd e (nochild j hj))
  rw[q,zax hk',if_pos rfl]
 have KEEP:∀ c,Rch ps c->0<=c->¬ c=(i:Int)->Rch (ps.set k ⟨d,nm,(i:Int)⟩) c:=by
  intro c hr hc ne;refine zmc (G:=fun c=>0<=c) (i:=(i:Int)) (fun c hc hu=>⟨?_,hu⟩) (fun c hc ne=>US c hc ne) hr hc ne;intro e;have:=(h.dir hc hu).1;rw[e,zbd,fi]at this
  cases this
 refine⟨by rw[List.length_set];exact h.l16,by rw[List.length_set];exact h.l24,?_,?_,entn,?_,?_,?_,?_⟩
 ·rw[KA 0 (by omega),if_neg (by omega)];exact h.root
 ·intro j hj;rw[zcn hi']
  by_cases e:j=i
  ·rw[if_pos e]
   rcases kd with rfl|rfl<;>decide
  ·rw[if_neg e];exact h.ok j hj
 ·intro j l hj hl cj cl ed en;rw[zax hk']at cj ed en;rw[zax hk' _ l]at cl ed en
  by_cases e1:j=k
  ·by_cases e2:l=k
   ·omega
   ·rw[if_pos e1,if_neg e2]at ed en;rw[if_neg e2]at cl;exact absurd en.symm (new l hl cl ed.symm)
  ·by_cases e2:l=k
   ·rw[if_neg e1,if_pos e2]at ed en;rw[if_neg e1]at cj;exact absurd en (new j hj cj ed)
   ·rw[if_neg e1,if_neg e2]at ed en;rw[if_neg e1]at cj;rw[if_neg e2]at cl;exact h.once j l hj hl cj cl ed en
 ·intro j hj;have c:=zgu ps k ⟨d,nm,(i:Int)⟩ (j:Int) hk';rw[fk,if_neg (show ¬ freeD.child=(j:Int) by show ¬ (-1:Int)=(j:Int);omega)]at c;rw[zcn hi']
  by_cases e:j=i
  ·rw[if_pos (show(i:Int)=(j:Int) by omega)]at c
   have c0:zjd ps (j:Int)=0:=yakz fun l hl=>by rw[h.l24]at hl;rw[e];exact nochild l hl
   rw[if_pos e,if_neg (by omega)]
   show 0+((zjd _ (j:Int):Nat):Int)=1
   omega
  ·rw[if_neg (show ¬ (i:Int)=(j:Int) by omega)]at c;rw[if_neg e,<- h.links j hj]
   have:zjd (ps.set k ⟨d,nm,(i:Int)⟩) (j:Int)=zjd ps (j:Int):=by omega
   rw[this]
 ·intro j hj kj;rw[zcn hi']at kj;refine zmi ?_ ⟨by omega,by omega⟩ (yanz entn')
  by_cases e:j=i
  ·rw[e];refine zka (by rw[UI];exact hd.1) ?_;rw[UI]
   obtain⟨n,rfl⟩:∃ n:Nat,d=(n:Int):=⟨d.toNat,by omega⟩
   exact KEEP _ (h.rch (by omega) (by rw[<- zbd];exact dd)) hd.1 hdi
  ·rw[if_neg e]at kj;exact KEEP _ (h.rch hj kj) (by omega) (by omega)
 ·refine zmh hi' h.sing ?_;exact List.nil_sublist _
def zcl(x:Ino):Ino:=if 1<x.links then⟨x.kind,x.size,x.links-1,x.m0,x.m1,x.m2,x.m3,x.m4,x.m5,x.m6,x.m7⟩else zgg
def zgm(x:Ino):Ino:=⟨x.kind,x.size,x.links+1,x.m0,x.m1,x.m2,x.m3,x.m4,x.m5,x.m6,x.m7⟩
theorem zbr{x:Ino}(h:zdp x=true):(0<=x.kind/\x.kind<=2)/\(0<=x.size/\x.size<=8)/\(0<=x.links/\x.links<=24)/\mapB x.map x.size=true/\zex x=true:=by
 unfold zdp at h;simp only[Bool.and_eq_true,decide_eq_true_eq]at h;exact h
theorem yabf{x:Ino}(h1:0<=x.kind/\x.kind<=2)(h2:0<=x.size/\x.size<=8)(h3:0<=x.links/\x.links<=24)(h4:mapB x.map x.size=true)(h5:zex x=true):zdp x=true:=by
 unfold zdp;rw[decide_eq_true h1,decide_eq_true h2,decide_eq_true h3,h4,h5];rfl
theorem zjk{x:Ino}(h:zdp x=true)(k:x.kind=2):x.links=1/\x.size=0:=by
 have:=(zbr h).2.2.2.2;unfold zex at this;rw[if_neg (by omega),if_pos k]at this;simp only[Bool.and_eq_true,beq_iff_eq]at this;exact⟨this.2,this.1⟩
theorem yadl{x:Ino}(h:zdp x=true)(k:¬ x.kind=0):0<x.links:=by
 by_cases q:x.kind=2
 ·rw[(zjk h q).1];decide
 ·have:=(zbr h).2.2.2.2;unfold zex at this;rw[if_neg k,if_neg q]at this;simpa using this
theorem yaro{x:Ino}(h:zdp x=true):zdp (zcl x)=true:=by
 unfold zcl
 split
 ·rename_i q;obtain⟨a,b,c,d,e⟩:=zbr h
  have k2:¬ x.kind=2:=fun k=>by have:=(zjk h k).1;omega
  have k0:¬ x.kind=0:=by
   intro k;unfold zex at e;rw[if_pos k]at e;have:=(of_decide_eq_true e).2.1;omega
  refine yabf a b ⟨by show 0<=x.links-1;omega,by show x.links-1<=24;omega⟩ d ?_;unfold zex;rw[if_neg k0,if_neg k2];exact decide_eq_true (show 0<x.links-1 by omega)
 ·decide
theorem yaql{x:Ino}(h:zdp x=true)(k:x.kind=1)(l:x.links<24):zdp (zgm x)=true:=by
 obtain⟨a,b,c,d,e⟩:=zbr h;refine yabf a b ⟨by show 0<=x.links+1;omega,by show x.links+1<=24;omega⟩ d ?_;unfold zex;rw[if_neg (by show ¬ x.kind=0;omega),if_neg (by show ¬ x.kind=2;omega)];exact decide_eq_true (show 0<x.links+1 by omega)
theorem yaeh{x:Ino}:(zdd (zcl x).map).Sublist (zdd x.map):=by
 unfold zcl
 split
 ·exact List.Sublist.refl _
 ·exact List.nil_sublist _
theorem yaur(ps:List Den)(c:Int):zjd ps c<=ps.length:=List.length_filter_le _ _
theorem yaob{ps:List Den}{c:Int}{k:Nat}(hk:k<ps.length)(ne:¬ (zat ps k).child=c):zjd ps c<ps.length:=by
 have a:=zgu ps k ⟨0,⟨#[]⟩,c⟩ c hk;rw[if_neg ne,if_pos rfl]at a;have:=yaur (ps.set k ⟨0,⟨#[]⟩,c⟩) c;rw[List.length_set]at this;omega
theorem yact{ws:List Ino}{ps:List Den}(h:Img ws ps){i k:Nat}(hk:k<24)(ci:(zat ps k).child=(i:Int))(em:∀ j,j<24->¬ (0<=(zat ps j).child/\(zat ps j).dir=(i:Int))) :
  Img (ws.set i (zcl (zam ws i))) (ps.set k freeD):=by
 have hk':k<ps.length:=by rw[h.l24];exact hk
 have ek:zhg ws (zat ps k):=by
  rcases h.ent k hk with q | q
  ·rw[q]at ci;have:(-1:Int)=(i:Int):=ci;omega
  ·exact q
 have hi:i<16:=by have:=ek.1;omega
 have i0:¬ i=0:=by have:=ek.1;omega
 have hi':i<ws.length:=by rw[h.l16];exact hi
 have ki:¬ (zam ws i).kind=0:=by rw[<- zbd,<- ci];exact ek.2.2.2.1
 have KA:=fun c hc=>zmg hi' (zcl (zam ws i)) c hc
 have noin:∀ c,0<=c->0<=upD ps c->¬ upD ps c=(i:Int):=by
  intro c hc hu e;obtain⟨j,hj,cj,dj,q⟩:=yapv h.ent' hc hu;exact em j (by rw[h.l24]at hj;exact hj) ⟨by omega,by rw[dj,e]⟩
 have ln:=h.links i hi;rw[if_neg i0]at ln
 have entn:∀ j,j<24->zat (ps.set k freeD) j=freeD\/zhg (ws.set i (zcl (zam ws i))) (zat (ps.set k freeD) j):=by
  intro j hj;rw[zax hk']
  by_cases e:j=k
  ·rw[if_pos e];exact .inl rfl
  ·rw[if_neg e]
   rcases h.ent j hj with q | q
   ·exact .inl q
   ·right
    have dne:¬ (zat ps j).dir=(i:Int):=fun e=>em j hj ⟨by have:=q.1;omega,e⟩
    obtain⟨q1,q2,q3,q4,q5⟩:=q;refine⟨q1,q2,q3,?_,?_⟩
    ·rw[KA _ (by omega)]
     by_cases e2:(zat ps j).child=(i:Int)
     ·rw[if_pos e2]
      have two:1<(zam ws i).links:=by
       have a:=zgu ps k freeD (i:Int) hk';rw[if_pos ci,if_neg (show ¬ freeD.child=(i:Int) by show ¬ (-1:Int)=(i:Int);omega)]at a
       have b:¬ zjd (ps.set k freeD) (i:Int)=0:=by
        intro z;refine zly z j (by rw[List.length_set,h.l24];exact hj) ?_;rw[zax hk',if_neg e];exact e2
       omega
      unfold zcl;rw[if_pos two];exact ki
     ·rw[if_neg e2];exact q4
    ·rw[KA _ q2.1,if_neg dne];exact q5
 have entn':∀ j,j<(ps.set k freeD).length->zat (ps.set k freeD) j=freeD\/zhg (ws.set i (zcl (zam ws i))) (zat (ps.set k freeD) j):=fun j hj=>entn j (by rw[List.length_set,h.l24]at hj;exact hj)
 have US:∀ c,0<=c->¬ c=(i:Int)->upD (ps.set k freeD) c=upD ps c:=by
  intro c hc ne;refine zta (by simp) ?_;intro j hj;rw[zax hk']
  by_cases e:j=k
  ·rw[if_pos e];right;refine⟨?_,?_⟩
   ·intro q;have:(-1:Int)=c:=q;omega
   ·rw[e,ci];exact fun q=>ne q.symm
  ·rw[if_neg e];exact .inl rfl
 refine⟨by rw[List.length_set];exact h.l16,by rw[List.length_set];exact h.l24,?_,?_,entn,?_,?_,?_,?_⟩
 ·rw[KA 0 (by omega),if_neg (by omega)];exact h.root
 ·intro j hj;rw[zcn hi']
  by_cases e:j=i
  ·rw[if_pos e];exact yaro (h.ok i hi)
  ·rw[if_neg e];exact h.ok j hj
 ·intro j l hj hl cj cl ed en;rw[zax hk']at cj ed en;rw[zax hk' _ l]at cl ed en
  have e1:¬ j=k:=by
   intro e;rw[if_pos e]at cj;exact absurd cj (by decide)
  have e2:¬ l=k:=by
   intro e;rw[if_pos e]at cl;exact absurd cl (by decide)
  rw[if_neg e1,if_neg e2]at ed en;rw[if_neg e1]at cj;rw[if_neg e2]at cl;exact h.once j l hj hl cj cl ed en
 ·intro j hj;have c:=zgu ps k freeD (j:Int) hk';rw[if_neg (show ¬ freeD.child=(j:Int) by show ¬ (-1:Int)=(j:Int);omega)]at c;rw[zcn hi']
  by_cases e:j=i
  ·rw[if_pos (show(zat ps k).child=(j:Int) by rw[ci];omega)]at c;rw[if_pos e,if_neg (by omega)];have l1:=yadl (h.ok i hi) ki;rw[e]at c ⊢;unfold zcl
   by_cases two:1<(zam ws i).links
   ·rw[if_pos two]
    show 0+((zjd _ (i:Int):Nat):Int)=(zam ws i).links-1
    omega
   ·rw[if_neg two]
    show 0+((zjd _ (i:Int):Nat):Int)=0
    omega
  ·rw[if_neg (show ¬ (zat ps k).child=(j:Int) by rw[ci];omega)]at c;rw[if_neg e,<- h.links j hj]
   have:zjd (ps.set k freeD) (j:Int)=zjd ps (j:Int):=by omega
   rw[this]
 ·intro j hj kj;rw[zcn hi']at kj
  have e:¬ j=i:=by
   intro e;rw[if_pos e]at kj;unfold zcl at kj
   split at kj
   ·rename_i two;have:=(zjk (h.ok i hi) kj).1;omega
   ·exact absurd kj (by decide)
  rw[if_neg e]at kj;refine zmi ?_ ⟨by omega,by omega⟩ (yanz entn');exact zmc (G:=fun c=>0<=c) (i:=(i:Int)) (fun c hc hu=>⟨noin c hc hu,hu⟩) (fun c hc ne=>US c hc ne) (h.rch hj kj) (by omega) (by omega)
 ·exact zmh hi' h.sing yaeh
theorem yamp {ws:List Ino} {ps:List Den} (h:Img ws ps) {i k:Nat} {d:Int} {nm:ByteArray} (hi:i<16) (i0:¬ i=0) (ki:(zam ws i).kind=1) (hk:k<24) (fk:zat ps k=freeD)
  (hd:0<=d/\d<=15) (dd:zai ws d=2) (hn:nmB nm=true) (new:∀ j,j<24->0<=(zat ps j).child->(zat ps j).dir=d->¬ (zat ps j).name=nm) :
  Img (ws.set i (zgm (zam ws i))) (ps.set k ⟨d,nm,(i:Int)⟩):=by
 have hi':i<ws.length:=by rw[h.l16];exact hi
 have hk':k<ps.length:=by rw[h.l24];exact hk
 have KA:∀ c,0<=c->zai (ws.set i (zgm (zam ws i))) c=zai ws c:=by
  intro c hc;rw[zmg hi' _ c hc]
  by_cases e:c=(i:Int)
  ·rw[if_pos e,e,zbd];rfl
  ·rw[if_neg e]
 have room:=yaob (c:=(i:Int)) hk' (by rw[fk];show ¬ (-1:Int)=(i:Int);omega);have ln:=h.links i hi;rw[if_neg i0]at ln
 have entn:∀ j,j<24->zat (ps.set k ⟨d,nm,(i:Int)⟩) j=freeD\/zhg (ws.set i (zgm (zam ws i))) (zat (ps.set k ⟨d,nm,(i:Int)⟩) j):=by
  intro j hj;rw[zax hk']
  by_cases e:j=k
  ·rw[if_pos e];right;refine⟨⟨?_,?_⟩,hd,hn,?_,?_⟩
   ·show 1<=(i:Int);omega
   ·show(i:Int)<=15;omega
   ·show ¬ zai _ (i:Int)=0
    rw[KA _ (by omega),zbd,ki];decide
   ·show zai _ d=2
    rw[KA _ hd.1];exact dd
  ·rw[if_neg e]
   rcases h.ent j hj with q | q
   ·exact .inl q
   ·right;obtain⟨q1,q2,q3,q4,q5⟩:=q;exact⟨q1,q2,q3,by rw[KA _ (by omega)];exact q4,by rw[KA _ q2.1];exact q5⟩
 have entn':∀ j,j<(ps.set k ⟨d,nm,(i:Int)⟩).length->zat (ps.set k ⟨d,nm,(i:Int)⟩) j=freeD\/zhg (ws.set i (zgm (zam ws i))) (zat (ps.set k ⟨d,nm,(i:Int)⟩) j):=fun j hj=>entn j (by rw[List.length_set,h.l24]at hj;exact hj)
 have US:∀ c,0<=c->¬ c=(i:Int)->upD (ps.set k ⟨d,nm,(i:Int)⟩) c=upD ps c:=by
  intro c hc ne;refine zta (by simp) ?_;intro j hj;rw[zax hk']
  by_cases e:j=k
  ·rw[if_pos e];right;refine⟨fun q=>ne q.symm,?_⟩;rw[e,fk];intro q;have:(-1:Int)=c:=q;omega
  ·rw[if_neg e];exact .inl rfl
 refine⟨by rw[List.length_set];exact h.l16,by rw[List.length_set];exact h.l24,?_,?_,entn,?_,?_,?_,?_⟩
 ·rw[KA 0 (by omega)];exact h.root
 ·intro j hj;rw[zcn hi']
  by_cases e:j=i
  ·rw[if_pos e];refine yaql (h.ok i hi) ki ?_;have:=h.l24;omega
  ·rw[if_neg e];exact h.ok j hj
 ·intro j l hj hl cj cl ed en;rw[zax hk']at cj ed en;rw[zax hk' _ l]at cl ed en
  by_cases e1:j=k
  ·by_cases e2:l=k
   ·omega
   ·rw[if_pos e1,if_neg e2]at ed en;rw[if_neg e2]at cl;exact absurd en.symm (new l hl cl ed.symm)
  ·by_cases e2:l=k
   ·rw[if_neg e1,if_pos e2]at ed en;rw[if_neg e1]at cj;exact absurd en (new j hj cj ed)
   ·rw[if_neg e1,if_neg e2]at ed en;rw[if_neg e1]at cj;rw[if_neg e2]at cl;exact h.once j l hj hl cj cl ed en
 ·intro j hj;have c:=zgu ps k ⟨d,nm,(i:Int)⟩ (j:Int) hk';rw[fk,if_neg (show ¬ freeD.child=(j:Int) by show ¬ (-1:Int)=(j:Int);omega)]at c;rw[zcn hi']
  by_cases e:j=i
  ·rw[if_pos (show(i:Int)=(j:Int) by omega)]at c;rw[if_pos e,if_neg (by omega)];rw[e]at c ⊢
   show 0+((zjd _ (i:Int):Nat):Int)=(zam ws i).links+1
   omega
  ·rw[if_neg (show ¬ (i:Int)=(j:Int) by omega)]at c;rw[if_neg e,<- h.links j hj]
   have:zjd (ps.set k ⟨d,nm,(i:Int)⟩) (j:Int)=zjd ps (j:Int):=by omega
   rw[this]
 ·intro j hj kj;rw[zcn hi']at kj
  have e:¬ j=i:=by
   intro e;rw[if_pos e]at kj;have:(zam ws i).kind=2:=kj;omega
  rw[if_neg e]at kj;refine zmi ?_ ⟨by omega,by omega⟩ (yanz entn');refine zmc (G:=fun c=>0<=c) (i:=(i:Int)) (fun c hc hu=>⟨?_,hu⟩) (fun c hc ne=>US c hc ne) (h.rch hj kj) (by omega) (by omega);intro e;have:=(h.dir hc hu).1;rw[e,zbd,ki]at this
  cases this
 ·refine zmh hi' h.sing ?_;exact List.Sublist.refl _
theorem yabx {ws:List Ino} {ps:List Den} (h:Img ws ps) {i k:Nat} {d:Int} {nm:ByteArray} (hk:k<24) (ci:(zat ps k).child=(i:Int))
  (hd:0<=d/\d<=15) (dd:zai ws d=2) (hn:nmB nm=true) (new:∀ j,j<24->0<=(zat ps j).child->(zat ps j).dir=d->¬ (zat ps j).name=nm)
  (loop:¬ (zai ws (i:Int)=2/\zpt ps 17 d (i:Int)=true)) :
  Img ws (ps.set k ⟨d,nm,(i:Int)⟩):=by
 have hk':k<ps.length:=by rw[h.l24];exact hk
 have ek:zhg ws (zat ps k):=by
  rcases h.ent k hk with q | q
  ·rw[q]at ci;have:(-1:Int)=(i:Int):=ci;omega
  ·exact q
 have hi:i<16:=by have:=ek.1;omega
 have i0:¬ i=0:=by have:=ek.1;omega
 have entn:∀ j,j<24->zat (ps.set k ⟨d,nm,(i:Int)⟩) j=freeD\/zhg ws (zat (ps.set k ⟨d,nm,(i:Int)⟩) j):=by
  intro j hj;rw[zax hk']
  by_cases e:j=k
  ·rw[if_pos e];right;refine⟨⟨by show 1<=(i:Int);omega,by show(i:Int)<=15;omega⟩,hd,hn,?_,dd⟩
   show ¬ zai ws (i:Int)=0
   rw[<- ci];exact ek.2.2.2.1
  ·rw[if_neg e];exact h.ent j hj
 have entn':∀ j,j<(ps.set k ⟨d,nm,(i:Int)⟩).length->zat (ps.set k ⟨d,nm,(i:Int)⟩) j=freeD\/zhg ws (zat (ps.set k ⟨d,nm,(i:Int)⟩) j):=fun j hj=>entn j (by rw[List.length_set,h.l24]at hj;exact hj)
 have US:∀ c,0<=c->¬ c=(i:Int)->upD (ps.set k ⟨d,nm,(i:Int)⟩) c=upD ps c:=by
  intro c hc ne;refine zta (by simp) ?_;intro j hj;rw[zax hk']
  by_cases e:j=k
  ·rw[if_pos e];right;refine⟨fun q=>ne q.symm,?_⟩;rw[e,ci]
   exact fun q=>ne q.symm
  ·rw[if_neg e];exact .inl rfl
 have CN:∀ c:Int,zjd (ps.set k ⟨d,nm,(i:Int)⟩) c=zjd ps c:=by
  intro c;have a:=zgu ps k ⟨d,nm,(i:Int)⟩ c hk';rw[ci]at a;have b:(if (i:Int)=c then(1:Nat)else 0)=(if (Den.mk d nm (i:Int)).child=c then 1 else 0):=rfl;omega
 have ALL:∀ c,Rch ps c->0<=c->zai ws c=2->Rch (ps.set k ⟨d,nm,(i:Int)⟩) c:=by
  by_cases ki:zai ws (i:Int)=2
  ·have nb:zpt ps 17 d (i:Int)=false:=by
    cases q:zpt ps 17 d (i:Int) with
    | false=>rfl
    | true=>exact absurd ⟨ki,q⟩ loop
   have UI:upD (ps.set k ⟨d,nm,(i:Int)⟩) (i:Int)=d:=by
    have one:zjd ps (i:Int)=1:=by
     have l:=h.links i hi;rw[if_neg i0,(zjk (h.ok i hi) (by rw[<- zbd];exact ki)).1]at l;omega
    have q:=yags (ps:=ps.set k ⟨d,nm,(i:Int)⟩) (c:=(i:Int)) (k:=k) (by rw[List.length_set];exact hk') (by rw[zax hk',if_pos rfl]) (fun j hj e=>by
     rw[List.length_set]at hj;rw[zax hk']at e
     by_cases ej:j=k
     ·exact ej
     ·rw[if_neg ej]at e
      exact yaqu one hj hk' e ci)
    rw[q,zax hk',if_pos rfl]
   obtain⟨dn,rfl⟩:∃ n:Nat,d=(n:Int):=⟨d.toNat,by omega⟩
   have rd:Rch (ps.set k ⟨(dn:Int),nm,(i:Int)⟩) (dn:Int):=zpx US 16 _ (h.hang dn (by omega) (by rw[<- zbd];exact dd)) (by omega) nb;have ri:Rch (ps.set k ⟨(dn:Int),nm,(i:Int)⟩) (i:Int):=zka (by rw[UI];omega) (by rw[UI];exact rd);intro c hr hc _
   have:0<=c->Rch (ps.set k ⟨(dn:Int),nm,(i:Int)⟩) c:=by
    refine yaia (P:=fun c=>0<=c->Rch (ps.set k ⟨(dn:Int),nm,(i:Int)⟩) c) hr (fun _=>zsk _) ?_;intro c c0 cu ih hc
    by_cases e:c=(i:Int)
    ·rw[e];exact ri
    ·have u:=US c hc e;refine zka (by rw[u];exact cu) ?_;rw[u];exact ih cu
   exact this hc
  ·intro c hr hc kc;refine zmc (G:=fun c=>0<=c) (i:=(i:Int)) (fun c hc hu=>⟨?_,hu⟩) (fun c hc ne=>US c hc ne) hr hc (fun e=>ki (by rw[<- e];exact kc));intro e;have:=(h.dir hc hu).1;rw[e]at this;exact ki this
 refine⟨h.l16,by rw[List.length_set];exact h.l24,h.root,h.ok,entn,?_,?_,?_,h.sing⟩
 ·intro j l hj hl cj cl ed en;rw[zax hk']at cj ed en;rw[zax hk' _ l]at cl ed en
  by_cases e1:j=k
  ·by_cases e2:l=k
   ·omega
   ·rw[if_pos e1,if_neg e2]at ed en;rw[if_neg e2]at cl;exact absurd en.symm (new l hl cl ed.symm)
  ·by_cases e2:l=k
   ·rw[if_neg e1,if_pos e2]at ed en;rw[if_neg e1]at cj;exact absurd en (new j hj cj ed)
   ·rw[if_neg e1,if_neg e2]at ed en;rw[if_neg e1]at cj;rw[if_neg e2]at cl;exact h.once j l hj hl cj cl ed en
 ·intro j hj;rw[CN];exact h.links j hj
 ·intro j hj kj;refine zmi ?_ ⟨by omega,by omega⟩ (yanz entn');exact ALL _ (h.rch hj kj) (by omega) (by rw[zbd];exact kj)
end Go.Proofs.YtogcbbkhnpmgeaaGreatDoor
