import Derived.Test.YtfagbapgnocjiaaGreatDoorZAW
set_option maxRecDepth 100000
set_option maxHeartbeats 8000000
namespace Go.Proofs.YtfagbapgnocjiaaGreatDoor
open Go.RowKit
def inoM(kind size links:Int)(zs:List Int):Ino:=⟨kind,size,links,zs.getD 0 0,zs.getD 1 0,zs.getD 2 0,zs.getD 3 0,zs.getD 4 0,zs.getD 5 0,zs.getD 6 0,zs.getD 7 0⟩
theorem zlr{kind size links:Int}{zs:List Int}(h:zs.length=8):(inoM kind size links zs).map=zs:=by
 match zs,h with
 | [a,b,c,d,e,f,g,i],_=>rfl
theorem zuy{ws:List Ino}{ps:List Den}(h:Img ws ps){i:Nat}{x:Ino}(hi:i<16)(kx:x.kind=(zal ws i).kind)(lx:x.links=(zal ws i).links)(ox:zdp x=true)(sx:(zaq (ws.set i x)).Pairwise fun x y=>x≠y) :
  Img (ws.set i x) ps:=by
 have hi':i<ws.length:=by rw[h.l16];exact hi
 have KA:∀ c,0<=c->zag (ws.set i x) c=zag ws c:=by
  intro c hc;rw[zlw hi' _ c hc]
  by_cases e:c=(i:Int)
  ·rw[if_pos e,e,zbd,kx]
  ·rw[if_neg e]
 refine⟨by rw[List.length_set];exact h.l16,h.l24,?_,?_,?_,h.once,?_,?_,sx⟩
 ·rw[KA 0 (by omega)];exact h.root
 ·intro j hj;rw[zci hi']
  by_cases e:j=i
  ·rw[if_pos e];exact ox
  ·rw[if_neg e];exact h.ok j hj
 ·intro k hk
  rcases h.ent k hk with q | q
  ·exact .inl q
  ·obtain⟨q1,q2,q3,q4,q5⟩:=q;exact .inr ⟨q1,q2,q3,by rw[KA _ (by omega)];exact q4,by rw[KA _ q2.1];exact q5⟩
 ·intro j hj;rw[zci hi']
  by_cases e:j=i
  ·rw[if_pos e,lx,<- e];exact h.links j hj
  ·rw[if_neg e];exact h.links j hj
 ·intro j hj kj;rw[zci hi']at kj
  by_cases e:j=i
  ·rw[if_pos e,kx,<- e]at kj;exact h.hang j hj kj
  ·rw[if_neg e]at kj;exact h.hang j hj kj
theorem yafr{l:List Int}{p:Nat}{e:Int}(hp:p<l.length)(he:¬ e=0):zcz (l.set p e)=zcz (l.take p)++[e]++zcz (l.drop (p+1)):=by
 unfold zcz;rw[List.set_eq_take_append_cons_drop,if_pos hp,List.filter_append,List.filter_cons,if_pos (by simpa using he),List.append_assoc];rfl
theorem zwy{l:List Int}{p:Nat}(hp:p<l.length):(zcz (l.take p)++zcz (l.drop (p+1))).Sublist (zcz l):=by
 unfold zcz;rw[<- List.filter_append];apply List.Sublist.filter
 have:l=l.take p++(l[p]::l.drop (p+1)):=by rw[<- List.drop_eq_getElem_cons hp,List.take_append_drop]
 conv=>rhs;rw[this]
 exact List.Sublist.append (List.Sublist.refl _) (List.sublist_cons_self _ _)
theorem yanh{ws:List Ino}{i p:Nat}{e:Int}{x:Ino}(hi:i<ws.length)(hp:p<8)(he:¬ e=0)(s:(zaq ws).Pairwise fun x y=>x≠y)(new:¬ e∈zaq ws)(hx:x.map=(zal ws i).map.set p e):(zaq (ws.set i x)).Pairwise fun x y=>x≠y:=by
 have hl:p<(zal ws i).map.length:=hp;rw[zjt hi,hx,yafr hl he];rw[zkl hi]at s new
 have sub:(zaq (ws.take i)++(zcz ((zal ws i).map.take p)++zcz ((zal ws i).map.drop (p+1)))++zaq (ws.drop (i+1))).Sublist (zaq (ws.take i)++zcz (zal ws i).map++zaq (ws.drop (i+1))) :=
  List.Sublist.append (List.Sublist.append (List.Sublist.refl _) (zwy hl)) (List.Sublist.refl _)
 have s2:=s.sublist sub
 have new2:¬ e∈zaq (ws.take i)++(zcz ((zal ws i).map.take p)++zcz ((zal ws i).map.drop (p+1)))++zaq (ws.drop (i+1)):=fun q=>new (sub.subset q)
 generalize zaq (ws.take i)=A at *;generalize zcz ((zal ws i).map.take p)=P at *;generalize zcz ((zal ws i).map.drop (p+1))=Q at *;generalize zaq (ws.drop (i+1))=B at *
 have e1:A++(P++[e]++Q)++B=(A++P)++e::(Q++B):=by simp
 have e2:A++(P++Q)++B=(A++P)++(Q++B):=by simp
 rw[e2]at s2 new2;rw[e1];rw[List.pairwise_append]at s2 ⊢;refine⟨s2.1,?_,?_⟩
 ·rw[List.pairwise_cons];exact⟨fun y hy q=>new2 (by rw[List.mem_append];right;rw[q];exact hy),s2.2.1⟩
 ·intro a ha b hb;rw[List.mem_cons]at hb
  rcases hb with rfl | hb
  ·intro q;exact new2 (by rw[List.mem_append];left;rw[<- q];exact ha)
  ·exact s2.2.2 a ha b hb
theorem yapu(x:Ino):x.map.length=8:=rfl
theorem yari{x:Ino}{p:Nat}{e sz:Int}(h:zdp x=true)(k:x.kind=1)(hp:p<8)(te:zel e=true)(sx:x.size<=sz)(s8:sz<=8)(ps:(p:Int)<sz):zdp (inoM x.kind sz x.links (x.map.set p e))=true:=by
 obtain⟨a,b,c,d,f⟩:=zcf h;refine zzm a ⟨by show 0<=sz;omega,s8⟩ c ?_ ?_
 ·rw[zlr (by rw[List.length_set];rfl)];apply zsb;intro j hj;have q:=zib d j hj
  show zpz j ((x.map.set p e).getD j 0) sz=true
  rw[List.getD_eq_getElem?_getD,List.getElem?_set]
  by_cases e1:p=j
  ·subst e1;rw[if_pos rfl,if_pos (by rw[yapu];exact hp)]
   show zpz p e sz=true
   unfold zpz;rw[te,decide_eq_true ps];simp
  ·rw[if_neg e1];unfold zpz at q ⊢;rw[List.getD_eq_getElem?_getD]at q;rw[Bool.and_eq_true,Bool.or_eq_true]at q ⊢;refine⟨q.1,?_⟩
   rcases q.2 with r | r
   ·exact .inl r
   ·right
    have:(j:Int)<x.size:=by simpa using r
    simp only[decide_eq_true_eq];omega
 ·unfold zek at f ⊢;rw[if_neg (by omega),if_neg (by omega)]at f;rw[if_neg (by show ¬ x.kind=0;omega),if_neg (by show ¬ x.kind=2;omega)];exact f
theorem yaew{ws:List Ino}{ps:List Den}(h:Img ws ps){i p:Nat}{e sz:Int}(hi:i<16)(k:(zal ws i).kind=1)(hp:p<8)(te:zel e=true)(he:¬ e=0)(new:¬ e∈zaq ws)(hsz:sz=if (p:Int)<(zal ws i).size then(zal ws i).size else(p:Int)+1) :
  Img (ws.set i (inoM (zal ws i).kind sz (zal ws i).links ((zal ws i).map.set p e))) ps:=by
 have o:=zcf (h.ok i hi);refine zuy h hi rfl rfl (yari (h.ok i hi) k hp te ?_ ?_ ?_) (yanh (by rw[h.l16];exact hi) hp he h.sing new (zlr (by rw[List.length_set];rfl)))
 ·rw[hsz];split<;>omega
 ·rw[hsz];split<;>omega
 ·rw[hsz];split<;>omega
theorem yadp{x:Ino}(h:zdp x=true){p:Nat}(hp:p<8)(e:¬ x.map.getD p 0=0):(p:Int)<x.size/\x.kind=1:=by
 obtain⟨a,b,c,d,f⟩:=zcf h;have q:=zib d p hp;unfold zpz at q;rw[Bool.and_eq_true,Bool.or_eq_true,beq_iff_eq,decide_eq_true_eq]at q
 have s:(p:Int)<x.size:=by
  rcases q.2 with r | r
  ·exact absurd r e
  ·exact r
 refine⟨s,?_⟩;unfold zek at f
 by_cases k0:x.kind=0
 ·rw[if_pos k0]at f;have:=(of_decide_eq_true f).1;omega
 ·by_cases k2:x.kind=2
  ·rw[if_neg k0,if_pos k2]at f;rw[Bool.and_eq_true,beq_iff_eq]at f;omega
  ·omega
def cutM(zs:List Int)(n:Nat):List Int:=(List.range 8).map fun j=>if j<n then zs.getD j 0 else 0
theorem yaaa(zs:List Int)(n:Nat):(cutM zs n).length=8:=by simp[cutM]
theorem yahz(zs:List Int)(n j:Nat)(hj:j<8):(cutM zs n).getD j 0=if j<n then zs.getD j 0 else 0:=by
 unfold cutM;rw[List.getD_eq_getElem?_getD,List.getElem?_map,List.getElem?_range hj];rfl
theorem yarb{x:Ino}{n:Nat}(h:zdp x=true)(k:x.kind=1)(hn:n<=8):zdp (inoM x.kind (n:Int) x.links (cutM x.map n))=true:=by
 obtain⟨a,b,c,d,f⟩:=zcf h;refine zzm a ⟨by show 0<=(n:Int);omega,by show(n:Int)<=8;omega⟩ c ?_ ?_
 ·rw[zlr (yaaa _ _)];apply zsb;intro j hj;have q:=zib d j hj
  show zpz j ((cutM x.map n).getD j 0) (n:Int)=true
  rw[yahz _ _ _ hj];unfold zpz at q ⊢
  by_cases e1:j<n
  ·rw[if_pos e1];rw[Bool.and_eq_true]at q ⊢;refine⟨q.1,?_⟩;rw[decide_eq_true (show(j:Int)<(n:Int) by omega)];simp
  ·rw[if_neg e1];rfl
 ·unfold zek at f ⊢;rw[if_neg (by omega),if_neg (by omega)]at f;rw[if_neg (by show ¬ x.kind=0;omega),if_neg (by show ¬ x.kind=2;omega)];exact f
theorem yalf(x:Ino)(n:Nat):(zcz (cutM x.map n)).Sublist (zcz x.map):=by
 have e:x.map=(List.range 8).map fun j=>x.map.getD j 0:=rfl
 have gen:∀ (l:List Nat),(zcz (l.map fun j=>if j<n then x.map.getD j 0 else 0)).Sublist (zcz (l.map fun j=>x.map.getD j 0)):=by
  intro l;unfold zcz
  induction l with
  | nil=>exact List.Sublist.refl _
  | cons a l ih =>
   rw[List.map_cons,List.map_cons]
   by_cases q:a<n
   ·rw[if_pos q,List.filter_cons,List.filter_cons]
    split
    ·exact ih.cons_cons _
    ·exact ih
   ·rw[if_neg q,List.filter_cons,if_neg (by decide),List.filter_cons]
    split
    ·exact ih.cons _
    ·exact ih
 have:=gen (List.range 8);rw[<- e]at this;exact this
theorem yaqo{ws:List Ino}{ps:List Den}(h:Img ws ps){i n:Nat}(hi:i<16)(k:(zal ws i).kind=1)(hn:n<=8) :
  Img (ws.set i (inoM (zal ws i).kind (n:Int) (zal ws i).links (cutM (zal ws i).map n))) ps:=by
 refine zuy h hi rfl rfl (yarb (h.ok i hi) k hn) (zli (by rw[h.l16];exact hi) h.sing ?_);rw[zlr (yaaa _ _)];exact yalf _ _
def zco(ls:List Int)(us:List Se):List Int:=us.foldl (fun l u=>l.set u.at_.toNat u.val) ls
theorem yalh(ls:List Int):zco ls []=ls:=rfl
theorem zmm(ls:List Int)(u:Se)(us:List Se):zco ls (u::us)=zco (ls.set u.at_.toNat u.val) us:=rfl
theorem zjh(ls:List Int)(us vs:List Se):zco ls (us++vs)=zco (zco ls us) vs:=by unfold zco;rw[List.foldl_append]
theorem zfj(us:List Se):∀ (ls:List Int),(zco ls us).length=ls.length:=by
 induction us with
 | nil=>intro ls;rfl
 | cons u us ih=>intro ls;rw[zmm,ih,List.length_set]
theorem zdx{ls:List Int}{a z v:Int}(ha:0<=a)(hl:a<(ls.length:Int))(hz:0<=z):wdI (ls.set a.toNat v) z=if z=a then v else wdI ls z:=by
 unfold wdI;rw[List.getD_eq_getElem?_getD,List.getD_eq_getElem?_getD,List.getElem?_set]
 by_cases e:z=a
 ·rw[if_pos e,e,if_pos rfl,if_pos (by omega)];rfl
 ·rw[if_neg e,if_neg (by omega)]
theorem zfc{z:Int}(hz:0<=z):∀ (us:List Se) (ls:List Int),(∀ u∈us,0<=u.at_/\u.at_<(ls.length:Int)/\¬ u.at_=z)->wdI (zco ls us) z=wdI ls z:=by
 intro us
 induction us with
 | nil=>intro ls _;rfl
 | cons u us ih =>
  intro ls h;rw[zmm,ih _ (fun v hv=>by rw[List.length_set];exact h v (List.mem_cons_of_mem _ hv))];obtain⟨a,b,c⟩:=h u (List.mem_cons_self ..);rw[zdx a b hz,if_neg (fun e=>c e.symm)]
def UpIn(us:List Se):Prop:=∀ u∈us,48<=u.at_/\u.at_<312
theorem UpIn.app{us vs:List Se}(h:UpIn us)(k:UpIn vs):UpIn (us++vs):=fun u hu=>by
 rcases List.mem_append.1 hu with q | q
 ·exact h u q
 ·exact k u q
theorem zrv{ls:List Int}{us:List Se}{i:Nat}{x:Ino}(hl:ls.length=336)(ui:UpIn us)(hi:i<16)(hx:zee (zco ls us) i=x)(ho:∀ j:Nat,j<16->¬ j=i->∀ u∈us,¬ (48+12*(j:Int)<=u.at_/\u.at_<48+12*(j:Int)+11)):zbq (zco ls us) 16=(zbq ls 16).set i x:=by
 apply List.ext_getElem?;intro j;rw[List.getElem?_set];unfold zbq;rw[List.length_map,List.length_range,List.getElem?_map,List.getElem?_map]
 by_cases hj:j<16
 ·rw[List.getElem?_range hj]
  by_cases e:i=j
  ·rw[if_pos e,if_pos (by omega),<- e]
   show some (zee (zco ls us) i)=some x
   rw[hx]
  ·rw[if_neg e]
   show some (zee (zco ls us) j)=some (zee ls j)
   have W:∀ z,48+12*(j:Int)<=z/\z<48+12*(j:Int)+11->wdI (zco ls us) z=wdI ls z:=fun z hz=>zfc (by omega) us ls (fun u hu=>by
    have a:=ui u hu;have b:=ho j hj (fun q=>e q.symm) u hu;refine⟨by omega,by omega,?_⟩;intro q
    exact b (by omega))
   unfold zee;rw[W _ (by omega),W _ (by omega),W _ (by omega),W _ (by omega),W _ (by omega),W _ (by omega),W _ (by omega),W _ (by omega),W _ (by omega),W _ (by omega),W _ (by omega)]
 ·rw[List.getElem?_eq_none (by simp;omega)]
  by_cases e:i=j
  ·omega
  ·rw[if_neg e];rfl
theorem zqk{ls:List Int}{us:List Se}{k:Nat}{x:Den}(hl:ls.length=336)(ui:UpIn us)(hk:k<24)(hx:zfo (zco ls us) k=x)(ho:∀ j:Nat,j<24->¬ j=k->∀ u∈us,¬ (240+3*(j:Int)<=u.at_/\u.at_<240+3*(j:Int)+3)):zby (zco ls us) 24=(zby ls 24).set k x:=by
 apply List.ext_getElem?;intro j;rw[List.getElem?_set];unfold zby;rw[List.length_map,List.length_range,List.getElem?_map,List.getElem?_map]
 by_cases hj:j<24
 ·rw[List.getElem?_range hj]
  by_cases e:k=j
  ·rw[if_pos e,if_pos (by omega),<- e]
   show some (zfo (zco ls us) k)=some x
   rw[hx]
  ·rw[if_neg e]
   show some (zfo (zco ls us) j)=some (zfo ls j)
   have W:∀ z,240+3*(j:Int)<=z/\z<240+3*(j:Int)+3->wdI (zco ls us) z=wdI ls z:=fun z hz=>zfc (by omega) us ls (fun u hu=>by
    have a:=ui u hu;have b:=ho j hj (fun q=>e q.symm) u hu;refine⟨by omega,by omega,?_⟩;intro q
    exact b (by omega))
   unfold zfo;rw[W _ (by omega),W _ (by omega),W _ (by omega)]
 ·rw[List.getElem?_eq_none (by simp;omega)]
  by_cases e:k=j
  ·omega
  ·rw[if_neg e];rfl
theorem yaja{ls:List Int}{us:List Se}(hl:ls.length=336)(ui:UpIn us)(ho:∀ u∈us,u.at_<240):zby (zco ls us) 24=zby ls 24:=by
 have q:=zqk (k:=0) (x:=zfo (zco ls us) 0) hl ui (by omega) rfl (fun j _ _ u hu=>by have:=ho u hu;omega);rw[q]
 have W:∀ z,240<=z->wdI (zco ls us) z=wdI ls z:=fun z hz=>zfc (by omega) us ls (fun u hu=>by
  have a:=ui u hu;have b:=ho u hu
  exact⟨by omega,by omega,by omega⟩)
 have e:zfo (zco ls us) 0=zfo ls 0:=by
  unfold zfo;rw[W _ (by omega),W _ (by omega),W _ (by omega)]
 rw[e];rfl
theorem yagf{ls:List Int}{us:List Se}(hl:ls.length=336)(ui:UpIn us)(ho:∀ u∈us,240<=u.at_):zbq (zco ls us) 16=zbq ls 16:=by
 have q:=zrv (i:=0) (x:=zee (zco ls us) 0) hl ui (by omega) rfl (fun j _ _ u hu=>by have:=ho u hu;omega);rw[q]
 have W:∀ z,48<=z/\z<240->wdI (zco ls us) z=wdI ls z:=fun z hz=>zfc (by omega) us ls (fun u hu=>by
  have a:=ui u hu;have b:=ho u hu
  exact⟨by omega,by omega,by omega⟩)
 have e:zee (zco ls us) 0=zee ls 0:=by
  unfold zee;rw[W _ (by omega),W _ (by omega),W _ (by omega),W _ (by omega),W _ (by omega),W _ (by omega),W _ (by omega),W _ (by omega),W _ (by omega),W _ (by omega),W _ (by omega)]
 rw[e];rfl
theorem yaai{ls:List Int}{us:List Se}{k:Nat}(hl:ls.length=336)(ui:UpIn us)(h:zcm ls 24=true)(hk:zcp (zco ls us) k=true)(ho:∀ j:Nat,j<24->¬ j=k->∀ u∈us,¬ (240+3*(j:Int)<=u.at_/\u.at_<240+3*(j:Int)+3)):zcm (zco ls us) 24=true:=by
 unfold zcm at h;rw[List.all_eq_true]at h
 refine zid fun j hj=>?_
 by_cases e:j=k
 ·rw[e];exact hk
 ·have g:=h j (List.mem_range.2 hj)
  have W:∀ z,240+3*(j:Int)<=z/\z<240+3*(j:Int)+3->wdI (zco ls us) z=wdI ls z:=fun z hz=>zfc (by omega) us ls (fun u hu=>by
   have a:=ui u hu;have b:=ho j hj e u hu;refine⟨by omega,by omega,?_⟩;intro q
   exact b (by omega))
  unfold zcp at g ⊢;rw[W _ (by omega),W _ (by omega),W _ (by omega)];exact g
theorem yaen{ls:List Int}{us:List Se}(hl:ls.length=336)(ui:UpIn us)(h:zcm ls 24=true)(ho:∀ u∈us,u.at_<240):zcm (zco ls us) 24=true:=by
 unfold zcm at h;rw[List.all_eq_true]at h
 refine zid fun j hj=>?_
 have g:=h j (List.mem_range.2 hj)
 have W:∀ z,240<=z->wdI (zco ls us) z=wdI ls z:=fun z hz=>zfc (by omega) us ls (fun u hu=>by
  have a:=ui u hu;have b:=ho u hu
  exact⟨by omega,by omega,by omega⟩)
 unfold zcp at g ⊢;rw[W _ (by omega),W _ (by omega),W _ (by omega)];exact g
theorem yale{ls:List Int}{k:Nat}{x:Den}{us:List Se}(hl:ls.length=336)(hk:k<24)(ui:UpIn us)(ho:∀ u∈us,¬ (240+3*(k:Int)<=u.at_/\u.at_<240+3*(k:Int)+3)) :
  wdI (zco ls (enL (k:Int) x++us)) (240+3*(k:Int))=x.dir/\wdI (zco ls (enL (k:Int) x++us)) (240+3*(k:Int)+1)=((pk x.name x.name.size:Nat):Int)/\wdI (zco ls (enL (k:Int) x++us)) (240+3*(k:Int)+2)=x.child+1:=by
 have W:∀ z,240+3*(k:Int)<=z/\z<240+3*(k:Int)+3->wdI (zco ls (enL (k:Int) x++us)) z=wdI (zco ls (enL (k:Int) x)) z:=fun z hz=>by
  rw[zjh];refine zfc (by omega) us _ (fun u hu=>?_);have a:=ui u hu;have b:=ho u hu;rw[zfj];refine⟨by omega,by omega,?_⟩;intro q;exact b (by omega)
 rw[W _ (by omega),W _ (by omega),W _ (by omega)];unfold enL;simp only[zmm,yalh]
 have l2:(240+3*(k:Int)+2)<(336:Int):=by omega
 refine⟨?_,?_,?_⟩
 ·rw[zdx (by omega) (by simp only[List.length_set];omega) (by omega),if_neg (by omega),zdx (by omega) (by simp only[List.length_set];omega) (by omega),if_neg (by omega),zdx (by omega) (by omega) (by omega),if_pos rfl]
 ·rw[zdx (by omega) (by simp only[List.length_set];omega) (by omega),if_neg (by omega),zdx (by omega) (by simp only[List.length_set];omega) (by omega),if_pos rfl]
 ·rw[zdx (by omega) (by simp only[List.length_set];omega) (by omega),if_pos rfl]
theorem zrw{ls:List Int}{k:Nat}{x:Den}{us:List Se}(hl:ls.length=336)(hk:k<24)(ui:UpIn us)(ho:∀ u∈us,¬ (240+3*(k:Int)<=u.at_/\u.at_<240+3*(k:Int)+3))(hx:x=freeD\/(0<=x.child/\nmB x.name=true)) :
  zfo (zco ls (enL (k:Int) x++us)) k=x/\zcp (zco ls (enL (k:Int) x++us)) k=true:=by
 obtain⟨a,b,c⟩:=yale (x:=x) hl hk ui ho;unfold zfo zcp;rw[a,b,c]
 rcases hx with rfl | ⟨h0,hn⟩
 ·exact⟨rfl,rfl⟩
 ·have p:=(zzc hn).1;obtain⟨g,s⟩:=yamt hn;rw[p]at g s;rw[if_neg (by omega),if_neg (by omega),s];refine⟨?_,g⟩;obtain⟨d,n,ch⟩:=x
  show Den.mk d n (ch+1-1)=_
  congr 1
  omega
theorem zoo{k:Nat}(hk:k<24)(x:Den):UpIn (enL (k:Int) x):=fun u hu=>by
 simp only[enL,List.mem_cons,List.not_mem_nil,or_false]at hu
 rcases hu with rfl|rfl|rfl
 ·exact⟨by show 48<=240+3*(k:Int);omega,by show 240+3*(k:Int)<312;omega⟩
 ·exact⟨by show 48<=240+3*(k:Int)+1;omega,by show 240+3*(k:Int)+1<312;omega⟩
 ·exact⟨by show 48<=240+3*(k:Int)+2;omega,by show 240+3*(k:Int)+2<312;omega⟩
structure Wi(ls:List Int)(ws:List Ino)(ps:List Den):Prop where
 len:ls.length=336
 mark:wdI ls 0=7
 good:zcm ls 24=true
 inos:zbq ls 16=ws
 dens:zby ls 24=ps
 img:Img ws ps
theorem zsq{ls:List Int}{us:List Se}(hl:ls.length=336)(ui:UpIn us)(h:wdI ls 0=7):wdI (zco ls us) 0=7:=by
 rw[zfc (by omega) us ls (fun u hu=>by have:=ui u hu;exact⟨by omega,by omega,by omega⟩)];exact h
theorem zok{ls:List Int}{ws:List Ino}{ps:List Den}(h:Wi ls ws ps){i:Nat}(hi:i<16):zal ws i=zee ls i:=by
 rw[<- h.inos];unfold zal zbq;rw[List.getD_eq_getElem?_getD,List.getElem?_map,List.getElem?_range hi];rfl
def znm(i:Nat)(fs:List (Nat×Int)):List Se:=fs.map fun f=>⟨48+12*(i:Int)+(f.1:Int),f.2⟩
theorem zsp{i:Nat}{fs:List (Nat×Int)}(hi:i<16)(hf:∀ f∈fs,f.1<11):UpIn (znm i fs):=fun u hu=>by
 obtain⟨f,hm,rfl⟩:=List.mem_map.1 hu;have:=hf f hm;exact⟨by show 48<=48+12*(i:Int)+(f.1:Int);omega,by show 48+12*(i:Int)+(f.1:Int)<312;omega⟩
theorem yaep{i:Nat}{fs:List (Nat×Int)}(hi:i<16)(hf:∀ f∈fs,f.1<11):∀ u∈znm i fs,48+12*(i:Int)<=u.at_/\u.at_<48+12*(i:Int)+11/\u.at_<240:=fun u hu=>by
 obtain⟨f,hm,rfl⟩:=List.mem_map.1 hu;have:=hf f hm;exact⟨by show 48+12*(i:Int)<=48+12*(i:Int)+(f.1:Int);omega,by show 48+12*(i:Int)+(f.1:Int)<48+12*(i:Int)+11;omega,by show 48+12*(i:Int)+(f.1:Int)<240;omega⟩
def znh(fs:List (Nat×Int))(g:Nat)(z:Int):Int:=fs.foldl (fun a f=>if f.1=g then f.2 else a) z
theorem yaps{i:Nat}(hi:i<16){g:Nat}(hg:g<11):∀ (fs:List (Nat×Int)) (ls:List Int),ls.length=336->(∀ f∈fs,f.1<11)->wdI (zco ls (znm i fs)) (48+12*(i:Int)+(g:Int))=znh fs g (wdI ls (48+12*(i:Int)+(g:Int))):=by
 intro fs
 induction fs with
 | nil=>intro ls _ _;rfl
 | cons f fs ih =>
  intro ls hl hf;have h11:=hf f (List.mem_cons_self ..)
  show wdI (zco (ls.set (48+12*(i:Int)+(f.1:Int)).toNat f.2) (znm i fs)) _=_
  rw[ih _ (by rw[List.length_set];exact hl) (fun x hx=>hf x (List.mem_cons_of_mem _ hx)),zdx (by omega) (by omega) (by omega)];unfold znh;rw[List.foldl_cons]
  by_cases e:f.1=g
  ·rw[if_pos (by omega),if_pos e]
  ·rw[if_neg (by omega),if_neg e]
def ztf(x:Ino)(fs:List (Nat×Int)):Ino:=⟨znh fs 0 x.kind,znh fs 1 x.size,znh fs 2 x.links,znh fs 3 x.m0,znh fs 4 x.m1,znh fs 5 x.m2,znh fs 6 x.m3,znh fs 7 x.m4,znh fs 8 x.m5,znh fs 9 x.m6,znh fs 10 x.m7⟩
theorem zwm{i:Nat}(hi:i<16){fs:List (Nat×Int)}{ls:List Int}(hl:ls.length=336)(hf:∀ f∈fs,f.1<11):zee (zco ls (znm i fs)) i=ztf (zee ls i) fs:=by
 have W:=fun g hg=>yaps (g:=g) hi hg fs ls hl hf
 have w0:=W 0 (by omega);rw[show 48+12*(i:Int)+((0:Nat):Int)=48+12*(i:Int) by omega]at w0;unfold ztf zee;rw[w0]
 congr 1
 ·exact W 1 (by omega)
 ·exact W 2 (by omega)
 ·exact W 3 (by omega)
 ·exact W 4 (by omega)
 ·exact W 5 (by omega)
 ·exact W 6 (by omega)
 ·exact W 7 (by omega)
 ·exact W 8 (by omega)
 ·exact W 9 (by omega)
 ·exact W 10 (by omega)
theorem yaax{ls:List Int}{ws:List Ino}{ps:List Den}(h:Wi ls ws ps){i k:Nat}(hi:i<16)(hk:k<24){fs:List (Nat×Int)}(hf:∀ f∈fs,f.1<11){x:Den}(hx:x=freeD\/(0<=x.child/\nmB x.name=true))(img:Img (ws.set i (ztf (zal ws i) fs)) (ps.set k x)) :
  Wi (zco ls (znm i fs++enL (k:Int) x)) (ws.set i (ztf (zal ws i) fs)) (ps.set k x)/\Wi (zco ls (enL (k:Int) x++znm i fs)) (ws.set i (ztf (zal ws i) fs)) (ps.set k x):=by
 have iu:=zsp (fs:=fs) hi hf;have ia:=yaep (fs:=fs) hi hf;have eu:=zoo hk x
 have ea:∀ u∈enL (k:Int) x,240+3*(k:Int)<=u.at_/\u.at_<240+3*(k:Int)+3:=fun u hu=>by
  simp only[enL,List.mem_cons,List.not_mem_nil,or_false]at hu
  rcases hu with rfl|rfl|rfl
  ·exact⟨Int.le_refl _,by show 240+3*(k:Int)<240+3*(k:Int)+3;omega⟩
  ·exact⟨by show 240+3*(k:Int)<=240+3*(k:Int)+1;omega,by show 240+3*(k:Int)+1<240+3*(k:Int)+3;omega⟩
  ·exact⟨by show 240+3*(k:Int)<=240+3*(k:Int)+2;omega,by show 240+3*(k:Int)+2<240+3*(k:Int)+3;omega⟩
 have xi:=zok h hi
 have both:∀ us,UpIn us->(∀ u∈us,u∈znm i fs\/u∈enL (k:Int) x)->zee (zco ls us) i=ztf (zee ls i) fs->zfo (zco ls us) k=x->zcp (zco ls us) k=true->Wi (zco ls us) (ws.set i (ztf (zal ws i) fs)) (ps.set k x):=by
  intro us ui mem e1 e2 e3
  have oi:∀ j:Nat,j<16->¬ j=i->∀ u∈us,¬ (48+12*(j:Int)<=u.at_/\u.at_<48+12*(j:Int)+11):=by
   intro j hj ne u hu
   rcases mem u hu with q | q
   ·have:=ia u q;omega
   ·have:=ea u q;omega
  have ok:∀ j:Nat,j<24->¬ j=k->∀ u∈us,¬ (240+3*(j:Int)<=u.at_/\u.at_<240+3*(j:Int)+3):=by
   intro j hj ne u hu
   rcases mem u hu with q | q
   ·have:=ia u q;omega
   ·have:=ea u q;omega
  refine⟨by rw[zfj];exact h.len,zsq h.len ui h.mark,yaai h.len ui h.good e3 ok,?_,?_,img⟩
  ·rw[zrv h.len ui hi e1 oi,h.inos,xi]
  ·rw[zqk h.len ui hk e2 ok,h.dens]
 constructor
 ·refine both _ (iu.app eu) (fun u hu=>List.mem_append.1 hu) ?_ ?_ ?_
  ·rw[zjh]
   have W:∀ z,48+12*(i:Int)<=z/\z<48+12*(i:Int)+11->wdI (zco (zco ls (znm i fs)) (enL (k:Int) x)) z=wdI (zco ls (znm i fs)) z:=fun z hz=>zfc (by omega) _ _ (fun u hu=>by
    have:=ea u hu;rw[zfj,h.len]
    exact⟨by omega,by omega,by omega⟩)
   rw[<- zwm hi h.len hf];unfold zee;rw[W _ (by omega),W _ (by omega),W _ (by omega),W _ (by omega),W _ (by omega),W _ (by omega),W _ (by omega),W _ (by omega),W _ (by omega),W _ (by omega),W _ (by omega)]
  ·rw[zjh];have:=(zrw (ls:=zco ls (znm i fs)) (x:=x) (us:=[]) (by rw[zfj];exact h.len) hk (fun _ q=>by cases q) (fun _ q=>by cases q) hx).1;rw[List.append_nil]at this;exact this
  ·rw[zjh];have:=(zrw (ls:=zco ls (znm i fs)) (x:=x) (us:=[]) (by rw[zfj];exact h.len) hk (fun _ q=>by cases q) (fun _ q=>by cases q) hx).2;rw[List.append_nil]at this;exact this
 ·have oe:∀ u∈znm i fs,¬ (240+3*(k:Int)<=u.at_/\u.at_<240+3*(k:Int)+3):=fun u hu=>by have:=ia u hu;omega
  have er:=zrw (ls:=ls) (x:=x) (us:=znm i fs) h.len hk iu oe hx;refine both _ (eu.app iu) (fun u hu=>(List.mem_append.1 hu).symm) ?_ er.1 er.2;rw[zjh,zwm hi (by rw[zfj];exact h.len) hf]
  have W:∀ z,48+12*(i:Int)<=z/\z<48+12*(i:Int)+11->wdI (zco ls (enL (k:Int) x)) z=wdI ls z:=fun z hz=>zfc (by omega) _ _ (fun u hu=>by
   have:=ea u hu;rw[h.len]
   exact⟨by omega,by omega,by omega⟩)
  congr 1
  unfold zee;rw[W _ (by omega),W _ (by omega),W _ (by omega),W _ (by omega),W _ (by omega),W _ (by omega),W _ (by omega),W _ (by omega),W _ (by omega),W _ (by omega),W _ (by omega)]
theorem yanm{ls:List Int}{ws:List Ino}{ps:List Den}(h:Wi ls ws ps){i:Nat}(hi:i<16){fs:List (Nat×Int)}(hf:∀ f∈fs,f.1<11)(img:Img (ws.set i (ztf (zal ws i) fs)) ps) :
  Wi (zco ls (znm i fs)) (ws.set i (ztf (zal ws i) fs)) ps:=by
 have iu:=zsp (fs:=fs) hi hf;have ia:=yaep (fs:=fs) hi hf;refine⟨by rw[zfj];exact h.len,zsq h.len iu h.mark,yaen h.len iu h.good (fun u hu=>(ia u hu).2.2),?_,?_,img⟩
 ·rw[zrv h.len iu hi (zwm hi h.len hf) (fun j _ _ u hu=>by have:=ia u hu;omega),h.inos,zok h hi]
 ·rw[yaja h.len iu (fun u hu=>(ia u hu).2.2),h.dens]
theorem yasy{ls:List Int}{ws:List Ino}{ps:List Den}(h:Wi ls ws ps){k:Nat}(hk:k<24){x:Den}(hx:x=freeD\/(0<=x.child/\nmB x.name=true))(img:Img ws (ps.set k x)) :
  Wi (zco ls (enL (k:Int) x)) ws (ps.set k x):=by
 have eu:=zoo hk x
 have ea:∀ u∈enL (k:Int) x,240+3*(k:Int)<=u.at_/\u.at_<240+3*(k:Int)+3:=fun u hu=>by
  simp only[enL,List.mem_cons,List.not_mem_nil,or_false]at hu
  rcases hu with rfl|rfl|rfl
  ·exact⟨Int.le_refl _,by show 240+3*(k:Int)<240+3*(k:Int)+3;omega⟩
  ·exact⟨by show 240+3*(k:Int)<=240+3*(k:Int)+1;omega,by show 240+3*(k:Int)+1<240+3*(k:Int)+3;omega⟩
  ·exact⟨by show 240+3*(k:Int)<=240+3*(k:Int)+2;omega,by show 240+3*(k:Int)+2<240+3*(k:Int)+3;omega⟩
 have er:=zrw (ls:=ls) (x:=x) (us:=[]) h.len hk (fun _ q=>by cases q) (fun _ q=>by cases q) hx;rw[List.append_nil]at er;refine⟨by rw[zfj];exact h.len,zsq h.len eu h.mark,yaai h.len eu h.good er.2 (fun j _ ne u hu=>by have:=ea u hu;omega),?_,?_,img⟩
 ·rw[yagf h.len eu (fun u hu=>by have:=ea u hu;omega),h.inos]
 ·rw[zqk h.len eu hk er.1 (fun j _ ne u hu=>by have:=ea u hu;omega),h.dens]
def wkAt(ws:List Ino)(ps rs:List Den)(n:Nat)(d:Int)(hd:ByteArray)(ss:List ByteArray):Prop:=(∃ kd,kd+n=16/\dep ps kd d/\(0<=d/\d<=15)/\zag ws d=2/\hd.size<=7*kd/\ss.length<=1000*kd)\/(∀ x∈rs,¬ x.dir=d)
theorem yaqu{ws:List Ino}{ps rs:List Den}(hi:zbo ws ps=true){n:Nat}{d:Int}{hd:ByteArray}{ss:List ByteArray}(hc:wkAt ws ps rs n d hd ss):wkK rs (n-1) d hd rs=pthR rs n d hd:=by
 rcases hc with ⟨kd,h1,h2,h3,h4,_⟩ | hc
 ·have:=zna hi h3 h4 h2
  obtain⟨m,rfl⟩:∃ m,n=m+1:=⟨n-1,by omega⟩
  rfl
 ·rw[yaml hc,zur hc]
theorem zxc{ws:List Ino}{ps rs:List Den}(hi:zbo ws ps=true)(hp:rs.Perm (zan ps)){n:Nat}{d:Int}{hd:ByteArray}{ss:List ByteArray}(hc:wkAt ws ps rs n d hd ss){k:Nat}(hk:k<rs.length)(e:rs[k].dir=d):(n-1<n/\ss.length+(wkK rs (n-1) d hd (rs.take k)).length<=20000/\hd.size<=112/\rs[k].name.size<=6)/\wkAt ws ps rs (n-1) rs[k].child (hd++⟨#[47]⟩++rs[k].name) ((ss++wkK rs (n-1) d hd (rs.take k))++[hd++⟨#[47]⟩++rs[k].name]):=by
 have hq:=yaqu hi hc
 rcases hc with ⟨kd,h1,h2,h3,h4,h5,h6⟩ | hc
 ·have h7:=zna hi h3 h4 h2;have hm:=zjo hp (zfs hi);have hl:=yafy hi hm (hp.nodup_iff.2 (zno hi)) n kd d hd h2
  have hr:rs.length<=24:=by
   rw[hp.length_eq,<- (zao hi).2.1];exact List.length_filter_le _ _
  rw[<- hq]at hl;have ht:=yakm rs (n-1) d hd rs k;have ed:=zii hi hm (List.getElem_mem hk);obtain⟨j,hj,ej,c0⟩:=hm _ (List.getElem_mem hk);have nz:=zsv hi hj (by rw[ej];exact ed.1.1);rw[ej]at nz;refine⟨⟨by omega,by omega,by omega,nz⟩,?_⟩
  by_cases q:zag ws rs[k].child=2
  ·left;refine⟨kd+1,by omega,?_,by omega,q,?_,?_⟩
   ·rw[<- ej]at q ed ⊢;exact zgl hi hj ed.1 q (by rw[ej,e];exact h2)
   ·rw[zut];omega
   ·simp only[List.length_append,List.length_cons,List.length_nil];omega
  ·right;intro y hy ey;exact q (by rw[<- ey];exact(zii hi hm hy).2.2)
 ·exact absurd e (hc _ (List.getElem_mem hk))
theorem yakb{ws:List Ino}{ps rs:List Den}(hi:zbo ws ps=true)(hp:rs.Perm (zan ps))(tF:TypeId)(hF:(9:Nat)≠tF)(W:World)(aR:Option Addr)(cR bR bS bF:Nat)(hR:∀ w',zB W w'->w'.cell? ⟨bR,0,none⟩=some (.slice aR rs.length cR))(hD:RdD W (.slice aR rs.length cR) rs) :
  ∀ (n:Nat) (d:Int) (hd:ByteArray) (w:World) (vS:Value) (ss:List ByteArray),wkAt ws ps rs n d hd ss->WkI tF W w bR bS bF vS ss ->
  zC 21 #[.I d,.string hd,.pointer (some ⟨bR,0,none⟩),.pointer (some ⟨bS,0,none⟩),.pointer (some ⟨bF,0,none⟩)] w fun e w'=>e=.returned (.tuple #[])/\∃ v',WkI tF W w' bR bS bF v' (ss++pthR rs n d hd):=by
 intro n
 induction n using Nat.strongRecOn with
 | ind n IH =>
 intro d hd w vS ss hc hI;have EQ:=zaa (yaqu hi hc);have DN:=zaa (fun(k:Nat) (hk:k<rs.length) (e:rs[k].dir=d)=>(zxc hi hp hc hk e).1.2);have ST:=zaa (fun(k:Nat) (hk:k<rs.length) (e:rs[k].dir=d) (w1:World) (v1:Value) h=>IH (n-1) (zxc hi hp hc hk e).1.1 rs[k].child (hd++⟨#[47]⟩++rs[k].name) w1 v1 _ (zxc hi hp hc hk e).2 h);have SU:=zaa (fun(k:Nat) (hk:k<rs.length)=>yand rs (n-1) d hd hk)
 have hr:rs.length<=24:=by
  rw[hp.length_eq,<- (zao hi).2.1];exact List.length_filter_le _ _
 have Z0:Hid (wkK rs (n-1) d hd (rs.take 0)=[]):=rfl;obtain⟨ao,co,e0,_,hcD⟩:=hD.shape;injection e0 with e1 _ e2;subst e1 e2;have HD:=zaa hcD;have HR:=zaa hR;have H9:=zaa hF
 have START:Hid (∃ v',WkI tF W w bR bS bF v' (ss++wkK rs (n-1) d hd (rs.take 0))):=⟨vS,by rw[Z0.o,List.append_nil];exact hI⟩
 have x0:=HR.o w hI.i.b;clear hi hp hc IH hcD hR hD hI Z0 hF;go_enter Tryz.func21,Tryz.ntmps21;go_wp2_with fail
 go_loopg [12] rs.length (fun g i wr=>∃ k:Nat,k+g=rs.length/\i=.I k/\Hid (∃ v',WkI tF W wr bR bS bF v' (ss++wkK rs (n-1) d hd (rs.take k))))
 case atStart=>exact⟨0,by omega,rfl,START.o⟩
 case round =>
  obtain⟨k,hk,rfl,J⟩:=hrel;clear START x0;obtain⟨vS,I0⟩:=J.o;have I:=zaa I0
  have k0:(0:Int)<=(k:Int):=by omega
  clear J I0
  by_cases hlt:k<rs.length
  ·have k1:(k:Int)<(rs.length:Int):=by omega
   obtain⟨bD,oD,rfl,hbl,hcell⟩:=HD.o (by omega);obtain⟨q0,q1,q2⟩:=hcell k hlt;have r0:=(I.o.i.b.cell (p:=⟨bD,oD+k*3,none⟩) hbl).trans q0;have r1:=(I.o.i.b.cell (p:=⟨bD,oD+k*3+1,none⟩) hbl).trans q1;have r2:=(I.o.i.b.cell (p:=⟨bD,oD+k*3+2,none⟩) hbl).trans q2;have SU2:=zaa (SU.o k hlt);clear hcell q0 q1 q2
   by_cases c:rs[k].dir=d
   case neg =>
    rw[if_neg c]at SU2
    have c1:(rs[k].dir == d)=false:=by rw[beq_eq_false_iff_ne];exact c
    have G:=zaa (I.o.below (zR.alloc zL (.cells #[.I rs[k].dir,.string rs[k].name,.I rs[k].child] 52)));rw[<- SU2.o]at G;clear SU2 c I ST DN SU EQ;go_wp2
    go_roundg (rs.length-(k+1))
    case measure=>omega
    case rel=>exact⟨k+1,by omega,by go_num,_,G.o⟩
   rw[if_pos c]at SU2;have ST2:=zaa (ST.o k hlt c);obtain⟨dn,z1,z2⟩:=DN.o k hlt c;clear ST DN SU;rw[c]at r0;generalize rs[k].child=ch at *;generalize rs[k].name=nm at *;clear c
   obtain⟨p,hp⟩:=zE (hd++⟨#[47]⟩++nm)
   rw[<- hp]at SU2 ST2
   obtain⟨P,hP⟩:=zE (ss++wkK rs (n-1) d hd (rs.take k))
   have NX:Hid (ss++wkK rs (n-1) d hd (rs.take (k+1))=(P++[p])++pthR rs (n-1) ch p):=by unfold Hid;rw[SU2.o,hP];simp only[List.append_assoc]
   have pl:P.length<=20000:=by rw[hP,List.length_append];exact dn
   rw[<- hP]at I ST2;clear SU2 dn hP;have IX:=zaa (I.o.below (zR.alloc zL (.cells #[.I d,.string nm,.I ch] 52)));have XB:Hid ((wr.alloc (.cells #[.I d,.string nm,.I ch] 52)).heap[wr.heap.size]?=some (.cells #[.I d,.string nm,.I ch] 52 (0,0))):=zai rfl;have e1:=(zat (xs:=[.I d,.string nm,.I ch]) XB.o 1).1;have e2:=(zat (xs:=[.I d,.string nm,.I ch]) XB.o 2).1;simp only[List.getElem?_cons_zero,List.getElem?_cons_succ]at e1 e2;obtain⟨s0,s1⟩:=zfb IX.o.s;have IA:=zaa (IX.o.below (zR.alloc zL (.cells #[.string p] 9)));have XA:=zaa (zak (o:=.cells #[.string p] 9) XB.o);have RX:=zaa (zfw (wr.alloc (.cells #[.I d,.string nm,.I ch] 52)) p);simp only[World.size_alloc]at RX;have hzI:=I.o.i.z;have hsb:bS<wr.heap.size:=(Array.getElem?_eq_some_iff.1 I.o.s).1;subst hp;go_wp2_with (at_builtin;refine zaf _ rfl (.tmp 25) (.tmp 27) 28 rfl W.heap.size 9 (.string ⟨#[]⟩) 1 16 Tryz.underlying28 zdu rfl (by decide) _ _ _ rfl IA.o.i.l _ 1 _ rfl RX.o (zbb _) (by simp[maxLen];omega) (by omega) IA.o.i.z ?_);intro vN wN hownN hgrN
   rcases(zac hownN).shape with ⟨_,eN,_⟩ | ⟨bN,cN,rfl,_,_⟩
   ·omega
   obtain⟨g1,g2⟩:=IA.o.grow H9.o [_] rfl hownN hgrN;have XN:Hid (wN.heap[wr.heap.size]?=some (.cells #[.I d,.string nm,.I ch] 52 (0,0))):=(hgrN.block _ (by simp;omega) (zcl IA.o.i.l XA.o (by decide)).symm).trans XA.o
   have XS:Hid ((wN.setCell ⟨bS,0,none⟩ (.slice (some ⟨bN,0,none⟩) (P.length+1) cN)).heap[wr.heap.size]?=some (.cells #[.I d,.string nm,.I ch] 52 (0,0))):=by unfold Hid;rw[Below.heap_setCell _ _ _ _ (by simp only;omega)];exact XN.o
   generalize hd++⟨#[47]⟩++nm=p at *;have G:=zaa g2;obtain⟨t0,t1⟩:=zfb g1;obtain⟨f0,_⟩:=zfb G.o.f;unfold wkF at f0;have e3:=(zat (xs:=[.I d,.string nm,.I ch]) XS.o 2).1;simp only[List.getElem?_cons_zero,List.getElem?_cons_succ]at e3;clear s0 s1 e1 e2 r0 r1 r2 g1 g2 hownN hgrN XN XA XB RX IX IA I;go_wp2_with fail;refine(ST2.o _ _ G.o).mono ?_;rintro e w3 ⟨rfl,v3,h3⟩
   have G3:Hid (WkI tF W w3 bR bS bF v3 (ss++wkK rs (n-1) d hd (rs.take (k+1)))):=by unfold Hid;rw[NX.o];exact h3
   clear h3 ST2 G NX t0 t1 f0 e3;go_wp2
   go_roundg (rs.length-(k+1))
   case measure=>omega
   case rel=>exact⟨k+1,by omega,by go_num,_,G3.o⟩
  ·obtain rfl:k=rs.length:=by omega
   rw[List.take_length,EQ.o]at I;clear EQ ST DN SU;go_wp2;refine bodyPost_end (v:=.tuple #[]) (by simp[results,Tryz.results21,go_sem]) rfl ?_;exact⟨rfl,_,I.o⟩
end Go.Proofs.YtfagbapgnocjiaaGreatDoor
