import Derived.Test.YtogcbbkhnpmgeaaGreatDoorZAP
set_option maxHeartbeats 4000000
namespace Go.Proofs.YtogcbbkhnpmgeaaGreatDoor
open Go.RowKit
def ztd(kind size links:Int)(zs:List Int):Ino:=⟨kind,size,links,zs.getD 0 0,zs.getD 1 0,zs.getD 2 0,zs.getD 3 0,zs.getD 4 0,zs.getD 5 0,zs.getD 6 0,zs.getD 7 0⟩
theorem zjh{kind size links:Int}{zs:List Int}(h:zs.length=8):(ztd kind size links zs).map=zs:=by
 match zs,h with
 | [a,b,c,d,e,f,g,i],_=>rfl
theorem zvu{ws:List Ino}{ps:List Den}(h:Img ws ps){i:Nat}{x:Ino}(hi:i<16)(kx:x.kind=(zam ws i).kind)(lx:x.links=(zam ws i).links)(ox:zdp x=true)(sx:(zap (ws.set i x)).Pairwise fun x y=>x≠y) :
  Img (ws.set i x) ps:=by
 have hi':i<ws.length:=by rw[h.l16];exact hi
 have KA:∀ c,0<=c->zai (ws.set i x) c=zai ws c:=by
  intro c hc;rw[zmg hi' _ c hc]
  by_cases e:c=(i:Int)
  ·rw[if_pos e,e,zbd,kx]
  ·rw[if_neg e]
 refine⟨by rw[List.length_set];exact h.l16,h.l24,?_,?_,?_,h.once,?_,?_,sx⟩
 ·rw[KA 0 (by omega)];exact h.root
 ·intro j hj;rw[zcn hi']
  by_cases e:j=i
  ·rw[if_pos e];exact ox
  ·rw[if_neg e];exact h.ok j hj
 ·intro k hk
  rcases h.ent k hk with q | q
  ·exact .inl q
  ·obtain⟨q1,q2,q3,q4,q5⟩:=q;exact .inr ⟨q1,q2,q3,by rw[KA _ (by omega)];exact q4,by rw[KA _ q2.1];exact q5⟩
 ·intro j hj;rw[zcn hi']
  by_cases e:j=i
  ·rw[if_pos e,lx,<- e];exact h.links j hj
  ·rw[if_neg e];exact h.links j hj
 ·intro j hj kj;rw[zcn hi']at kj
  by_cases e:j=i
  ·rw[if_pos e,kx,<- e]at kj;exact h.hang j hj kj
  ·rw[if_neg e]at kj;exact h.hang j hj kj
theorem yajr{l:List Int}{p:Nat}{e:Int}(hp:p<l.length)(he:¬ e=0):zdd (l.set p e)=zdd (l.take p)++[e]++zdd (l.drop (p+1)):=by
 unfold zdd;rw[List.set_eq_take_append_cons_drop,if_pos hp,List.filter_append,List.filter_cons,if_pos (by simpa using he),List.append_assoc];rfl
theorem zxu{l:List Int}{p:Nat}(hp:p<l.length):(zdd (l.take p)++zdd (l.drop (p+1))).Sublist (zdd l):=by
 unfold zdd;rw[<- List.filter_append];apply List.Sublist.filter
 have:l=l.take p++(l[p]::l.drop (p+1)):=by rw[<- List.drop_eq_getElem_cons hp,List.take_append_drop]
 conv=>rhs;rw[this]
 exact List.Sublist.append (List.Sublist.refl _) (List.sublist_cons_self _ _)
theorem yaod{ws:List Ino}{i p:Nat}{e:Int}{x:Ino}(hi:i<ws.length)(hp:p<8)(he:¬ e=0)(s:(zap ws).Pairwise fun x y=>x≠y)(new:¬ e∈zap ws)(hx:x.map=(zam ws i).map.set p e):(zap (ws.set i x)).Pairwise fun x y=>x≠y:=by
 have hl:p<(zam ws i).map.length:=hp;rw[zkv hi,hx,yajr hl he];rw[zlf hi]at s new
 have sub:(zap (ws.take i)++(zdd ((zam ws i).map.take p)++zdd ((zam ws i).map.drop (p+1)))++zap (ws.drop (i+1))).Sublist (zap (ws.take i)++zdd (zam ws i).map++zap (ws.drop (i+1))) :=
  List.Sublist.append (List.Sublist.append (List.Sublist.refl _) (zxu hl)) (List.Sublist.refl _)
 have s2:=s.sublist sub
 have new2:¬ e∈zap (ws.take i)++(zdd ((zam ws i).map.take p)++zdd ((zam ws i).map.drop (p+1)))++zap (ws.drop (i+1)):=fun q=>new (sub.subset q)
 generalize zap (ws.take i)=A at *;generalize zdd ((zam ws i).map.take p)=P at *;generalize zdd ((zam ws i).map.drop (p+1))=Q at *;generalize zap (ws.drop (i+1))=B at *
 have e1:A++(P++[e]++Q)++B=(A++P)++e::(Q++B):=by simp
 have e2:A++(P++Q)++B=(A++P)++(Q++B):=by simp
 rw[e2]at s2 new2;rw[e1];rw[List.pairwise_append]at s2 ⊢;refine⟨s2.1,?_,?_⟩
 ·rw[List.pairwise_cons];exact⟨fun y hy q=>new2 (by rw[List.mem_append];right;rw[q];exact hy),s2.2.1⟩
 ·intro a ha b hb;rw[List.mem_cons]at hb
  rcases hb with rfl | hb
  ·intro q;exact new2 (by rw[List.mem_append];left;rw[<- q];exact ha)
  ·exact s2.2.2 a ha b hb
theorem yasf(x:Ino):x.map.length=8:=rfl
theorem yath{x:Ino}{p:Nat}{e sz:Int}(h:zdp x=true)(k:x.kind=1)(hp:p<8)(te:zef e=true)(sx:x.size<=sz)(s8:sz<=8)(ps:(p:Int)<sz):zdp (ztd x.kind sz x.links (x.map.set p e))=true:=by
 obtain⟨a,b,c,d,f⟩:=zbr h;refine yabf a ⟨by show 0<=sz;omega,s8⟩ c ?_ ?_
 ·rw[zjh (by rw[List.length_set];rfl)];apply zro;intro j hj;have q:=zhb d j hj
  show zpp j ((x.map.set p e).getD j 0) sz=true
  rw[List.getD_eq_getElem?_getD,List.getElem?_set]
  by_cases e1:p=j
  ·subst e1;rw[if_pos rfl,if_pos (by rw[yasf];exact hp)]
   show zpp p e sz=true
   unfold zpp;rw[te,decide_eq_true ps];simp
  ·rw[if_neg e1];unfold zpp at q ⊢;rw[List.getD_eq_getElem?_getD]at q;rw[Bool.and_eq_true,Bool.or_eq_true]at q ⊢;refine⟨q.1,?_⟩
   rcases q.2 with r | r
   ·exact .inl r
   ·right
    have:(j:Int)<x.size:=by simpa using r
    simp only[decide_eq_true_eq];omega
 ·unfold zex at f ⊢;rw[if_neg (by omega),if_neg (by omega)]at f;rw[if_neg (by show ¬ x.kind=0;omega),if_neg (by show ¬ x.kind=2;omega)];exact f
theorem yaij{ws:List Ino}{ps:List Den}(h:Img ws ps){i p:Nat}{e sz:Int}(hi:i<16)(k:(zam ws i).kind=1)(hp:p<8)(te:zef e=true)(he:¬ e=0)(new:¬ e∈zap ws)(hsz:sz=if (p:Int)<(zam ws i).size then(zam ws i).size else(p:Int)+1) :
  Img (ws.set i (ztd (zam ws i).kind sz (zam ws i).links ((zam ws i).map.set p e))) ps:=by
 have o:=zbr (h.ok i hi);refine zvu h hi rfl rfl (yath (h.ok i hi) k hp te ?_ ?_ ?_) (yaod (by rw[h.l16];exact hi) hp he h.sing new (zjh (by rw[List.length_set];rfl)))
 ·rw[hsz];split<;>omega
 ·rw[hsz];split<;>omega
 ·rw[hsz];split<;>omega
theorem yahj{x:Ino}(h:zdp x=true){p:Nat}(hp:p<8)(e:¬ x.map.getD p 0=0):(p:Int)<x.size/\x.kind=1:=by
 obtain⟨a,b,c,d,f⟩:=zbr h;have q:=zhb d p hp;unfold zpp at q;rw[Bool.and_eq_true,Bool.or_eq_true,beq_iff_eq,decide_eq_true_eq]at q
 have s:(p:Int)<x.size:=by
  rcases q.2 with r | r
  ·exact absurd r e
  ·exact r
 refine⟨s,?_⟩;unfold zex at f
 by_cases k0:x.kind=0
 ·rw[if_pos k0]at f;have:=(of_decide_eq_true f).1;omega
 ·by_cases k2:x.kind=2
  ·rw[if_neg k0,if_pos k2]at f;rw[Bool.and_eq_true,beq_iff_eq]at f;omega
  ·omega
def zwn(zs:List Int)(n:Nat):List Int:=(List.range 8).map fun j=>if j<n then zs.getD j 0 else 0
theorem zsg(zs:List Int)(n:Nat):(zwn zs n).length=8:=by simp[zwn]
theorem zxl(zs:List Int)(n j:Nat)(hj:j<8):(zwn zs n).getD j 0=if j<n then zs.getD j 0 else 0:=by
 unfold zwn;rw[List.getD_eq_getElem?_getD,List.getElem?_map,List.getElem?_range hj];rfl
theorem yatv{x:Ino}{n:Nat}(h:zdp x=true)(k:x.kind=1)(hn:n<=8):zdp (ztd x.kind (n:Int) x.links (zwn x.map n))=true:=by
 obtain⟨a,b,c,d,f⟩:=zbr h;refine yabf a ⟨by show 0<=(n:Int);omega,by show(n:Int)<=8;omega⟩ c ?_ ?_
 ·rw[zjh (zsg _ _)];apply zro;intro j hj;have q:=zhb d j hj
  show zpp j ((zwn x.map n).getD j 0) (n:Int)=true
  rw[zxl _ _ _ hj];unfold zpp at q ⊢
  by_cases e1:j<n
  ·rw[if_pos e1];rw[Bool.and_eq_true]at q ⊢;refine⟨q.1,?_⟩;rw[decide_eq_true (show(j:Int)<(n:Int) by omega)];simp
  ·rw[if_neg e1];rfl
 ·unfold zex at f ⊢;rw[if_neg (by omega),if_neg (by omega)]at f;rw[if_neg (by show ¬ x.kind=0;omega),if_neg (by show ¬ x.kind=2;omega)];exact f
theorem yakn(x:Ino)(n:Nat):(zdd (zwn x.map n)).Sublist (zdd x.map):=by
 have e:x.map=(List.range 8).map fun j=>x.map.getD j 0:=rfl
 have gen:∀ (l:List Nat),(zdd (l.map fun j=>if j<n then x.map.getD j 0 else 0)).Sublist (zdd (l.map fun j=>x.map.getD j 0)):=by
  intro l;unfold zdd
  induction l with
  | nil=>exact List.Sublist.refl _
  | cons a l ih =>
   rw[List.map_cons,List.map_cons]
   by_cases q:a<n
   ·rw[if_pos q,List.filter_cons,List.filter_cons]
    split
    ·exact ih.cons_cons _
    ·exact ih
   ·rw[if_neg q,List.filter_cons,if_neg (by decide),List.filter_cons]
    split
    ·exact ih.cons _
    ·exact ih
 have:=gen (List.range 8);rw[<- e]at this;exact this
theorem yasq{ws:List Ino}{ps:List Den}(h:Img ws ps){i n:Nat}(hi:i<16)(k:(zam ws i).kind=1)(hn:n<=8) :
  Img (ws.set i (ztd (zam ws i).kind (n:Int) (zam ws i).links (zwn (zam ws i).map n))) ps:=by
 refine zvu h hi rfl rfl (yatv (h.ok i hi) k hn) (zmh (by rw[h.l16];exact hi) h.sing ?_);rw[zjh (zsg _ _)];exact yakn _ _
def RdPm(w:World)(v:Value)(ws:List Int)(ps:List St):Prop:=∃ vW vP,v=.agg #[vW,vP]/\RdI w vW ws/\RdS w vP ps
def RowPm(w:World)(lo hi:Nat)(v:Value)(ws:List Int)(ps:List St):Prop:=∃ vW vP,v=.agg #[vW,vP]/\Row w 3 1 lo hi vW ws.length (zdb ws)/\Row w 138 3 lo hi vP ps.length (sts ps)
theorem RowPm.rd{w:World}{lo hi:Nat}{v:Value}{ws:List Int}{ps:List St}(h:RowPm w lo hi v ws ps):RdPm w v ws ps:=by
 obtain⟨vW,vP,rfl,h1,h2⟩:=h;exact⟨vW,vP,rfl,h1.rd,h2.rd⟩
theorem RdPm.below{w w':World}{v:Value}{ws:List Int}{ps:List St}(h:RdPm w v ws ps)(hb:zB w w'):RdPm w' v ws ps:=by
 obtain⟨vW,vP,rfl,h1,h2⟩:=h;exact⟨vW,vP,rfl,Rd.below h1 hb,Rd.below h2 hb⟩
theorem RowPm.below{w w':World}{lo hi:Nat}{v:Value}{ws:List Int}{ps:List St}(h:RowPm w lo hi v ws ps){B:Nat}(hb:Below B w w')(hB:hi<=B):RowPm w' lo hi v ws ps:=by
 obtain⟨vW,vP,rfl,h1,h2⟩:=h;exact⟨vW,vP,rfl,h1.below hb hB,h2.below hb hB⟩
theorem RowPm.outside{w w':World}{lo hi:Nat}{v:Value}{ws:List Int}{ps:List St}(h:RowPm w lo hi v ws ps){lo' hi':Nat}(ho:Outside lo' hi' w w')(hd:hi<=lo'\/hi'<=lo)(hz:hi<=w.heap.size):RowPm w' lo hi v ws ps:=by
 obtain⟨vW,vP,rfl,h1,h2⟩:=h;exact⟨vW,vP,rfl,h1.outside ho hd hz,h2.outside ho hd hz⟩
def pmB(ws:List Int)(ps:List St):Bool:=decide (ws.length=336/\ps.length<=400/\(∀ k (h:k<ws.length),zaz ws[k]=true)/\∀ k (h:k<ps.length),zcs ps[k].at_=true/\zaz ps[k].val=true)
theorem yapu{ws:List Int}{ps:List St}(h1:ws.length=336)(h2:ps.length<=400)(h3:∀ k (h:k<ws.length),zaz ws[k]=true)(h4:∀ k (h:k<ps.length),zcs ps[k].at_=true/\zaz ps[k].val=true):pmB ws ps=true:=decide_eq_true ⟨h1,h2,h3,h4⟩
theorem zed{ws:List Int}{ps:List St}(h:pmB ws ps=true):ws.length=336/\ps.length<=400:=⟨(of_decide_eq_true h).1,(of_decide_eq_true h).2.1⟩
theorem zzl{ws:List Int}{ps:List St}(h:pmB ws ps=true)(k:Nat)(hk:k<ws.length):zaz ws[k]=true:=(of_decide_eq_true h).2.2.1 k hk
theorem zjm{ws:List Int}{ps:List St}(h:pmB ws ps=true)(k:Nat)(hk:k<ps.length):zcs ps[k].at_=true/\zaz ps[k].val=true:=(of_decide_eq_true h).2.2.2 k hk
theorem yalz{ws:List Int}{ps:List St}(h:¬ ws.length=336):pmB ws ps=false:=decide_eq_false (fun x=>h x.1)
theorem yalm{ws:List Int}{ps:List St}(h:400<ps.length):pmB ws ps=false:=decide_eq_false (fun x=>absurd x.2.1 (by omega))
theorem yawc{ws:List Int}{ps:List St}{k:Nat}(hk:k<ws.length)(h:zaz ws[k]=false):pmB ws ps=false:=decide_eq_false (fun x=>by have:=x.2.2.1 k hk;rw[h]at this;cases this)
theorem yawa{ws:List Int}{ps:List St}{k:Nat}(hk:k<ps.length)(h:zcs ps[k].at_=false):pmB ws ps=false:=decide_eq_false (fun x=>by have:=(x.2.2.2 k hk).1;rw[h]at this;cases this)
theorem yavx{ws:List Int}{ps:List St}{k:Nat}(hk:k<ps.length)(h:zaz ps[k].val=false):pmB ws ps=false:=decide_eq_false (fun x=>by have:=(x.2.2.2 k hk).2;rw[h]at this;cases this)
theorem zcw(v:Value)(zs:List Int)(w:World)(h:RdI w v zs)(hn:zs.length<=2147483648) :
  zC 94 #[v,.func (.func 95) #[] #[]] w fun e w'=>e=.returned (.bool (zij zs))/\w'=w:=by
 obtain⟨ao,cap,rfl,_,hc⟩:=h.shape;clear h;go_enter Tryz.func94,Tryz.ntmps94;go_wp2
 go_loop [6,9] (fun _ i=>∃ k:Nat,k<=zs.length/\i=.I k/\Hid (∀ j (h:j<zs.length),j<k->zaz zs[j]=true)) (fun _ i=>zs.length-(intOf i).toNat)
 case atStart=>exact⟨0,by omega,rfl,fun j h a=>absurd a (by omega)⟩
 case round =>
  obtain⟨k,hk,rfl,H⟩:=hrel
  by_cases hlt:k<zs.length
  ·obtain⟨b,o,rfl,hbl,hcell⟩:=hc (by omega);have hck:=hcell k hlt;clear hcell hc
   by_cases q:zaz zs[k]=true
   ·go_wp2_with (go_at_call 95;refine(zgf _ _).mono ?_;rintro e w' ⟨rfl,rfl⟩)
    go_round
    case rel =>
     refine⟨k+1,by omega,by go_num,fun j h a=>?_⟩
     by_cases e:j=k
     ·subst e;exact q
     ·exact H.o j h (by omega)
    case measure=>simp[intOf];omega
   ·have q':zaz zs[k]=false:=by simpa using q
    have E:=zaa (yadi hlt q');go_wp2_with (go_at_call 95;refine(zgf _ _).mono ?_;rintro e w' ⟨rfl,rfl⟩);go_ret;exact⟨zag E.o.symm,rfl⟩
  ·have E:=zaa (ztm (fun j h=>H.o j h (by omega)));clear H;go_wp2;go_ret;exact⟨zag E.o.symm,rfl⟩
def stB(s:St):Bool:=zcs s.at_&&zaz s.val
theorem yaom{s:St}(h:stB s=true):zcs s.at_=true/\zaz s.val=true:=by unfold stB at h;simpa using h
theorem yaip{s:St}{p:Prop}(h:stB s=false)(h1:zcs s.at_=false->p)(h2:zaz s.val=false->p):p:=by
 unfold stB at h;rw[Bool.and_eq_false_iff]at h;exact h.elim h1 h2
def stsB(ps:List St):Bool:=decide (∀ k (h:k<ps.length),stB ps[k]=true)
theorem yahx{ps:List St}(h:stsB ps=true):∀ k (h:k<ps.length),stB ps[k]=true:=of_decide_eq_true h
theorem yakj{ps:List St}(h:∀ k (h:k<ps.length),stB ps[k]=true):stsB ps=true:=decide_eq_true h
theorem yanl{ps:List St}{k:Nat}(hk:k<ps.length)(h:stB ps[k]=false):stsB ps=false:=decide_eq_false (fun x=>by have:=x k hk;rw[h]at this;cases this)
theorem yaqp{ps:List St}(h:stsB ps=false):∃ k,∃ h:k<ps.length,stB ps[k]=false:=by
 apply Classical.byContradiction;intro hn
 have:stsB ps=true:=yakj (fun k hk=>by
  cases e:stB ps[k] with
  | true=>rfl
  | false=>exact absurd ⟨k,hk,e⟩ hn)
 rw[h]at this
 cases this
theorem zon(s:St)(w:World):zC 97 #[.agg #[.I s.at_,.I s.val,.bool s.fl]] w fun e w'=>e=.returned (.bool (stB s))/\zB w w':=by
 have hb0:zB w (w.alloc (.cells #[.I s.at_,.I s.val,.bool s.fl] 138)):=zR.alloc zL _
 by_cases q:zcs s.at_=true
 ·have E:=zaa (show stB s=zaz s.val by unfold stB;rw[q];rfl);have Q:=zaa q;clear q;go_enter Tryz.func97,Tryz.ntmps97;go_wp2_with (first | (go_at_call 98;refine(zdi _ _).mono ?_;rw[Q.o];rintro e w' ⟨rfl,rfl⟩) | (go_at_call 95;refine(zgf _ _).mono ?_;rintro e w' ⟨rfl,rfl⟩));go_ret;exact⟨zag E.o.symm,hb0⟩
 ·have q':zcs s.at_=false:=by simpa using q
  have E:=zaa (show stB s=false by unfold stB;rw[q'];rfl);have Q:=zaa q';clear q q';go_enter Tryz.func97,Tryz.ntmps97;go_wp2_with (go_at_call 98;refine(zdi _ _).mono ?_;rw[Q.o];rintro e w' ⟨rfl,rfl⟩);go_ret;exact⟨zag E.o.symm,hb0⟩
theorem zih(v:Value)(ps:List St)(w:World)(h:RdS w v ps)(hn:ps.length<=1048576) :
  zC 96 #[v,.func (.func 97) #[] #[]] w fun e w'=>e=.returned (.bool (stsB ps))/\zB w w':=by
 obtain⟨aP,cP,rfl,_,hcP⟩:=h.shape;clear h;go_enter Tryz.func96,Tryz.ntmps96;go_wp2
 go_loopw [6,9] (fun _ i wr=>∃ k:Nat,k<=ps.length/\i=.I k/\Hid (∀ j (h:j<ps.length),j<k->stB ps[j]=true)/\zB w wr) (fun _ i _=>ps.length-(intOf i).toNat)
 case atStart=>exact⟨0,by omega,rfl,fun j h a=>absurd a (by omega),zR⟩
 case round =>
  obtain⟨m,hm,rfl,H,hbw⟩:=hrel;have hz:=hbw.size
  by_cases hlt2:m<ps.length
  ·obtain⟨b2,o2,rfl,hbl2,hcell2⟩:=hcP (by omega);obtain⟨d0,d1,d2⟩:=hcell2 m hlt2;have e0:=(hbw.cell (p:=⟨b2,o2+m*3,none⟩) hbl2).trans d0;have e1:=(hbw.cell (p:=⟨b2,o2+m*3+1,none⟩) hbl2).trans d1;have e2:=(hbw.cell (p:=⟨b2,o2+m*3+2,none⟩) hbl2).trans d2;have hb1:=zaa (hbw.alloc hz (.cells #[.I ps[m].at_,.I ps[m].val,.bool ps[m].fl] 138));clear d0 d1 d2 hcell2 hcP
   by_cases q:stB ps[m]=true
   ·have Q:=zaa q;clear q;go_wp2_with (go_at_call 97;refine(zon ps[m] _).mono ?_;rw[Q.o];rintro e w' ⟨rfl,hw'⟩);have hw2:=hb1.o.trans (hw'.mono (by simp;omega));clear hb1 hw'
    go_roundw
    case rel =>
     refine⟨m+1,by omega,by go_num,fun j h a=>?_,hw2⟩
     by_cases e:j=m
     ·subst e;exact Q.o
     ·exact H.o j h (by omega)
    case measure=>simp[intOf];omega
   ·have Q:=zaa (show stB ps[m]=false by simpa using q);have E:=zaa (yanl hlt2 Q.o);clear q;go_wp2_with (go_at_call 97;refine(zon ps[m] _).mono ?_;rw[Q.o];rintro e w' ⟨rfl,hw'⟩);have hw2:=hb1.o.trans (hw'.mono (by simp;omega));go_ret;exact⟨zag E.o.symm,hw2⟩
  ·have E:=zaa (yakj (fun j h=>H.o j h (by omega)));go_wp2;go_ret;exact⟨zag E.o.symm,hbw⟩
theorem zdn(v:Value)(ws:List Int)(ps:List St)(w:World)(h:RdPm w v ws ps)(hw:ws.length<=1048576)(hp:ps.length<=1048576) :
  zC 43 #[v] w fun e w'=>e=.returned (.bool (pmB ws ps))/\zB w w':=by
 obtain⟨vW,vP,rfl,h1,h2⟩:=h;obtain⟨aW,cW,rfl,_,hcW⟩:=h1.shape;obtain⟨aP,cP,rfl,_,hcP⟩:=h2.shape;have H1:=zaa h1;have H2:=zaa h2;clear h1 h2 hcW hcP;have hb0:zB w (w.alloc (.cells #[.slice aW ws.length cW,.slice aP ps.length cP] 26)):=zR.alloc zL _;have HB:=zaa hb0
 by_cases c1:ws.length=336
 case neg =>
  have E:=zaa (yalz (ps:=ps) c1)
  have c1':((ws.length:Int) == 336)=false:=by rw[beq_eq_false_iff_ne];omega
  clear c1;go_enter Tryz.func43,Tryz.ntmps43;go_wp2;go_ret;exact⟨zag E.o.symm,HB.o⟩
 have c1n:((ws.length:Int) == 336)=true:=by simp;omega
 have C1:=zaa c1;clear c1
 by_cases c2:400<ps.length
 ·have E:=zaa (yalm (ws:=ws) c2)
  have c2':decide ((ps.length:Int)<=400)=false:=by simp;omega
  go_enter Tryz.func43,Tryz.ntmps43;go_wp2;go_ret;exact⟨zag E.o.symm,HB.o⟩
 by_cases c3:zij ws=true
 case neg =>
  have c3':zij ws=false:=by simpa using c3
  obtain⟨k,hk,hkf⟩:=ztu c3';have E:=zaa (yawc (ps:=ps) hk hkf);have W0:=zaa c3';clear c3 c3' hkf hk;go_enter Tryz.func43,Tryz.ntmps43;go_wp2_with (go_at_call 94;refine(zcw _ ws _ (Rd.below H1.o HB.o) (by omega)).mono ?_;rw[W0.o];rintro e w' ⟨rfl,rfl⟩);go_ret;exact⟨zag E.o.symm,HB.o⟩
 have HW:=zaa (znk c3);have W1:=zaa c3;clear c3
 cases c4:stsB ps with
 | true =>
  have E:=zaa (yapu C1.o (by omega) HW.o (fun j h=>yaom (yahx c4 j h)));have W2:=zaa c4;clear c4;go_enter Tryz.func43,Tryz.ntmps43;go_wp2_with (first | (go_at_call 94;refine(zcw _ ws _ (Rd.below H1.o HB.o) (by omega)).mono ?_;rw[W1.o];rintro e w' ⟨rfl,rfl⟩) | (go_at_call 96;refine(zih _ ps _ (Rd.below H2.o HB.o) (by omega)).mono ?_;rw[W2.o];rintro e w' ⟨rfl,hw'⟩));go_ret;exact⟨zag E.o.symm,HB.o.trans (hw'.mono (by simp))⟩
 | false =>
  obtain⟨k,hk,hkf⟩:=yaqp c4;have E:=zaa (show pmB ws ps=false from yaip hkf (yawa (ws:=ws) hk) (yavx (ws:=ws) hk));have W2:=zaa c4;clear c4 hk hkf;go_enter Tryz.func43,Tryz.ntmps43;go_wp2_with (first | (go_at_call 94;refine(zcw _ ws _ (Rd.below H1.o HB.o) (by omega)).mono ?_;rw[W1.o];rintro e w' ⟨rfl,rfl⟩) | (go_at_call 96;refine(zih _ ps _ (Rd.below H2.o HB.o) (by omega)).mono ?_;rw[W2.o];rintro e w' ⟨rfl,hw'⟩));go_ret;exact⟨zag E.o.symm,HB.o.trans (hw'.mono (by simp))⟩
end Go.Proofs.YtogcbbkhnpmgeaaGreatDoor
