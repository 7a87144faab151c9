import Derived.Test.YtogcbbkhnpmgeaaGreatDoorStN
import Derived.Maps.Views
namespace Go.Proofs.YtogcbbkhnpmgeaaGreatDoor
open Go.RowKit
def freeD:Den:=⟨0,⟨#[]⟩,-1⟩
def fiI(ws:List Ino):Int:=zby (fun i=>decide (1<=i)&&zai ws (i:Int) == 0) ws.length
def feI(ps:List Den):Int:=zby (fun i=>decide (zar ps i<0)) ps.length
def zen(ws:List Ino)(z:Int):Int:=(ws.getD z.toNat ⟨0,0,0,0,0,0,0,0,0,0,0⟩).links
theorem zki{ws:List Ino}{i:Nat}(h:i<ws.length):zen ws (i:Int)=ws[i].links:=by
 unfold zen;rw[Int.toNat_natCast,List.getD_eq_getElem?_getD,List.getElem?_eq_getElem h];rfl
def mkU(i k:Int)(kind:Int)(d:Int)(nm:ByteArray):List Se:=[⟨48+12*i,kind⟩,⟨48+12*i+2,1⟩]++enL k ⟨d,nm,i⟩
def mkN(ws:List Ino)(ps:List Den)(kind d:Int)(nm:ByteArray):List Se×Int:=if 0<=zlh ps d nm then([],8)else if fiI ws<0 then([],7)else if feI ps<0 then([],7) else(mkU (fiI ws) (feI ps) kind d nm,0)
def mkI(ws:List Ino)(ps:List Den)(s:ByteArray)(kind:Int):List Se×Int:=if (paI ws ps s).2.2=0 then mkN ws ps kind (paI ws ps s).1 (paI ws ps s).2.1 else([],(paI ws ps s).2.2)
def rmU(k i l:Int):List Se:=enL k freeD++(if 1<l then[⟨48+12*i+2,l-1⟩]else wrL i zgg 8)
def rmC(ws:List Ino)(ps:List Den)(k:Nat):List Se×Int:=if zai ws (zar ps k)=2/\¬ zbq ps (zar ps k)=[] then([],11) else(rmU (k:Int) (zar ps k) (zen ws (zar ps k)),0)
def rmN(ws:List Ino)(ps:List Den)(d:Int)(nm:ByteArray):List Se×Int:=match zbs ps d nm with | none=>([],5) | some k=>rmC ws ps k
def rmI(ws:List Ino)(ps:List Den)(s:ByteArray):List Se×Int:=if (paI ws ps s).2.2=0 then rmN ws ps (paI ws ps s).1 (paI ws ps s).2.1 else([],(paI ws ps s).2.2)
def lnN(ws:List Ino)(ps:List Den)(i d:Int)(nm:ByteArray):List Se×Int:=if 0<=zlh ps d nm then([],8)else if feI ps<0 then([],7) else(enL (feI ps) ⟨d,nm,i⟩++[⟨48+12*i+2,zen ws i+1⟩],0)
def lnP(ws:List Ino)(ps:List Den)(t:ByteArray)(i:Int):List Se×Int:=if (paI ws ps t).2.2=0 then lnN ws ps i (paI ws ps t).1 (paI ws ps t).2.1 else([],(paI ws ps t).2.2)
def lnI(ws:List Ino)(ps:List Den)(s t:ByteArray):List Se×Int:=if (lkI ws ps s).2=0 then(if zai ws (lkI ws ps s).1=2 then([],9)else lnP ws ps t (lkI ws ps s).1) else([],(lkI ws ps s).2)
def rnN(ws:List Ino)(ps:List Den)(k:Nat)(d:Int)(nm:ByteArray):List Se×Int:=if 0<=zlh ps d nm then([],8)else if zai ws (zar ps k)=2/\zpt ps 17 d (zar ps k)=true then([],13) else(enL (k:Int) ⟨d,nm,zar ps k⟩,0)
def rnP(ws:List Ino)(ps:List Den)(t:ByteArray)(k:Nat):List Se×Int:=if (paI ws ps t).2.2=0 then rnN ws ps k (paI ws ps t).1 (paI ws ps t).2.1 else([],(paI ws ps t).2.2)
def rnE(ws:List Ino)(ps:List Den)(t:ByteArray)(d:Int)(nm:ByteArray):List Se×Int:=match zbs ps d nm with | none=>([],5) | some k=>rnP ws ps t k
def rnI(ws:List Ino)(ps:List Den)(s t:ByteArray):List Se×Int:=if (paI ws ps s).2.2=0 then rnE ws ps t (paI ws ps s).1 (paI ws ps s).2.1 else([],(paI ws ps s).2.2)
theorem yamd{s x:ByteArray}(hm:x∈spL s):nmB x=true:=by
 unfold spL at hm
 split at hm
 ·cases hm
 ·split at hm
  ·rename_i h;unfold spN at h;simp only[Bool.and_eq_true,List.all_eq_true]at h;exact h.2.2 x hm
  ·cases hm
theorem zju{ws:List Ino}{ps:List Den}{s:ByteArray}(h:zcr ws ps=true)(c:(paI ws ps s).2.2=0):(0<=(paI ws ps s).1/\(paI ws ps s).1<=15)/\zai ws (paI ws ps s).1=2/\nmB (paI ws ps s).2.1=true:=by
 unfold paI at c ⊢
 by_cases q:spB s=true
 ·rw[if_pos q]at c ⊢
  by_cases e:spL s=[]
  ·unfold paL at c;rw[if_pos e]at c
   cases c
  ·obtain⟨xs,x,hx⟩:=yajc e;have hn:nmB x=true:=yamd (s:=s) (by rw[hx];simp);rw[hx,yabe]at c ⊢;unfold paN at c ⊢
   by_cases q1:(wk ws ps 0 xs).2=0
   ·rw[if_pos q1]at c ⊢
    by_cases q2:zai ws (wk ws ps 0 xs).1=2
    ·rw[if_pos q2]at c ⊢;exact⟨zmd h xs 0 (by omega),q2,hn⟩
    ·rw[if_neg q2]at c;cases c
   ·rw[if_neg q1]at c;exact absurd c q1
 ·rw[if_neg q]at c;cases c
theorem zul{ws:List Ino}{ps:List Den}{s:ByteArray}(h:zcr ws ps=true):0<=(lkI ws ps s).1/\(lkI ws ps s).1<=15:=by
 unfold lkI
 split
 ·exact zmd h _ 0 (by omega)
 ·exact⟨by decide,by decide⟩
theorem znw{ps:List Den}{d:Int}{nm:ByteArray}:zbs ps d nm=none↔¬ 0<=zlh ps d nm:=by
 unfold zlh
 cases zbs ps d nm with
 | none=>simp
 | some k=>simp
theorem ztt{ps:List Den}{d:Int}{nm:ByteArray}{k:Nat}(h:zbs ps d nm=some k):zlh ps d nm=(k:Int):=by
 unfold zlh;rw[h]
theorem zqm{ws:List Ino}{ps:List Den}(h:zcr ws ps=true){i:Int}(h0:0<=i/\i<=15):0<=zen ws i/\zen ws i<=24:=by
 obtain⟨hl,_,_,ho,_⟩:=zaw h
 obtain⟨n,rfl⟩:∃ n:Nat,i=(n:Int):=⟨i.toNat,by omega⟩
 have hn:n<ws.length:=by omega
 rw[zki hn];have:=(of_decide_eq_true ho:∀ k (h:k<ws.length),zdp ws[k]=true) n hn;unfold zdp at this;simp only[Bool.and_eq_true,decide_eq_true_eq]at this;exact this.2.2.1
theorem yaor{ws:List Ino}{ps:List Den}(h:zcr ws ps=true):fiI ws<16:=by
 have:=(zea (fun i=>decide (1<=i)&&zai ws (i:Int) == 0) ws.length).2;have e:=(zaw h).1;unfold fiI;omega
theorem yaal{ws:List Ino}{ps:List Den}(h:zcr ws ps=true):feI ps<24:=by
 have:=(zea (fun i=>decide (zar ps i<0)) ps.length).2;have e:=(zaw h).2.1;unfold feI;omega
theorem zmr{p:Nat->Bool}{n:Nat}(h:¬ zby p n<0):p (zby p n).toNat=true:=by
 unfold zby at h ⊢
 split
 ·rename_i i e;simpa using List.find?_some e
 ·rename_i e;rw[e]at h;exact absurd (by decide) h
theorem yata{ws:List Ino}(h:¬ fiI ws<0):1<=fiI ws:=by
 have:=zmr h;simp only[Bool.and_eq_true,decide_eq_true_eq]at this;unfold fiI at h ⊢;omega
theorem znb{s t:ByteArray}:(s.toList == t.toList)=true↔s=t:=by
 rw[beq_iff_eq,ByteArray.toList_eq,ByteArray.toList_eq];exact⟨zno,fun h=>by rw[h]⟩
theorem zkq{d:Int}{nm:ByteArray}{x:Den}:zcm d nm x=true↔0<=x.child/\x.dir=d/\x.name=nm:=by
 unfold zcm;rw[Bool.and_eq_true,Bool.and_eq_true,decide_eq_true_eq,beq_iff_eq,znb]
theorem yanr{ws:List Ino}{ps:List Den}(h:zcr ws ps=true){d:Int}{nm:ByteArray}{i j:Nat}(hi:i<ps.length)(hj:j<ps.length)(ei:zcm d nm ps[i]=true)(ej:zcm d nm ps[j]=true):i=j:=by
 obtain⟨_,_,_,_,he,_,_⟩:=zaw h
 have he:=(of_decide_eq_true he:∀ i (h:i<ps.length),zda ws ps i ps[i]=true)
 have one:∀ {i j:Nat} (hi:i<ps.length) (hj:j<ps.length),zcm d nm ps[i]=true->zcm d nm ps[j]=true->¬ i<j:=by
  intro i j hi hj ei ej lt;obtain⟨a1,a2,a3⟩:=zkq.1 ei;obtain⟨b1,b2,b3⟩:=zkq.1 ej;have e:=he j hj;unfold zda at e;rw[if_neg (by omega)]at e;simp only[Bool.and_eq_true,List.all_eq_true]at e
  have q:=e.2.2.2.2.2 ps[i] (by
   rw[List.mem_take_iff_getElem]
   exact⟨i,by omega,rfl⟩)
  unfold zdt at q;rw[a2,a3,b2,b3,decide_eq_true a1]at q;simp at q
 have q1:=one hi hj ei ej;have q2:=one hj hi ej ei;omega
theorem yadj{ws:List Ino}{ps:List Den}(h:zcr ws ps=true){d:Int}(k:¬ zai ws d=2):zbq ps d=[]:=by
 unfold zbq;rw[List.map_eq_nil_iff,List.filter_eq_nil_iff];intro x hx;obtain⟨j,hj,rfl⟩:=List.getElem_of_mem hx;rw[decide_eq_true_eq];rintro⟨a,b⟩
 rcases zma h j hj with q | q
 ·omega
 ·exact k (by rw[<- b];exact q.2.2.2.2)
def zam(ws:List Ino)(i:Nat):Ino:=ws.getD i zgg
def zat(ps:List Den)(k:Nat):Den:=ps.getD k freeD
theorem zbj{ws:List Ino}{i:Nat}(h:i<ws.length):zam ws i=ws[i]:=by
 unfold zam;rw[List.getD_eq_getElem?_getD,List.getElem?_eq_getElem h];rfl
theorem zck{ps:List Den}{i:Nat}(h:i<ps.length):zat ps i=ps[i]:=by
 unfold zat;rw[List.getD_eq_getElem?_getD,List.getElem?_eq_getElem h];rfl
theorem zbd(ws:List Ino)(i:Nat):zai ws (i:Int)=(zam ws i).kind:=by unfold zai zam;rfl
theorem zqn(ws:List Ino)(i:Nat):zen ws (i:Int)=(zam ws i).links:=by unfold zen zam;rfl
theorem zyn{ps:List Den}{k:Nat}(h:k<ps.length):zar ps k=(zat ps k).child:=by rw[zdl h,zck h]
theorem zcn{ws:List Ino}{i:Nat}(h:i<ws.length)(x:Ino)(j:Nat):zam (ws.set i x) j=if j=i then x else zam ws j:=by
 unfold zam;rw[List.getD_eq_getElem?_getD,List.getD_eq_getElem?_getD,List.getElem?_set]
 by_cases e:i=j
 ·subst e;simp[h]
 ·have:¬ j=i:=fun q=>e q.symm
  simp[e,this]
theorem zax{ps:List Den}{i:Nat}(h:i<ps.length)(x:Den)(j:Nat):zat (ps.set i x) j=if j=i then x else zat ps j:=by
 unfold zat;rw[List.getD_eq_getElem?_getD,List.getD_eq_getElem?_getD,List.getElem?_set]
 by_cases e:i=j
 ·subst e;simp[h]
 ·have:¬ j=i:=fun q=>e q.symm
  simp[e,this]
theorem yafp{x:Den}:x.freeB=true↔x=freeD:=by
 unfold Den.freeB freeD;simp only[Bool.and_eq_true,beq_iff_eq];constructor
 ·rintro⟨h1,h2,h3⟩;obtain⟨d,n,c⟩:=x;simp only at h1 h2 h3;subst h1 h3
  have:n=⟨#[]⟩:=by
   apply zno
   have:n.data.toList.length=0:=by simpa using h2
   rw[List.eq_nil_of_length_eq_zero this]
  rw[this]
 ·intro h;rw[h];exact⟨rfl,rfl,rfl⟩
def zhg(ws:List Ino)(x:Den):Prop:=(1<=x.child/\x.child<=15)/\(0<=x.dir/\x.dir<=15)/\nmB x.name=true/\¬ zai ws x.child=0/\zai ws x.dir=2
def zjd(ps:List Den)(c:Int):Nat:=(ps.filter fun x=>x.child == c).length
structure Img(ws:List Ino)(ps:List Den):Prop where
 l16:ws.length=16
 l24:ps.length=24
 root:zai ws 0=2
 ok:∀ i,i<16->zdp (zam ws i)=true
 ent:∀ k,k<24->zat ps k=freeD\/zhg ws (zat ps k)
 once:∀ j k,j<24->k<24->0<=(zat ps j).child->0<=(zat ps k).child->(zat ps j).dir=(zat ps k).dir->(zat ps j).name=(zat ps k).name->j=k
 links:∀ i:Nat,i<16->(if i=0 then 1 else 0)+(zjd ps (i:Int):Int)=(zam ws i).links
 hang:∀ i:Nat,i<16->(zam ws i).kind=2->zdk ps 16 (i:Int)=true
 sing:(zap ws).Pairwise fun x y=>x≠y
theorem zqt{ws:List Ino}(l16:ws.length=16)(ok:∀ i,i<16->zdp (zam ws i)=true):∀ e∈zap ws,0<=e/\(e%4=1\/e%4=2):=by
 apply zou;intro i hi;have:=ok i (by omega);rw[zbj hi]at this;exact(zet this).1
theorem zbi{ws:List Ino}{ps:List Den}:zcr ws ps=true↔Img ws ps:=by
 constructor
 ·intro h;obtain⟨l1,l2,r,o,e,l,s⟩:=zaw h
  have o':=(of_decide_eq_true o:∀ k (h:k<ws.length),zdp ws[k]=true)
  have e':=(of_decide_eq_true e:∀ i (h:i<ps.length),zda ws ps i ps[i]=true)
  have l':=(of_decide_eq_true l:∀ i (h:i<ws.length),zhf ps i ws[i]=true)
  have ok:∀ i,i<16->zdp (zam ws i)=true:=fun i hi=>by rw[zbj (by omega)];exact o' i (by omega)
  refine⟨l1,l2,r,ok,?_,?_,?_,?_,?_⟩
  ·intro k hk;rw[zck (by omega)];have q:=e' k (by omega);unfold zda at q
   split at q
   ·exact .inl (yafp.1 q)
   ·right
    rcases zma h k (by omega)with a | a
    ·rename_i c;exact absurd a.1 c
    ·exact a
  ·intro j k hj hk cj ck hd hn;refine yanr h (d:=(zat ps j).dir) (nm:=(zat ps j).name) (i:=j) (j:=k) (by omega) (by omega) ?_ ?_
   ·rw[zck (by omega)]at cj ⊢;exact zkq.2 ⟨cj,rfl,rfl⟩
   ·rw[zck (i:=k) (by omega)]at ck hd hn;exact zkq.2 ⟨ck,hd.symm,hn.symm⟩
  ·intro i hi;have q:=l' i (by omega);unfold zhf zlm at q;simp only[Bool.and_eq_true,decide_eq_true_eq]at q;rw[zbj (by omega),<- q.1,List.take_length];rfl
  ·intro i hi hk;rw[zbj (by omega)]at hk;have q:=l' i (by omega);unfold zhf at q;simp only[Bool.and_eq_true,Bool.or_eq_true,decide_eq_true_eq]at q
   rcases q.2 with q | q
   ·exact absurd hk q
   ·exact q
  ·unfold ziw at s;rw[zop (fun e he=>(zqt l1 ok e he).2),zfu]at s;exact s
 ·rintro⟨l1,l2,r,o,e,c,l,g,s⟩;unfold zcr
  have hs:ziw ws=true:=by
   unfold ziw;rw[zop (fun e he=>(zqt l1 o e he).2),zfu];exact s
  have ho:zwo ws=true:=decide_eq_true fun k hk=>by rw[<- zbj hk];exact o k (by omega)
  have hl:zfv ws ps=true:=decide_eq_true fun i hi=>by
   unfold zhf zlm;rw[List.take_length,<- zbj hi];simp only[Bool.and_eq_true,Bool.or_eq_true,decide_eq_true_eq];refine⟨l i (by omega),?_⟩
   by_cases q:(zam ws i).kind=2
   ·exact .inr (g i (by omega) q)
   ·exact .inl q
  have he:zhz ws ps=true:=decide_eq_true fun i hi=>by
   unfold zda;rw[<- zck hi]
   rcases e i (by omega)with q | q
   ·rw[q];rfl
   ·obtain⟨q1,q2,q3,q4,q5⟩:=q;rw[if_neg (by omega),decide_eq_true q1,decide_eq_true q2,q3,q5];simp only[Bool.true_and,Bool.and_eq_true,Bool.not_eq_true',beq_eq_false_iff_ne,List.all_eq_true];refine⟨q4,by decide,?_⟩;intro y hy;obtain⟨j,hj,rfl⟩:=List.mem_take_iff_getElem.1 hy;have hj:=Nat.lt_min.1 hj
    have hc:zdt ps[j] (zat ps i)=false:=by
     rw[Bool.eq_false_iff];intro hc;unfold zdt at hc;rw[Bool.and_eq_true,Bool.and_eq_true,decide_eq_true_eq,beq_iff_eq,znb]at hc;rw[<- zck hj.2]at hc;have:=c j i (by omega) (by omega) hc.1 (by omega) hc.2.1 hc.2.2;omega
    rw[hc]
  rw[decide_eq_true l1,decide_eq_true l2,r,ho,he,hl,hs];rfl
theorem zgu:∀ (ps:List Den) (k:Nat) (x:Den) (c:Int),k<ps.length->zjd (ps.set k x) c+(if (zat ps k).child=c then 1 else 0)=zjd ps c+(if x.child=c then 1 else 0)
 | [],k,x,c,h=>absurd h (by simp)
 | y::ps,0,x,c,h=>by
  unfold zjd zat;simp only[List.set_cons_zero,List.getD_cons_zero]
  by_cases a:y.child=c<;>by_cases b:x.child=c<;>simp[a,b]
 | y::ps,k+1,x,c,h=>by
  have ih:=zgu ps k x c (by simpa using h);unfold zjd zat at *;simp only[List.set_cons_succ,List.getD_cons_succ]
  by_cases a:y.child=c
  ·simp only[List.filter_cons,a,beq_self_eq_true,if_true,List.length_cons];omega
  ·simp only[List.filter_cons,show(y.child == c)=false by rw[beq_eq_false_iff_ne];exact a,Bool.false_eq_true,if_false];exact ih
theorem zly{ps:List Den}{c:Int}(h:zjd ps c=0):∀ k,k<ps.length->¬ (zat ps k).child=c:=by
 intro k hk e;unfold zjd at h;have:=List.filter_eq_nil_iff.1 (List.eq_nil_of_length_eq_zero h) ps[k] (List.getElem_mem hk);rw[zck hk]at e;simp[e]at this
theorem yakz{ps:List Den}{c:Int}(h:∀ k,k<ps.length->¬ (zat ps k).child=c):zjd ps c=0:=by
 unfold zjd;rw[List.length_eq_zero_iff,List.filter_eq_nil_iff];intro x hx;obtain⟨k,hk,rfl⟩:=List.getElem_of_mem hx;have:=h k hk;rw[zck hk]at this;simpa using this
theorem yaqu{ps:List Den}{c:Int}(h:zjd ps c=1){j k:Nat}(hj:j<ps.length)(hk:k<ps.length)(ej:(zat ps j).child=c)(ek:(zat ps k).child=c):j=k:=by
 apply Classical.byContradiction;intro ne
 by_cases hc:c=-1
 ·subst hc;have a:=zgu ps k ⟨0,⟨#[]⟩,-2⟩ (-1) hk;rw[if_pos ek,if_neg (by decide),h]at a
  have z:zjd (ps.set k ⟨0,⟨#[]⟩,-2⟩) (-1)=0:=by omega
  refine zly z j (by simpa using hj) ?_;rw[zax hk,if_neg ne];exact ej
 ·have a:=zgu ps k freeD c hk;rw[if_pos ek,if_neg (fun q=>hc (by rw[<- q];rfl)),h]at a
  have z:zjd (ps.set k freeD) c=0:=by omega
  refine zly z j (by simpa using hj) ?_;rw[zax hk,if_neg ne];exact ej
theorem yags{ps:List Den}{c:Int}{k:Nat}(hk:k<ps.length)(e:(zat ps k).child=c)(h:∀ j,j<ps.length->(zat ps j).child=c->j=k):upD ps c=(zat ps k).dir:=by
 rw[zck hk]at e ⊢;exact yagf hk (fun j hj lt q=>by have:=h j hj (by rw[zck hj];exact q);omega) e
theorem zta{ps qs:List Den}{c:Int}(hl:ps.length=qs.length)(h:∀ k,k<ps.length->(zat ps k=zat qs k\/(¬ (zat ps k).child=c/\¬ (zat qs k).child=c))):upD ps c=upD qs c:=by
 unfold upD
 congr 2
 induction ps generalizing qs with
 | nil =>
  cases qs with
  | nil=>rfl
  | cons=>simp at hl
 | cons x ps ih =>
  cases qs with
  | nil=>simp at hl
  | cons y qs =>
   have h0:=h 0 (by simp)
   have ih':=ih (qs:=qs) (by simpa using hl) (fun k hk=>by
    have:=h (k+1) (by simpa using hk)
    simpa[zat]using this)
   simp only[zat,List.getD_cons_zero]at h0
   rcases h0 with e | ⟨a,b⟩
   ·subst e;simp only[List.find?_cons];rw[ih']
   ·rw[List.find?_cons_of_neg (by simpa using a),List.find?_cons_of_neg (by simpa using b)];exact ih'
def Rch(ps:List Den)(d:Int):Prop:=∃ n,zdk ps n d=true
theorem zsk(ps:List Den):Rch ps 0:=⟨1,by rw[zft,if_pos rfl]⟩
theorem zka{ps:List Den}{c:Int}(h0:0<=upD ps c)(h:Rch ps (upD ps c)):Rch ps c:=by
 obtain⟨n,hn⟩:=h;refine⟨n+1,?_⟩;rw[zft]
 by_cases q:c=0
 ·rw[if_pos q]
 ·rw[if_neg q,if_neg (by omega)];exact hn
theorem zuv{ps:List Den}{P:Int->Prop}(h0:P 0)(hs:∀ c,¬ c=0->0<=upD ps c->P (upD ps c)->P c):∀ (n:Nat) (d:Int),zdk ps n d=true->P d
 | 0,d,h=>by rw[zko]at h;cases h
 | n+1,d,h=>by
  by_cases q:d=0
  ·rw[q];exact h0
  ·obtain⟨a,b⟩:=znv h q;exact hs d q a (zuv h0 hs n _ b)
theorem yaia{ps:List Den}{P:Int->Prop}{d:Int}(h:Rch ps d)(h0:P 0)(hs:∀ c,¬ c=0->0<=upD ps c->P (upD ps c)->P c):P d:=by
 obtain⟨n,hn⟩:=h;exact zuv h0 hs n d hn
theorem yagq(f:Int->Int)(n:Nat)(i:Int):zdc f (n+1) i=f (zdc f n i):=by
 rw[zew f n 1 i];rfl
theorem yaao{ps:List Den}:∀ (n:Nat) (d:Int),zdk ps n d=true->∃ m,m<n/\zdc (upD ps) m d=0/\∀ j,j<m->¬ zdc (upD ps) j d=0/\0<=zdc (upD ps) (j+1) d
 | 0,d,h=>by rw[zko]at h;cases h
 | n+1,d,h=>by
  by_cases q:d=0
  ·exact⟨0,by omega,q,fun j hj=>absurd hj (by omega)⟩
  ·obtain⟨a,b⟩:=znv h q;obtain⟨m,hm,e,r⟩:=yaao n _ b;refine⟨m+1,by omega,e,?_⟩;intro j hj
   cases j with
   | zero=>exact⟨q,a⟩
   | succ j=>exact r j (by omega)
theorem yaay{ps:List Den}:∀ (m n:Nat) (d:Int),m<n->zdc (upD ps) m d=0->(∀ j,j<m->0<=zdc (upD ps) (j+1) d)->zdk ps n d=true
 | _,0,_,h,_,_=>absurd h (by omega)
 | 0,n+1,d,_,e,_=>by
  rw[zft,if_pos (show d=0 from e)]
 | m+1,n+1,d,h,e,r=>by
  rw[zft]
  by_cases q:d=0
  ·rw[if_pos q]
  ·have a:0<=upD ps d:=r 0 (by omega);rw[if_neg q,if_neg (show ¬ upD ps d<0 by omega)];exact yaay m n (upD ps d) (by omega) e (fun j hj=>r (j+1) (by omega))
theorem zmi{ps:List Den}{d:Int}(h:Rch ps d)(hd:0<=d/\d<=15)(hu:∀ c,upD ps c<=15):zdk ps 16 d=true:=by
 obtain⟨n,hn⟩:=h;obtain⟨m,_,e,r⟩:=yaao n d hn
 have rng:∀ j,j<=m->0<=zdc (upD ps) j d/\zdc (upD ps) j d<=15:=by
  intro j hj
  cases j with
  | zero=>exact hd
  | succ j =>
   refine⟨(r j (by omega)).2,?_⟩;rw[yagq];exact hu _
 by_cases hm:m<16
 ·exact yaay m 16 d hm e (fun j hj=>(r j hj).2)
 ·exfalso;obtain⟨a,b,hab,hb,he⟩:=yagu 16 (fun k=>(zdc (upD ps) k d).toNat) (fun k hk=>by have:=rng k (by omega);show(zdc (upD ps) k d).toNat<16;omega);have ra:=rng a (by omega);have rb:=rng b (by omega)
  have he':zdc (upD ps) a d=zdc (upD ps) b d:=by
   have:(zdc (upD ps) a d).toNat=(zdc (upD ps) b d).toNat:=he;omega
  have z:zdc (upD ps) (a+(m-b)) d=0:=by
   rw[zew,he',<- zew,show b+(m-b)=m by omega];exact e
  exact(r (a+(m-b)) (by omega)).1 z
theorem yapv{ws:List Ino}{ps:List Den}(ent:∀ k,k<ps.length->zat ps k=freeD\/zhg ws (zat ps k)){c:Int}(hc:0<=c)(h:0<=upD ps c):∃ k,k<ps.length/\(zat ps k).child=c/\(zat ps k).dir=upD ps c/\zhg ws (zat ps k):=by
 unfold upD at h ⊢
 cases e:ps.find? fun x=>x.child == c with
 | none=>rw[e]at h;exact absurd h (by decide)
 | some x =>
  have hx:=List.mem_of_find?_eq_some e;have hp:=List.find?_some e;obtain⟨k,hk,rfl⟩:=List.getElem_of_mem hx;refine⟨k,hk,?_⟩;rw[zck hk];refine⟨by simpa using hp,rfl,?_⟩;have:=ent k hk;rw[zck hk]at this
  rcases this with q | q
  ·rw[q]at hp
   have:freeD.child=c:=by simpa using hp
   exact absurd hc (by rw[<- this];decide)
  ·exact q
theorem yanz{ws:List Ino}{ps:List Den}(ent:∀ k,k<ps.length->zat ps k=freeD\/zhg ws (zat ps k))(c:Int):upD ps c<=15:=by
 unfold upD
 cases e:ps.find? fun x=>x.child == c with
 | none=>decide
 | some x =>
  have hx:=List.mem_of_find?_eq_some e;obtain⟨k,hk,rfl⟩:=List.getElem_of_mem hx;have:=ent k hk;rw[zck hk]at this
  show ps[k].dir<=15
  rcases this with q | q
  ·rw[q];decide
  ·exact q.2.1.2
theorem zmc{ps qs:List Den}{i:Int}{G:Int->Prop}(hG:∀ c,G c->0<=upD ps c->¬ upD ps c=i/\G (upD ps c))(hs:∀ c,G c->¬ c=i->upD qs c=upD ps c){d:Int}(h:Rch ps d)(hd:G d)(hi:¬ d=i):Rch qs d:=by
 have:G d->¬ d=i->Rch qs d:=by
  refine yaia (P:=fun c=>G c->¬ c=i->Rch qs c) h (fun _ _=>zsk qs) ?_;intro c c0 cu ih g ne;obtain⟨a,b⟩:=hG c g cu;have e:=hs c g ne;refine zka (by rw[e];exact cu) ?_;rw[e];exact ih b a
 exact this hd hi
theorem zpx{ps qs:List Den}{i:Int}(hs:∀ c,0<=c->¬ c=i->upD qs c=upD ps c):∀ (n:Nat) (d:Int),zdk ps n d=true->0<=d->zpt ps (n+1) d i=false->Rch qs d
 | 0,d,h,_,_=>by rw[zko]at h;cases h
 | n+1,d,h,hd,hb=>by
  by_cases q:d=0
  ·rw[q];exact zsk qs
  ·obtain⟨a,b⟩:=znv h q;rw[yahz,if_neg (by omega)]at hb
   by_cases e:d=i
   ·rw[if_pos e]at hb;cases hb
   ·rw[if_neg e]at hb;have u:=hs d hd e;refine zka (by rw[u];exact a) ?_;rw[u];exact zpx hs n _ b a hb
end Go.Proofs.YtogcbbkhnpmgeaaGreatDoor
