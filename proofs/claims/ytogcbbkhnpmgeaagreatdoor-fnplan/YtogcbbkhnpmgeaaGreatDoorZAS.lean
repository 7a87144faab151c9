import Derived.Test.YtogcbbkhnpmgeaaGreatDoorZAQ
import Derived.Test.YtogcbbkhnpmgeaaGreatDoorStN
import Derived.Maps.Views
namespace Go.Proofs.YtogcbbkhnpmgeaaGreatDoor
open Go.RowKit
def freeD:Den:=⟨0,⟨#[]⟩,-1⟩
def fiI(ws:List Ino):Int:=zba (fun i=>decide (1<=i)&&zaj ws (i:Int) == 0) ws.length
def feI(ps:List Den):Int:=zba (fun i=>decide (zao ps i<0)) ps.length
def zdr(ws:List Ino)(z:Int):Int:=(ws.getD z.toNat ⟨0,0,0,0,0,0,0,0,0,0,0⟩).links
theorem zgi{ws:List Ino}{i:Nat}(h:i<ws.length):zdr ws (i:Int)=ws[i].links:=by
 unfold zdr;rw[Int.toNat_natCast,List.getD_eq_getElem?_getD,List.getElem?_eq_getElem h];rfl
def mkU(i k:Int)(kind:Int)(d:Int)(nm:ByteArray):List Se:=[⟨48+12*i,kind⟩,⟨48+12*i+2,1⟩]++enL k ⟨d,nm,i⟩
def mkN(ws:List Ino)(ps:List Den)(kind d:Int)(nm:ByteArray):List Se×Int:=if 0<=zkq ps d nm then([],8)else if fiI ws<0 then([],7)else if feI ps<0 then([],7) else(mkU (fiI ws) (feI ps) kind d nm,0)
def mkI(ws:List Ino)(ps:List Den)(s:ByteArray)(kind:Int):List Se×Int:=if (paI ws ps s).2.2=0 then mkN ws ps kind (paI ws ps s).1 (paI ws ps s).2.1 else([],(paI ws ps s).2.2)
def mkR(ws:List Ino)(ps:List Den)(s:ByteArray)(kind:Int):List Se×Int:=if 65536<s.size then([],2)else if zbg ws ps=true then(if 1<=kind/\kind<=2 then mkI ws ps s kind else([],4)) else([],1)
def rmU(k i l:Int):List Se:=enL k freeD++(if 1<l then[⟨48+12*i+2,l-1⟩]else wrL i zbb 8)
def rmC(ws:List Ino)(ps:List Den)(k:Nat):List Se×Int:=if zaj ws (zao ps k)=2/\¬ zbm ps (zao ps k)=[] then([],11) else(rmU (k:Int) (zao ps k) (zdr ws (zao ps k)),0)
def rmN(ws:List Ino)(ps:List Den)(d:Int)(nm:ByteArray):List Se×Int:=match zbi ps d nm with | none=>([],5) | some k=>rmC ws ps k
def rmI(ws:List Ino)(ps:List Den)(s:ByteArray):List Se×Int:=if (paI ws ps s).2.2=0 then rmN ws ps (paI ws ps s).1 (paI ws ps s).2.1 else([],(paI ws ps s).2.2)
def rmR(ws:List Ino)(ps:List Den)(s:ByteArray):List Se×Int:=if 65536<s.size then([],2)else if zbg ws ps=true then rmI ws ps s else([],1)
def lnN(ws:List Ino)(ps:List Den)(i d:Int)(nm:ByteArray):List Se×Int:=if 0<=zkq ps d nm then([],8)else if feI ps<0 then([],7) else(enL (feI ps) ⟨d,nm,i⟩++[⟨48+12*i+2,zdr ws i+1⟩],0)
def lnP(ws:List Ino)(ps:List Den)(t:ByteArray)(i:Int):List Se×Int:=if (paI ws ps t).2.2=0 then lnN ws ps i (paI ws ps t).1 (paI ws ps t).2.1 else([],(paI ws ps t).2.2)
def lnI(ws:List Ino)(ps:List Den)(s t:ByteArray):List Se×Int:=if (lkI ws ps s).2=0 then(if zaj ws (lkI ws ps s).1=2 then([],9)else lnP ws ps t (lkI ws ps s).1) else([],(lkI ws ps s).2)
def lnR(ws:List Ino)(ps:List Den)(s t:ByteArray):List Se×Int:=if 65536<s.size then([],2)else if 65536<t.size then([],2)else if zbg ws ps=true then lnI ws ps s t else([],1)
def rnN(ws:List Ino)(ps:List Den)(k:Nat)(d:Int)(nm:ByteArray):List Se×Int:=if 0<=zkq ps d nm then([],8)else if zaj ws (zao ps k)=2/\ziv ps 17 d (zao ps k)=true then([],13) else(enL (k:Int) ⟨d,nm,zao ps k⟩,0)
def rnP(ws:List Ino)(ps:List Den)(t:ByteArray)(k:Nat):List Se×Int:=if (paI ws ps t).2.2=0 then rnN ws ps k (paI ws ps t).1 (paI ws ps t).2.1 else([],(paI ws ps t).2.2)
def rnE(ws:List Ino)(ps:List Den)(t:ByteArray)(d:Int)(nm:ByteArray):List Se×Int:=match zbi ps d nm with | none=>([],5) | some k=>rnP ws ps t k
def rnI(ws:List Ino)(ps:List Den)(s t:ByteArray):List Se×Int:=if (paI ws ps s).2.2=0 then rnE ws ps t (paI ws ps s).1 (paI ws ps s).2.1 else([],(paI ws ps s).2.2)
def rnR(ws:List Ino)(ps:List Den)(s t:ByteArray):List Se×Int:=if 65536<s.size then([],2)else if 65536<t.size then([],2)else if zbg ws ps=true then rnI ws ps s t else([],1)
theorem yauq{s x:ByteArray}(hm:x∈spL s):nmB x=true:=by
 unfold spL at hm
 split at hm
 ·cases hm
 ·split at hm
  ·rename_i h;unfold spN at h;simp only[Bool.and_eq_true,List.all_eq_true]at h;exact h.2.2 x hm
  ·cases hm
theorem zgq{ws:List Ino}{ps:List Den}{s:ByteArray}(h:zbg ws ps=true)(c:(paI ws ps s).2.2=0):(0<=(paI ws ps s).1/\(paI ws ps s).1<=15)/\zaj ws (paI ws ps s).1=2/\nmB (paI ws ps s).2.1=true:=by
 unfold paI at c ⊢
 by_cases q:spB s=true
 ·rw[if_pos q]at c ⊢
  by_cases e:spL s=[]
  ·unfold paL at c;rw[if_pos e]at c
   cases c
  ·obtain⟨xs,x,hx⟩:=yadl e;have hn:nmB x=true:=yauq (s:=s) (by rw[hx];simp);rw[hx,zxa]at c ⊢;unfold paN at c ⊢
   by_cases q1:(wk ws ps 0 xs).2=0
   ·rw[if_pos q1]at c ⊢
    by_cases q2:zaj ws (wk ws ps 0 xs).1=2
    ·rw[if_pos q2]at c ⊢;exact⟨zme h xs 0 (by omega),q2,hn⟩
    ·rw[if_neg q2]at c;cases c
   ·rw[if_neg q1]at c;exact absurd c q1
 ·rw[if_neg q]at c;cases c
theorem zoe{ws:List Ino}{ps:List Den}{s:ByteArray}(h:zbg ws ps=true):0<=(lkI ws ps s).1/\(lkI ws ps s).1<=15:=by
 unfold lkI
 split
 ·exact zme h _ 0 (by omega)
 ·exact⟨by decide,by decide⟩
theorem ziz{ps:List Den}{d:Int}{nm:ByteArray}:zbi ps d nm=none↔¬ 0<=zkq ps d nm:=by
 unfold zkq
 cases zbi ps d nm with
 | none=>simp
 | some k=>simp
theorem zjr{ps:List Den}{d:Int}{nm:ByteArray}{k:Nat}(h:zbi ps d nm=some k):zkq ps d nm=(k:Int):=by
 unfold zkq;rw[h]
theorem zjy{ws:List Ino}{ps:List Den}(h:zbg ws ps=true){i:Int}(h0:0<=i/\i<=15):0<=zdr ws i/\zdr ws i<=24:=by
 obtain⟨hl,_,_,ho,_⟩:=zas h
 obtain⟨n,rfl⟩:∃ n:Nat,i=(n:Int):=⟨i.toNat,by omega⟩
 have hn:n<ws.length:=by omega
 rw[zgi hn];have:=(of_decide_eq_true ho:∀ k (h:k<ws.length),zed ws[k]=true) n hn;unfold zed at this;simp only[Bool.and_eq_true,decide_eq_true_eq]at this;exact this.2.2.1
theorem yagr{ws:List Ino}{ps:List Den}(h:zbg ws ps=true):fiI ws<16:=by
 have:=(zdb (fun i=>decide (1<=i)&&zaj ws (i:Int) == 0) ws.length).2;have e:=(zas h).1;unfold fiI;omega
theorem zpd{ws:List Ino}{ps:List Den}(h:zbg ws ps=true):feI ps<24:=by
 have:=(zdb (fun i=>decide (zao ps i<0)) ps.length).2;have e:=(zas h).2.1;unfold feI;omega
theorem zrr{p:Nat->Bool}{n:Nat}(h:¬ zba p n<0):p (zba p n).toNat=true:=by
 unfold zba at h ⊢
 split
 ·rename_i i e;simpa using List.find?_some e
 ·rename_i e;rw[e]at h;exact absurd (by decide) h
theorem yawn{ws:List Ino}(h:¬ fiI ws<0):1<=fiI ws:=by
 have:=zrr h;simp only[Bool.and_eq_true,decide_eq_true_eq]at this;unfold fiI at h ⊢;omega
def ztr(s:ByteArray):Lit:=.string s.data.toList
def mpD(ps:List Den)(d:Int):Nat->DataW Unit
 | 0=>.map []
 | k+1=>if decide (0<=zao ps k)&&(ps.getD k freeD).dir == d then(mpD ps d k).put (ztr (ps.getD k freeD).name) (.lit (.int .i64 (k:Int)))else mpD ps d k
theorem zxd(ps:List Den)(d:Int):∀ k,Maps.IsMap (mpD ps d k)
 | 0=>Maps.isMap_empty
 | k+1=>by
  unfold mpD
  split
  ·exact(zxd ps d k).put _ _
  ·exact zxd ps d k
theorem zzn(s:ByteArray):WideAt.IsKeyLit (ztr s):=by
 unfold ztr;simp[WideAt.IsKeyLit]
theorem yapc{s t:ByteArray}(h:ztr s=ztr t):s=t:=by
 unfold ztr at h;injection h with h;exact zmr h
theorem zje{ps:List Den}{k:Nat}(h:k<ps.length):ps.getD k freeD=ps[k]:=by
 rw[List.getD_eq_getElem?_getD,List.getElem?_eq_getElem h];rfl
theorem zrl{s t:ByteArray}:(s.toList == t.toList)=true↔s=t:=by
 rw[beq_iff_eq,ByteArray.toList_eq,ByteArray.toList_eq];exact⟨zmr,fun h=>by rw[h]⟩
theorem zhg{d:Int}{nm:ByteArray}{x:Den}:zci d nm x=true↔0<=x.child/\x.dir=d/\x.name=nm:=by
 unfold zci;rw[Bool.and_eq_true,Bool.and_eq_true,decide_eq_true_eq,beq_iff_eq,zrl]
theorem zxg{ws:List Ino}{ps:List Den}(h:zbg ws ps=true){d:Int}{nm:ByteArray}{i j:Nat}(hi:i<ps.length)(hj:j<ps.length)(ei:zci d nm ps[i]=true)(ej:zci d nm ps[j]=true):i=j:=by
 obtain⟨_,_,_,_,he,_,_⟩:=zas h
 have he:=(of_decide_eq_true he:∀ i (h:i<ps.length),zdk ws ps i ps[i]=true)
 have one:∀ {i j:Nat} (hi:i<ps.length) (hj:j<ps.length),zci d nm ps[i]=true->zci d nm ps[j]=true->¬ i<j:=by
  intro i j hi hj ei ej lt;obtain⟨a1,a2,a3⟩:=zhg.1 ei;obtain⟨b1,b2,b3⟩:=zhg.1 ej;have e:=he j hj;unfold zdk at e;rw[if_neg (by omega)]at e;simp only[Bool.and_eq_true,List.all_eq_true]at e
  have q:=e.2.2.2.2.2 ps[i] (by
   rw[List.mem_take_iff_getElem]
   exact⟨i,by omega,rfl⟩)
  unfold zem at q;rw[a2,a3,b2,b3,decide_eq_true a1]at q;simp at q
 have q1:=one hi hj ei ej;have q2:=one hj hi ej ei;omega
theorem yanh{ps:List Den}{d:Int}{nm:ByteArray}:∀ (k:Nat),k<=ps.length->(∀ j (h:j<ps.length),j<k->zci d nm ps[j]=false)->Maps.has (mpD ps d k) (ztr nm)=false
 | 0,_,_=>rfl
 | k+1,hk,h=>by
  have ih:=yanh k (by omega) (fun j hj a=>h j hj (by omega));unfold mpD
  split
  ·rename_i c;rw[Bool.and_eq_true,decide_eq_true_eq,beq_iff_eq,zbn (by omega),zje (by omega)]at c;rw[zje (by omega),Maps.has_put_other]
   ·exact ih
   ·intro e;have:=h k (by omega) (by omega);rw[zhg.2 ⟨c.1,c.2,(yapc e).symm⟩]at this
    cases this
  ·exact ih
theorem yaec{ps:List Den}{d:Int}{nm:ByteArray}{j:Nat}(hj:j<ps.length)(e:zci d nm ps[j]=true)(once:∀ i (h:i<ps.length),zci d nm ps[i]=true->i=j)(z:DataW Unit):∀ (k:Nat),k<=ps.length->j<k->Maps.has (mpD ps d k) (ztr nm)=true/\(mpD ps d k).atKey (ztr nm) z=.lit (.int .i64 (j:Int))
 | 0,_,h=>absurd h (by omega)
 | k+1,hk,h=>by
  by_cases q:j=k
  ·subst q;obtain⟨a1,a2,a3⟩:=zhg.1 e;unfold mpD;rw[if_pos (by rw[Bool.and_eq_true,decide_eq_true_eq,beq_iff_eq,zbn hj,zje hj];exact⟨a1,a2⟩),zje hj,a3];exact⟨Maps.has_put_same (zxd ps d j) (zzn _) _,Maps.atKey_put_same (zxd ps d j) (zzn _) _ _⟩
  ·obtain⟨i1,i2⟩:=yaec hj e once z k (by omega) (by omega);unfold mpD
   split
   ·rename_i c;rw[Bool.and_eq_true,decide_eq_true_eq,beq_iff_eq,zbn (by omega),zje (by omega)]at c
    have ne:ztr nm≠ztr ps[k].name:=fun e=>q (once k (by omega) (zhg.2 ⟨c.1,c.2,(yapc e).symm⟩)).symm
    rw[zje (by omega),Maps.has_put_other ne,Maps.atKey_put_other ne];exact⟨i1,i2⟩
   ·exact⟨i1,i2⟩
theorem yayc{ws:List Ino}{ps:List Den}(h:zbg ws ps=true)(d:Int)(nm:ByteArray)(z:DataW Unit):(zbi ps d nm=none->Maps.has (mpD ps d ps.length) (ztr nm)=false)/\(∀ k,zbi ps d nm=some k->Maps.has (mpD ps d ps.length) (ztr nm)=true/\(mpD ps d ps.length).atKey (ztr nm) z=.lit (.int .i64 (k:Int))):=by
 constructor
 ·intro e;unfold zbi at e;rw[List.findIdx?_eq_none_iff]at e;exact yanh _ zL (fun j hj _=>by have:=e _ (List.getElem_mem hj);simpa using this)
 ·intro k e;obtain⟨hk,q⟩:=zpo e;exact yaec hk q (fun i hi q'=>zxg h hi hk q' q) z _ zL hk
theorem yarq{D:DataW Unit}{k:Lit}(h:Maps.has D k=true):0<Maps.size D:=by
 cases D with
 | map es =>
  rw[Maps.has_eq,List.any_eq_true]at h;obtain⟨x,hx,_⟩:=h;rw[Maps.size_eq];exact List.length_pos_of_mem hx
 | _=>cases h
theorem yagf{ps:List Den}{d:Int}:∀ (k:Nat),k<=ps.length->(∀ j (h:j<ps.length),¬ (0<=ps[j].child/\ps[j].dir=d))->mpD ps d k=.map []
 | 0,_,_=>rfl
 | k+1,hk,h=>by
  unfold mpD;rw[if_neg]
  ·exact yagf k (by omega) h
  ·rw[Bool.and_eq_true,decide_eq_true_eq,beq_iff_eq,zbn (by omega),zje (by omega)];exact h k (by omega)
theorem yayd{ws:List Ino}{ps:List Den}(h:zbg ws ps=true)(d:Int):(zbm ps d=[]->Maps.size (mpD ps d ps.length)=0)/\(¬ zbm ps d=[]->0<Maps.size (mpD ps d ps.length)):=by
 unfold zbm;constructor
 ·intro e;rw[List.map_eq_nil_iff,List.filter_eq_nil_iff]at e
  rw[yagf _ zL (fun j hj q=>by
   have:=e _ (List.getElem_mem hj);rw[decide_eq_true_eq]at this
   omega)]
  rfl
 ·intro e
  obtain⟨x,hx⟩:∃ x:Den,x∈ps.filter (fun y:Den=>decide (¬ y.child<0/\y.dir=d)):=by
   apply List.exists_mem_of_ne_nil;intro q;rw[q]at e;exact e rfl
  rw[List.mem_filter,decide_eq_true_eq]at hx;obtain⟨j,hj,rfl⟩:=List.getElem_of_mem hx.1;have hit:zci d ps[j].name ps[j]=true:=zhg.2 ⟨by omega,hx.2.2,rfl⟩;exact yarq (yaec hj hit (fun i hi q'=>zxg h hi hj q' hit) (.map []) _ zL hj).1
theorem zut{ws:List Ino}{ps:List Den}(h:zbg ws ps=true){d:Int}(k:¬ zaj ws d=2):zbm ps d=[]:=by
 unfold zbm;rw[List.map_eq_nil_iff,List.filter_eq_nil_iff];intro x hx;obtain⟨j,hj,rfl⟩:=List.getElem_of_mem hx;rw[decide_eq_true_eq];rintro⟨a,b⟩
 rcases zgw h j hj with q | q
 ·omega
 ·exact k (by rw[<- b];exact q.2.2.2.2)
theorem zui{ws:List Ino}{ps:List Den}(h:zbg ws ps=true)(j:Nat)(hj:j<ps.length):(!ps[j].freeB)=decide (0<=ps[j].child):=by
 obtain⟨_,_,_,_,he,_,_⟩:=zas h;have e:=(of_decide_eq_true he:∀ i (h:i<ps.length),zdk ws ps i ps[i]=true) j hj;unfold zdk at e
 split at e
 ·rename_i c;rw[e,decide_eq_false (by omega)];rfl
 ·rename_i c;simp only[Bool.and_eq_true,decide_eq_true_eq]at e;rw[decide_eq_true (by omega)];unfold Den.freeB;rw[show(ps[j].child == -1)=false by rw[beq_eq_false_iff_ne];exact c,Bool.and_false,Bool.and_false];rfl
def zan(ws:List Ino)(i:Nat):Ino:=ws.getD i zbb
def zaz(ps:List Den)(k:Nat):Den:=ps.getD k freeD
theorem zca{ws:List Ino}{i:Nat}(h:i<ws.length):zan ws i=ws[i]:=by
 unfold zan;rw[List.getD_eq_getElem?_getD,List.getElem?_eq_getElem h];rfl
theorem zcv{ps:List Den}{i:Nat}(h:i<ps.length):zaz ps i=ps[i]:=by
 unfold zaz;rw[List.getD_eq_getElem?_getD,List.getElem?_eq_getElem h];rfl
theorem zbq(ws:List Ino)(i:Nat):zaj ws (i:Int)=(zan ws i).kind:=by unfold zaj zan;rfl
theorem ztv(ws:List Ino)(i:Nat):zdr ws (i:Int)=(zan ws i).links:=by unfold zdr zan;rfl
theorem yaem{ps:List Den}{k:Nat}(h:k<ps.length):zao ps k=(zaz ps k).child:=by rw[zbn h,zcv h]
theorem zcy{ws:List Ino}{i:Nat}(h:i<ws.length)(x:Ino)(j:Nat):zan (ws.set i x) j=if j=i then x else zan ws j:=by
 unfold zan;rw[List.getD_eq_getElem?_getD,List.getD_eq_getElem?_getD,List.getElem?_set]
 by_cases e:i=j
 ·subst e;simp[h]
 ·have:¬ j=i:=fun q=>e q.symm
  simp[e,this]
theorem zbf{ps:List Den}{i:Nat}(h:i<ps.length)(x:Den)(j:Nat):zaz (ps.set i x) j=if j=i then x else zaz ps j:=by
 unfold zaz;rw[List.getD_eq_getElem?_getD,List.getD_eq_getElem?_getD,List.getElem?_set]
 by_cases e:i=j
 ·subst e;simp[h]
 ·have:¬ j=i:=fun q=>e q.symm
  simp[e,this]
theorem yapy{x:Den}:x.freeB=true↔x=freeD:=by
 unfold Den.freeB freeD;simp only[Bool.and_eq_true,beq_iff_eq];constructor
 ·rintro⟨h1,h2,h3⟩;obtain⟨d,n,c⟩:=x;simp only at h1 h2 h3;subst h1 h3
  have:n=⟨#[]⟩:=by
   apply zmr
   have:n.data.toList.length=0:=by simpa using h2
   rw[List.eq_nil_of_length_eq_zero this]
  rw[this]
 ·intro h;rw[h];exact⟨rfl,rfl,rfl⟩
def zja(ws:List Ino)(x:Den):Prop:=(1<=x.child/\x.child<=15)/\(0<=x.dir/\x.dir<=15)/\nmB x.name=true/\¬ zaj ws x.child=0/\zaj ws x.dir=2
def zlr(ps:List Den)(c:Int):Nat:=(ps.filter fun x=>x.child == c).length
structure Img(ws:List Ino)(ps:List Den):Prop where
 l16:ws.length=16
 l24:ps.length=24
 root:zaj ws 0=2
 ok:∀ i,i<16->zed (zan ws i)=true
 ent:∀ k,k<24->zaz ps k=freeD\/zja ws (zaz ps k)
 once:∀ j k,j<24->k<24->0<=(zaz ps j).child->0<=(zaz ps k).child->(zaz ps j).dir=(zaz ps k).dir->(zaz ps j).name=(zaz ps k).name->j=k
 links:∀ i:Nat,i<16->(if i=0 then 1 else 0)+(zlr ps (i:Int):Int)=(zan ws i).links
 hang:∀ i:Nat,i<16->(zan ws i).kind=2->zcz ps 16 (i:Int)=true
 sing:(zam ws).Pairwise fun x y=>x≠y
theorem zuj{ws:List Ino}(l16:ws.length=16)(ok:∀ i,i<16->zed (zan ws i)=true):∀ e∈zam ws,0<=e/\(e%4=1\/e%4=2):=by
 apply zri;intro i hi;have:=ok i (by omega);rw[zca hi]at this;exact(zfs this).1
theorem zbs{ws:List Ino}{ps:List Den}:zbg ws ps=true↔Img ws ps:=by
 constructor
 ·intro h;obtain⟨l1,l2,r,o,e,l,s⟩:=zas h
  have o':=(of_decide_eq_true o:∀ k (h:k<ws.length),zed ws[k]=true)
  have e':=(of_decide_eq_true e:∀ i (h:i<ps.length),zdk ws ps i ps[i]=true)
  have l':=(of_decide_eq_true l:∀ i (h:i<ws.length),zil ps i ws[i]=true)
  have ok:∀ i,i<16->zed (zan ws i)=true:=fun i hi=>by rw[zca (by omega)];exact o' i (by omega)
  refine⟨l1,l2,r,ok,?_,?_,?_,?_,?_⟩
  ·intro k hk;rw[zcv (by omega)];have q:=e' k (by omega);unfold zdk at q
   split at q
   ·exact .inl (yapy.1 q)
   ·right
    rcases zgw h k (by omega)with a | a
    ·rename_i c;exact absurd a.1 c
    ·exact a
  ·intro j k hj hk cj ck hd hn;refine zxg h (d:=(zaz ps j).dir) (nm:=(zaz ps j).name) (i:=j) (j:=k) (by omega) (by omega) ?_ ?_
   ·rw[zcv (by omega)]at cj ⊢;exact zhg.2 ⟨cj,rfl,rfl⟩
   ·rw[zcv (i:=k) (by omega)]at ck hd hn;exact zhg.2 ⟨ck,hd.symm,hn.symm⟩
  ·intro i hi;have q:=l' i (by omega);unfold zil zok at q;simp only[Bool.and_eq_true,decide_eq_true_eq]at q;rw[zca (by omega),<- q.1,List.take_length];rfl
  ·intro i hi hk;rw[zca (by omega)]at hk;have q:=l' i (by omega);unfold zil at q;simp only[Bool.and_eq_true,Bool.or_eq_true,decide_eq_true_eq]at q
   rcases q.2 with q | q
   ·exact absurd hk q
   ·exact q
  ·unfold zlh at s;rw[zre (fun e he=>(zuj l1 ok e he).2),zhx]at s;exact s
 ·rintro⟨l1,l2,r,o,e,c,l,g,s⟩;unfold zbg
  have hs:zlh ws=true:=by
   unfold zlh;rw[zre (fun e he=>(zuj l1 o e he).2),zhx];exact s
  have ho:okNs ws=true:=decide_eq_true fun k hk=>by rw[<- zca hk];exact o k (by omega)
  have hl:zhp ws ps=true:=decide_eq_true fun i hi=>by
   unfold zil zok;rw[List.take_length,<- zca hi];simp only[Bool.and_eq_true,Bool.or_eq_true,decide_eq_true_eq];refine⟨l i (by omega),?_⟩
   by_cases q:(zan ws i).kind=2
   ·exact .inr (g i (by omega) q)
   ·exact .inl q
  have he:zkj ws ps=true:=decide_eq_true fun i hi=>by
   unfold zdk;rw[<- zcv hi]
   rcases e i (by omega)with q | q
   ·rw[q];rfl
   ·obtain⟨q1,q2,q3,q4,q5⟩:=q;rw[if_neg (by omega),decide_eq_true q1,decide_eq_true q2,q3,q5];simp only[Bool.true_and,Bool.and_eq_true,Bool.not_eq_true',beq_eq_false_iff_ne,List.all_eq_true];refine⟨q4,by decide,?_⟩;intro y hy;obtain⟨j,hj,rfl⟩:=List.mem_take_iff_getElem.1 hy;have hj:=Nat.lt_min.1 hj
    have hc:zem ps[j] (zaz ps i)=false:=by
     rw[Bool.eq_false_iff];intro hc;unfold zem at hc;rw[Bool.and_eq_true,Bool.and_eq_true,decide_eq_true_eq,beq_iff_eq,zrl]at hc;rw[<- zcv hj.2]at hc;have:=c j i (by omega) (by omega) hc.1 (by omega) hc.2.1 hc.2.2;omega
    rw[hc]
  rw[decide_eq_true l1,decide_eq_true l2,r,ho,he,hl,hs];rfl
theorem zij:∀ (ps:List Den) (k:Nat) (x:Den) (c:Int),k<ps.length->zlr (ps.set k x) c+(if (zaz ps k).child=c then 1 else 0)=zlr ps c+(if x.child=c then 1 else 0)
 | [],k,x,c,h=>absurd h (by simp)
 | y::ps,0,x,c,h=>by
  unfold zlr zaz;simp only[List.set_cons_zero,List.getD_cons_zero]
  by_cases a:y.child=c<;>by_cases b:x.child=c<;>simp[a,b]
 | y::ps,k+1,x,c,h=>by
  have ih:=zij ps k x c (by simpa using h);unfold zlr zaz at *;simp only[List.set_cons_succ,List.getD_cons_succ]
  by_cases a:y.child=c
  ·simp only[List.filter_cons,a,beq_self_eq_true,if_true,List.length_cons];omega
  ·simp only[List.filter_cons,show(y.child == c)=false by rw[beq_eq_false_iff_ne];exact a,Bool.false_eq_true,if_false];exact ih
theorem zpu{ps:List Den}{c:Int}(h:zlr ps c=0):∀ k,k<ps.length->¬ (zaz ps k).child=c:=by
 intro k hk e;unfold zlr at h;have:=List.filter_eq_nil_iff.1 (List.eq_nil_of_length_eq_zero h) ps[k] (List.getElem_mem hk);rw[zcv hk]at e;simp[e]at this
theorem yatt{ps:List Den}{c:Int}(h:∀ k,k<ps.length->¬ (zaz ps k).child=c):zlr ps c=0:=by
 unfold zlr;rw[List.length_eq_zero_iff,List.filter_eq_nil_iff];intro x hx;obtain⟨k,hk,rfl⟩:=List.getElem_of_mem hx;have:=h k hk;rw[zcv hk]at this;simpa using this
theorem yayz{ps:List Den}{c:Int}(h:zlr ps c=1){j k:Nat}(hj:j<ps.length)(hk:k<ps.length)(ej:(zaz ps j).child=c)(ek:(zaz ps k).child=c):j=k:=by
 apply Classical.byContradiction;intro ne
 by_cases hc:c=-1
 ·subst hc;have a:=zij ps k ⟨0,⟨#[]⟩,-2⟩ (-1) hk;rw[if_pos ek,if_neg (by decide),h]at a
  have z:zlr (ps.set k ⟨0,⟨#[]⟩,-2⟩) (-1)=0:=by omega
  refine zpu z j (by simpa using hj) ?_;rw[zbf hk,if_neg ne];exact ej
 ·have a:=zij ps k freeD c hk;rw[if_pos ek,if_neg (fun q=>hc (by rw[<- q];rfl)),h]at a
  have z:zlr (ps.set k freeD) c=0:=by omega
  refine zpu z j (by simpa using hj) ?_;rw[zbf hk,if_neg ne];exact ej
theorem yakl{ps:List Den}{c:Int}{k:Nat}(hk:k<ps.length)(e:(zaz ps k).child=c)(h:∀ j,j<ps.length->(zaz ps j).child=c->j=k):upD ps c=(zaz ps k).dir:=by
 rw[zcv hk]at e ⊢;exact yace hk (fun j hj lt q=>by have:=h j hj (by rw[zcv hj];exact q);omega) e
theorem zvd{ps qs:List Den}{c:Int}(hl:ps.length=qs.length)(h:∀ k,k<ps.length->(zaz ps k=zaz qs k\/(¬ (zaz ps k).child=c/\¬ (zaz qs k).child=c))):upD ps c=upD qs c:=by
 unfold upD
 congr 2
 induction ps generalizing qs with
 | nil =>
  cases qs with
  | nil=>rfl
  | cons=>simp at hl
 | cons x ps ih =>
  cases qs with
  | nil=>simp at hl
  | cons y qs =>
   have h0:=h 0 (by simp)
   have ih':=ih (qs:=qs) (by simpa using hl) (fun k hk=>by
    have:=h (k+1) (by simpa using hk)
    simpa[zaz]using this)
   simp only[zaz,List.getD_cons_zero]at h0
   rcases h0 with e | ⟨a,b⟩
   ·subst e;simp only[List.find?_cons];rw[ih']
   ·rw[List.find?_cons_of_neg (by simpa using a),List.find?_cons_of_neg (by simpa using b)];exact ih'
def Rch(ps:List Den)(d:Int):Prop:=∃ n,zcz ps n d=true
theorem zwa(ps:List Den):Rch ps 0:=⟨1,by rw[zex,if_pos rfl]⟩
theorem zma{ps:List Den}{c:Int}(h0:0<=upD ps c)(h:Rch ps (upD ps c)):Rch ps c:=by
 obtain⟨n,hn⟩:=h;refine⟨n+1,?_⟩;rw[zex]
 by_cases q:c=0
 ·rw[if_pos q]
 ·rw[if_neg q,if_neg (by omega)];exact hn
theorem yabb{ps:List Den}{P:Int->Prop}(h0:P 0)(hs:∀ c,¬ c=0->0<=upD ps c->P (upD ps c)->P c):∀ (n:Nat) (d:Int),zcz ps n d=true->P d
 | 0,d,h=>by rw[zga]at h;cases h
 | n+1,d,h=>by
  by_cases q:d=0
  ·rw[q];exact h0
  ·obtain⟨a,b⟩:=zhv h q;exact hs d q a (yabb h0 hs n _ b)
theorem yald{ps:List Den}{P:Int->Prop}{d:Int}(h:Rch ps d)(h0:P 0)(hs:∀ c,¬ c=0->0<=upD ps c->P (upD ps c)->P c):P d:=by
 obtain⟨n,hn⟩:=h;exact yabb h0 hs n d hn
theorem yalq(f:Int->Int)(n:Nat)(i:Int):zdz f (n+1) i=f (zdz f n i):=by
 rw[zfw f n 1 i];rfl
theorem yafj{ps:List Den}:∀ (n:Nat) (d:Int),zcz ps n d=true->∃ m,m<n/\zdz (upD ps) m d=0/\∀ j,j<m->¬ zdz (upD ps) j d=0/\0<=zdz (upD ps) (j+1) d
 | 0,d,h=>by rw[zga]at h;cases h
 | n+1,d,h=>by
  by_cases q:d=0
  ·exact⟨0,by omega,q,fun j hj=>absurd hj (by omega)⟩
  ·obtain⟨a,b⟩:=zhv h q;obtain⟨m,hm,e,r⟩:=yafj n _ b;refine⟨m+1,by omega,e,?_⟩;intro j hj
   cases j with
   | zero=>exact⟨q,a⟩
   | succ j=>exact r j (by omega)
theorem yahb{ps:List Den}:∀ (m n:Nat) (d:Int),m<n->zdz (upD ps) m d=0->(∀ j,j<m->0<=zdz (upD ps) (j+1) d)->zcz ps n d=true
 | _,0,_,h,_,_=>absurd h (by omega)
 | 0,n+1,d,_,e,_=>by
  rw[zex,if_pos (show d=0 from e)]
 | m+1,n+1,d,h,e,r=>by
  rw[zex]
  by_cases q:d=0
  ·rw[if_pos q]
  ·have a:0<=upD ps d:=r 0 (by omega);rw[if_neg q,if_neg (show ¬ upD ps d<0 by omega)];exact yahb m n (upD ps d) (by omega) e (fun j hj=>r (j+1) (by omega))
theorem zpq{ps:List Den}{d:Int}(h:Rch ps d)(hd:0<=d/\d<=15)(hu:∀ c,upD ps c<=15):zcz ps 16 d=true:=by
 obtain⟨n,hn⟩:=h;obtain⟨m,_,e,r⟩:=yafj n d hn
 have rng:∀ j,j<=m->0<=zdz (upD ps) j d/\zdz (upD ps) j d<=15:=by
  intro j hj
  cases j with
  | zero=>exact hd
  | succ j =>
   refine⟨(r j (by omega)).2,?_⟩;rw[yalq];exact hu _
 by_cases hm:m<16
 ·exact yahb m 16 d hm e (fun j hj=>(r j hj).2)
 ·exfalso;obtain⟨a,b,hab,hb,he⟩:=yaqw 16 (fun k=>(zdz (upD ps) k d).toNat) (fun k hk=>by have:=rng k (by omega);show(zdz (upD ps) k d).toNat<16;omega);have ra:=rng a (by omega);have rb:=rng b (by omega)
  have he':zdz (upD ps) a d=zdz (upD ps) b d:=by
   have:(zdz (upD ps) a d).toNat=(zdz (upD ps) b d).toNat:=he;omega
  have z:zdz (upD ps) (a+(m-b)) d=0:=by
   rw[zfw,he',<- zfw,show b+(m-b)=m by omega];exact e
  exact(r (a+(m-b)) (by omega)).1 z
theorem yawz{ws:List Ino}{ps:List Den}(ent:∀ k,k<ps.length->zaz ps k=freeD\/zja ws (zaz ps k)){c:Int}(hc:0<=c)(h:0<=upD ps c):∃ k,k<ps.length/\(zaz ps k).child=c/\(zaz ps k).dir=upD ps c/\zja ws (zaz ps k):=by
 unfold upD at h ⊢
 cases e:ps.find? fun x=>x.child == c with
 | none=>rw[e]at h;exact absurd h (by decide)
 | some x =>
  have hx:=List.mem_of_find?_eq_some e;have hp:=List.find?_some e;obtain⟨k,hk,rfl⟩:=List.getElem_of_mem hx;refine⟨k,hk,?_⟩;rw[zcv hk];refine⟨by simpa using hp,rfl,?_⟩;have:=ent k hk;rw[zcv hk]at this
  rcases this with q | q
  ·rw[q]at hp
   have:freeD.child=c:=by simpa using hp
   exact absurd hc (by rw[<- this];decide)
  ·exact q
theorem yaus{ws:List Ino}{ps:List Den}(ent:∀ k,k<ps.length->zaz ps k=freeD\/zja ws (zaz ps k))(c:Int):upD ps c<=15:=by
 unfold upD
 cases e:ps.find? fun x=>x.child == c with
 | none=>decide
 | some x =>
  have hx:=List.mem_of_find?_eq_some e;obtain⟨k,hk,rfl⟩:=List.getElem_of_mem hx;have:=ent k hk;rw[zcv hk]at this
  show ps[k].dir<=15
  rcases this with q | q
  ·rw[q];decide
  ·exact q.2.1.2
theorem zpj{ps qs:List Den}{i:Int}{G:Int->Prop}(hG:∀ c,G c->0<=upD ps c->¬ upD ps c=i/\G (upD ps c))(hs:∀ c,G c->¬ c=i->upD qs c=upD ps c){d:Int}(h:Rch ps d)(hd:G d)(hi:¬ d=i):Rch qs d:=by
 have:G d->¬ d=i->Rch qs d:=by
  refine yald (P:=fun c=>G c->¬ c=i->Rch qs c) h (fun _ _=>zwa qs) ?_;intro c c0 cu ih g ne;obtain⟨a,b⟩:=hG c g cu;have e:=hs c g ne;refine zma (by rw[e];exact cu) ?_;rw[e];exact ih b a
 exact this hd hi
theorem zun{ps qs:List Den}{i:Int}(hs:∀ c,0<=c->¬ c=i->upD qs c=upD ps c):∀ (n:Nat) (d:Int),zcz ps n d=true->0<=d->ziv ps (n+1) d i=false->Rch qs d
 | 0,d,h,_,_=>by rw[zga]at h;cases h
 | n+1,d,h,hd,hb=>by
  by_cases q:d=0
  ·rw[q];exact zwa qs
  ·obtain⟨a,b⟩:=zhv h q;rw[zhk,if_neg (by omega)]at hb
   by_cases e:d=i
   ·rw[if_pos e]at hb;cases hb
   ·rw[if_neg e]at hb;have u:=hs d hd e;refine zma (by rw[u];exact a) ?_;rw[u];exact zun hs n _ b a hb
theorem znr{ws:List Ino}:∀ {i:Nat} {x:Ino},i<ws.length->zam (ws.set i x)=zam (ws.take i)++zdw x.map++zam (ws.drop (i+1)):=by
 intro i x h;unfold zam;rw[List.set_eq_take_append_cons_drop,if_pos h,List.flatMap_append,List.flatMap_cons,List.append_assoc]
theorem zon{ws:List Ino}{i:Nat}(h:i<ws.length):zam ws=zam (ws.take i)++zdw (zan ws i).map++zam (ws.drop (i+1)):=by
 have:ws=ws.set i (zan ws i):=by
  apply List.ext_getElem?;intro j;rw[List.getElem?_set]
  by_cases e:i=j
  ·subst e;rw[if_pos rfl,if_pos h,zca h,List.getElem?_eq_getElem h]
  ·rw[if_neg e]
 have q:=znr (x:=zan ws i) h;rw[<- this]at q;exact q
theorem zpe{ws:List Ino}{i:Nat}{x:Ino}(h:i<ws.length)(s:(zam ws).Pairwise fun x y=>x≠y)(hs:(zdw x.map).Sublist (zdw (zan ws i).map)):(zam (ws.set i x)).Pairwise fun x y=>x≠y:=by
 rw[znr h];rw[zon h]at s;exact s.sublist ((List.Sublist.append (List.Sublist.append (List.Sublist.refl _) hs) (List.Sublist.refl _)))
theorem zpl{ws:List Ino}{i:Nat}(h:i<ws.length)(x:Ino)(c:Int)(hc:0<=c):zaj (ws.set i x) c=if c=(i:Int)then x.kind else zaj ws c:=by
 obtain⟨n,rfl⟩:∃ n:Nat,c=(n:Int):=⟨c.toNat,by omega⟩
 rw[zbq,zbq,zcy h]
 by_cases e:n=i
 ·rw[if_pos e,if_pos (by omega)]
 ·rw[if_neg e,if_neg (by omega)]
theorem Img.ent'{ws:List Ino}{ps:List Den}(h:Img ws ps):∀ k,k<ps.length->zaz ps k=freeD\/zja ws (zaz ps k):=fun k hk=>h.ent k (by have:=h.l24;omega)
theorem Img.dir{ws:List Ino}{ps:List Den}(h:Img ws ps){c:Int}(hc:0<=c)(hu:0<=upD ps c):zaj ws (upD ps c)=2/\upD ps c<=15:=by
 obtain⟨k,hk,_,e,q⟩:=yawz h.ent' hc hu;rw[<- e];exact⟨q.2.2.2.2,q.2.1.2⟩
theorem Img.rch{ws:List Ino}{ps:List Den}(h:Img ws ps){i:Nat}(hi:i<16)(k:(zan ws i).kind=2):Rch ps (i:Int):=⟨16,h.hang i hi k⟩
theorem Img.free{ws:List Ino}{ps:List Den}(h:Img ws ps){i:Nat}(hi:i<16)(k:(zan ws i).kind=0):zan ws i=zbb/\(∀ j,j<24->¬ (zaz ps j).child=(i:Int))/\¬ i=0:=by
 have i0:¬ i=0:=by
  intro e;have:=h.root;rw[show(0:Int)=((0:Nat):Int)from rfl,zbq,<- e,k]at this
  cases this
 have o:=h.ok i hi;unfold zed zfm at o;rw[k,if_pos rfl]at o;simp only[Bool.and_eq_true,decide_eq_true_eq]at o;obtain⟨_,_,_,_,o1,o2,o3⟩:=o;have l:=h.links i hi;rw[if_neg i0,o2]at l
 have c0:zlr ps (i:Int)=0:=by omega
 refine⟨?_,fun j hj=>zpu c0 j (by rw[h.l24];exact hj),i0⟩;generalize zan ws i=x at *;obtain⟨a,b,c,m0,m1,m2,m3,m4,m5,m6,m7⟩:=x;simp only at k o1 o2;simp only[Ino.map,List.cons.injEq]at o3;obtain⟨rfl,rfl,rfl,rfl,rfl,rfl,rfl,rfl,_⟩:=o3;subst k o1 o2;rfl
theorem yavq {ws:List Ino} {ps:List Den} (h:Img ws ps) {i k:Nat} {kind d:Int} {nm:ByteArray} (hi:i<16) (fi:(zan ws i).kind=0) (hk:k<24) (fk:zaz ps k=freeD) (kd:kind=1\/kind=2)
  (hd:0<=d/\d<=15) (dd:zaj ws d=2) (hn:nmB nm=true) (new:∀ j,j<24->0<=(zaz ps j).child->(zaz ps j).dir=d->¬ (zaz ps j).name=nm) :
  Img (ws.set i ⟨kind,0,1,0,0,0,0,0,0,0,0⟩) (ps.set k ⟨d,nm,(i:Int)⟩):=by
 obtain⟨zi,nochild,i0⟩:=h.free hi fi
 have hi':i<ws.length:=by rw[h.l16];exact hi
 have hk':k<ps.length:=by rw[h.l24];exact hk
 have hdi:¬ d=(i:Int):=by
  intro e;rw[e,zbq,fi]at dd
  cases dd
 have KA:=fun c hc=>zpl hi' (⟨kind,0,1,0,0,0,0,0,0,0,0⟩:Ino) c hc
 have entn:∀ j,j<24->zaz (ps.set k ⟨d,nm,(i:Int)⟩) j=freeD\/zja (ws.set i ⟨kind,0,1,0,0,0,0,0,0,0,0⟩) (zaz (ps.set k ⟨d,nm,(i:Int)⟩) j):=by
  intro j hj;rw[zbf hk']
  by_cases e:j=k
  ·rw[if_pos e];right;refine⟨⟨?_,?_⟩,hd,hn,?_,?_⟩
   ·show 1<=(i:Int);omega
   ·show(i:Int)<=15;omega
   ·show ¬ zaj _ (i:Int)=0
    rw[KA _ (by omega),if_pos rfl]
    show ¬ kind=0
    omega
   ·show zaj _ d=2
    rw[KA _ hd.1,if_neg hdi];exact dd
  ·rw[if_neg e]
   rcases h.ent j hj with q | q
   ·exact .inl q
   ·right;obtain⟨q1,q2,q3,q4,q5⟩:=q;refine⟨q1,q2,q3,?_,?_⟩
    ·rw[KA _ (by omega),if_neg (nochild j hj)];exact q4
    ·rw[KA _ q2.1,if_neg (by intro e;rw[e,zbq,fi]at q5;cases q5)];exact q5
 have entn':∀ j,j<(ps.set k ⟨d,nm,(i:Int)⟩).length->zaz (ps.set k ⟨d,nm,(i:Int)⟩) j=freeD\/zja (ws.set i ⟨kind,0,1,0,0,0,0,0,0,0,0⟩) (zaz (ps.set k ⟨d,nm,(i:Int)⟩) j):=fun j hj=>entn j (by rw[List.length_set,h.l24]at hj;exact hj)
 have US:∀ c,0<=c->¬ c=(i:Int)->upD (ps.set k ⟨d,nm,(i:Int)⟩) c=upD ps c:=by
  intro c hc ne;refine zvd (by simp) ?_;intro j hj;rw[zbf hk']
  by_cases e:j=k
  ·rw[if_pos e];right;refine⟨fun q=>ne q.symm,?_⟩;rw[e,fk];intro q;have:(-1:Int)=c:=q;omega
  ·rw[if_neg e];exact .inl rfl
 have UI:upD (ps.set k ⟨d,nm,(i:Int)⟩) (i:Int)=d:=by
  have q:=yakl (ps:=ps.set k ⟨d,nm,(i:Int)⟩) (c:=(i:Int)) (k:=k) (by rw[List.length_set];exact hk') (by rw[zbf hk',if_pos rfl]) (fun j hj e=>by
   rw[List.length_set,h.l24]at hj;rw[zbf hk']at e
   by_cases ej:j=k
   ·exact ej
   ·rw[if_neg ej]at e
    exact absurd e (nochild j hj))
  rw[q,zbf hk',if_pos rfl]
 have KEEP:∀ c,Rch ps c->0<=c->¬ c=(i:Int)->Rch (ps.set k ⟨d,nm,(i:Int)⟩) c:=by
  intro c hr hc ne;refine zpj (G:=fun c=>0<=c) (i:=(i:Int)) (fun c hc hu=>⟨?_,hu⟩) (fun c hc ne=>US c hc ne) hr hc ne;intro e;have:=(h.dir hc hu).1;rw[e,zbq,fi]at this
  cases this
 refine⟨by rw[List.length_set];exact h.l16,by rw[List.length_set];exact h.l24,?_,?_,entn,?_,?_,?_,?_⟩
 ·rw[KA 0 (by omega),if_neg (by omega)];exact h.root
 ·intro j hj;rw[zcy hi']
  by_cases e:j=i
  ·rw[if_pos e]
   rcases kd with rfl|rfl<;>decide
  ·rw[if_neg e];exact h.ok j hj
 ·intro j l hj hl cj cl ed en;rw[zbf hk']at cj ed en;rw[zbf hk' _ l]at cl ed en
  by_cases e1:j=k
  ·by_cases e2:l=k
   ·omega
   ·rw[if_pos e1,if_neg e2]at ed en;rw[if_neg e2]at cl;exact absurd en.symm (new l hl cl ed.symm)
  ·by_cases e2:l=k
   ·rw[if_neg e1,if_pos e2]at ed en;rw[if_neg e1]at cj;exact absurd en (new j hj cj ed)
   ·rw[if_neg e1,if_neg e2]at ed en;rw[if_neg e1]at cj;rw[if_neg e2]at cl;exact h.once j l hj hl cj cl ed en
 ·intro j hj;have c:=zij ps k ⟨d,nm,(i:Int)⟩ (j:Int) hk';rw[fk,if_neg (show ¬ freeD.child=(j:Int) by show ¬ (-1:Int)=(j:Int);omega)]at c;rw[zcy hi']
  by_cases e:j=i
  ·rw[if_pos (show(i:Int)=(j:Int) by omega)]at c
   have c0:zlr ps (j:Int)=0:=yatt fun l hl=>by rw[h.l24]at hl;rw[e];exact nochild l hl
   rw[if_pos e,if_neg (by omega)]
   show 0+((zlr _ (j:Int):Nat):Int)=1
   omega
  ·rw[if_neg (show ¬ (i:Int)=(j:Int) by omega)]at c;rw[if_neg e,<- h.links j hj]
   have:zlr (ps.set k ⟨d,nm,(i:Int)⟩) (j:Int)=zlr ps (j:Int):=by omega
   rw[this]
 ·intro j hj kj;rw[zcy hi']at kj;refine zpq ?_ ⟨by omega,by omega⟩ (yaus entn')
  by_cases e:j=i
  ·rw[e];refine zma (by rw[UI];exact hd.1) ?_;rw[UI]
   obtain⟨n,rfl⟩:∃ n:Nat,d=(n:Int):=⟨d.toNat,by omega⟩
   exact KEEP _ (h.rch (by omega) (by rw[<- zbq];exact dd)) hd.1 hdi
  ·rw[if_neg e]at kj;exact KEEP _ (h.rch hj kj) (by omega) (by omega)
 ·refine zpe hi' h.sing ?_;exact List.nil_sublist _
end Go.Proofs.YtogcbbkhnpmgeaaGreatDoor
