import Derived.Test.YtogcbbkhnpmgeaaGreatDoorDtJ
set_option maxRecDepth 100000
set_option maxHeartbeats 16000000
namespace Go.Proofs.YtogcbbkhnpmgeaaGreatDoor
open Go.RowKit
theorem ybbl{ns:List Ino}{ds:List Den}{s:ByteArray}{page x:Int}(h:¬ (wrI ns ds s page x).2=0):(wrI ns ds s page x).1=[]:=by
 revert h
 unfold wrI
 split
 ·unfold wrF
  split
  ·split
   ·intro _;rfl
   ·intro h;exact absurd rfl h
  ·intro _;rfl
 ·intro _;rfl
theorem yaac{ws es:List Int}{ns:List Ino}{ds:List Den}(h:Idle ws es ns ds){k:Int}{p t:ByteArray}{g:Int}(c:(uoI ns ds k p t g).2=0) :
  ∃ ns' ds',Wi (zdh ws (uoI ns ds k p t g).1) ns' ds':=by
 have E:∀ r:List Se×Int,r.2=0->r=(r.1,0):=fun r q=>by rw[<- q]
 revert c
 unfold uoI
 by_cases c1:k=1
 ·rw[if_pos c1];intro c;obtain⟨_,_,_,_,_,_,_,_,q⟩:=yalv h.wi (.inl rfl) (E _ c);exact⟨_,_,q⟩
 rw[if_neg c1]
 by_cases c2:k=2
 ·rw[if_pos c2];intro c;obtain⟨_,_,_,_,_,_,_,_,q⟩:=yalv h.wi (.inr rfl) (E _ c);exact⟨_,_,q⟩
 rw[if_neg c2]
 by_cases c3:k=3
 ·rw[if_pos c3];intro c;obtain⟨_,_,_,_,_,_,_,_,_,_,q⟩:=yann h.wi (E _ c);exact⟨_,_,q⟩
 rw[if_neg c3]
 by_cases c4:k=4
 ·rw[if_pos c4];intro c;obtain⟨_,_,_,_,_,_,_,_,_,q⟩:=yazj h.wi (E _ c);exact⟨_,_,q⟩
 rw[if_neg c4]
 by_cases c5:k=5
 ·rw[if_pos c5];intro c;obtain⟨_,_,_,_,_,_,_,_,_,_,_,_,_,q⟩:=yaqd h.wi (E _ c);exact⟨_,_,q⟩
 rw[if_neg c5];intro c;obtain⟨_,_,_,_,_,_,_,_,q⟩:=ybcl h.wi (E _ c);exact⟨_,_,q⟩
theorem yacm{ws es:List Int}{ns:List Ino}{ds:List Den}(h:Idle ws es ns ds)(k:Int)(p t:ByteArray)(g y:Int) :
  (∃ ws' es' ns' ds',mr (opI ws [] es [] ns ds k p t g y).steps ws [] es []=⟨0,ws',[],es',[]⟩/\Idle ws' es' ns' ds')/\(∀ m∈(opI ws [] es [] ns ds k p t g y).steps,miB m=true)/\(opI ws [] es [] ns ds k p t g y).steps.length<=200/\((k=6\/k=8)->(opI ws [] es [] ns ds k p t g y).code=0->(0<=g/\g<8)/\∃ i:Nat,i<16/\lkI ns ds p=((i:Int),0)):=by
 have N:∀ l:List Mi,l=[]->(∃ ws' es' ns' ds',mr l ws [] es []=⟨0,ws',[],es',[]⟩/\Idle ws' es' ns' ds')/\(∀ m∈l,miB m=true)/\l.length<=200:=fun l e=>by
  subst e;exact⟨zyj h,(fun m hm=>nomatch hm),Nat.zero_le _⟩
 have FL:(flI ns ds p).2=0->∃ i:Nat,i<16/\lkI ns ds p=((i:Int),0):=fun f=>by
  obtain⟨i,hi,ei,_⟩:=zgm h.wi.img f;refine⟨i,hi,?_⟩
  have c:(lkI ns ds p).2=0:=by
   unfold flI at f
   split at f
   ·assumption
   ·assumption
  unfold flI at ei f;rw[if_pos c]at ei f
  by_cases d:zaj ns (lkI ns ds p).1=1
  ·rw[if_pos d]at ei;rw[<- ei,<- c]
  ·rw[if_neg d]at f
   cases f
 unfold opI
 by_cases c6:k=6
 ·rw[if_pos c6]
  show(∃ ws' es' ns' ds',mr (wrI ns ds p g y).1 ws [] es []=⟨0,ws',[],es',[]⟩/\Idle ws' es' ns' ds')/\(∀ m∈(wrI ns ds p g y).1,miB m=true)/\(wrI ns ds p g y).1.length<=200/\((k=6\/k=8)->(wrI ns ds p g y).2=0->_)
  by_cases c:(wrI ns ds p g y).2=0
  ·obtain⟨a,b,d,e,f⟩:=yajn h c;refine⟨a,b,d,fun _ _=>⟨⟨e,f⟩,FL ?_⟩⟩;unfold wrI at c
   split at c
   ·assumption
   ·assumption
  ·obtain⟨a,b,d⟩:=N _ (ybbl c);exact⟨a,b,d,fun _ q=>absurd q c⟩
 rw[if_neg c6]
 by_cases c8:k=8
 ·rw[if_pos c8];obtain⟨a,b,d⟩:=N [] rfl;refine⟨a,b,d,fun _ q=>?_⟩
  replace q:(rpI ws [] es [] ns ds p g).2=0:=q
  unfold rpI at q
  by_cases f:(flI ns ds p).2=0
  ·rw[if_pos f]at q;obtain⟨i,hi,ei,k1⟩:=zgm h.wi.img f;unfold rpF at q
   by_cases z:0<=g/\g<zel ns (flI ns ds p).1
   ·refine⟨⟨z.1,?_⟩,FL f⟩;have z2:=z.2;rw[ei]at z2;unfold zel at z2;rw[Int.toNat_natCast]at z2;have:=(zch (h.wi.img.ok i hi)).2.1;omega
   ·rw[if_neg z]at q
    cases q
  ·rw[if_neg f]at q;exact absurd q f
 rw[if_neg c8]
 by_cases c9:k=9
 ·rw[if_pos c9]
  have e:(stA ns (lkI ns ds p)).steps=[]:=by unfold stA;split<;>rfl
  obtain⟨a,b,d⟩:=N _ e;exact⟨a,b,d,fun q _=>by omega⟩
 rw[if_neg c9]
 by_cases c10:k=10
 ·rw[if_pos c10]
  have e:(lsA ns ds (lkI ns ds p)).steps=[]:=by
   unfold lsA
   split
   ·split<;>rfl
   ·rfl
  obtain⟨a,b,d⟩:=N _ e;exact⟨a,b,d,fun q _=>by omega⟩
 rw[if_neg c10]
 show(∃ ws' es' ns' ds',mr (zct (zdj (uoI ns ds k p t g).1)) ws [] es []=⟨0,ws',[],es',[]⟩/\Idle ws' es' ns' ds')/\(∀ m∈zct (zdj (uoI ns ds k p t g).1),miB m=true)/\(zct (zdj (uoI ns ds k p t g).1)).length<=200/\_
 by_cases c:(uoI ns ds k p t g).2=0
 ·obtain⟨ui,hl,wv⟩:=yapp h.wi.img c;obtain⟨ns',ds',q⟩:=yaac h c;have pl:=zjs (uoI ns ds k p t g).1;exact⟨yany h ui hl wv q,fun m hm=>(zws ui wv hl m hm).1,by omega,fun q _=>by omega⟩
 ·have e:zct (zdj (uoI ns ds k p t g).1)=[]:=by rw[yarw c];rfl
  obtain⟨a,b,d⟩:=N _ e;exact⟨a,b,d,fun q _=>by omega⟩
theorem yaow{zs:List Int}(h:∀ x∈zs,zbd x=true)(k:Nat):zbd (zs[k]?.getD 0)=true:=by
 rcases Nat.lt_or_ge k zs.length with q | q
 ·rw[List.getElem?_eq_getElem q];exact h _ (List.getElem_mem q)
 ·rw[List.getElem?_eq_none q];decide
theorem yaad{ws es:List Int}{ns:List Ino}{ds:List Den}(h:Idle ws es ns ds)(e:Int):zbd (pgV ws [] es [] e)=true:=by
 unfold pgV
 split
 ·show zbd (ws[_]?.getD 0)=true
  exact yaow (zra.1 h.pm).2.2.1 _
 ·split
  ·exact yaow (zpv.1 h.bk).2.2.1 _
  ·decide
theorem zul{ws es:List Int}{ns:List Ino}{ds:List Den}(h:Idle ws es ns ds){i p:Nat}(hi:i<16)(hp:p<8)(was:¬ (zan ns i).map.getD p 0=0){e:Int}(te:zer e=true)(he:¬ e=0)(new:¬ e∈zam ns){S:List Mi}{ws1:List Int}(r:zrs (ws,[]) S=(ws1,[]))(l1:ws1.length=336)(ag:∀ z:Int,0<=z/\z<312->wdI ws1 z=wdI ws z)(hm:∀ m∈S,miB m=true)(hl:S.length<=100)(q:(runE (es,[]) S).2=[]) :
  (∃ ws' es' ns' ds',mr (S++swL (i:Int) (p:Int) e) ws [] es []=⟨0,ws',[],es',[]⟩/\Idle ws' es' ns' ds')/\(∀ m∈S++swL (i:Int) (p:Int) e,miB m=true)/\(S++swL (i:Int) (p:Int) e).length<=200:=by
 have ar:0<=48+12*(i:Int)+(3+(p:Int))/\48+12*(i:Int)+(3+(p:Int))<336:=by omega
 have sm:=zeq te;have o:∀ m∈swL (i:Int) (p:Int) e,StOK m:=yaki ar (x:=e) (by omega);have w1:Wi ws1 ns ds:=zxi h.wi l1 (fun z hz=>ag z (by omega));have w2:=yazo w1 hi hp was te he new;have L:=yabs (i:Int) (p:Int) e
 have ALL:∀ m∈S++swL (i:Int) (p:Int) e,miB m=true:=fun m hm'=>by
  rcases List.mem_append.1 hm' with k | k
  ·exact hm m k
  ·exact(o m k).1
 have LEN:(S++swL (i:Int) (p:Int) e).length<=200:=by rw[List.length_append];omega
 have e2:zdh ws1 [⟨48+12*(i:Int)+(3+(p:Int)),e⟩]=zce ws1 [up (48+12*(i:Int)+(3+(p:Int))) e]:=rfl
 have R:zrs (ws,[]) (S++swL (i:Int) (p:Int) e)=(zdh ws1 [⟨48+12*(i:Int)+(3+(p:Int)),e⟩],[]):=by
  rw[zei,r,e2];exact zlp [up (48+12*(i:Int)+(3+(p:Int))) e] ws1
 have c:wdI (zdh ws1 [⟨48+12*(i:Int)+(3+(p:Int)),e⟩]) 8=0:=by
  rw[zgl (by omega) _ _ (fun u hu=>by rw[List.mem_singleton.1 hu];exact⟨by show 0<=48+12*(i:Int)+(3+(p:Int));omega,by show 48+12*(i:Int)+(3+(p:Int))<(ws1.length:Int);omega,by show ¬ 48+12*(i:Int)+(3+(p:Int))=8;omega⟩),ag 8 (by omega)];exact h.c0
 obtain⟨es',e3,k3⟩:=znu h R c w2 ALL LEN (by
  rw[zsv]
  show(runE (runE (es,[]) S) (swL (i:Int) (p:Int) e)).2=[]
  rw[zjv _ _ o]
  exact q)
 exact⟨⟨_,_,_,_,e3,k3⟩,ALL,LEN⟩
theorem yabp{ws es:List Int}{ns:List Ino}{ds:List Den}(h:Idle ws es ns ds){i p:Nat}(hi:i<16)(hp:p<8)(z:Int)(c:(deF ns ((zan ns i).map.getD p 0) (pgV ws [] es [] z) (i:Int) (p:Int)).2=0) :
  (∃ ws' es' ns' ds',mr (deF ns ((zan ns i).map.getD p 0) (pgV ws [] es [] z) (i:Int) (p:Int)).1 ws [] es []=⟨0,ws',[],es',[]⟩/\Idle ws' es' ns' ds')/\(∀ m∈(deF ns ((zan ns i).map.getD p 0) (pgV ws [] es [] z) (i:Int) (p:Int)).1,miB m=true)/\(deF ns ((zan ns i).map.getD p 0) (pgV ws [] es [] z) (i:Int) (p:Int)).1.length<=200:=by
 have X:=yaci (yaad h z)
 revert c
 generalize pgV ws [] es [] z=x at *;unfold deF
 by_cases c1:(zan ns i).map.getD p 0=0\/¬ (zan ns i).map.getD p 0%4=1
 ·rw[if_pos c1];intro c;cases c
 rw[if_neg c1]
 by_cases c2:fsI ns<0
 ·rw[if_pos c2];intro c;cases c
 rw[if_neg c2];intro _;obtain⟨k,k32,ek,nk⟩:=zdt (p:=fun i=>!zfa (zay (zam ns) 2) (i:Int)) (n:=32) (by show 0<=fsI ns;omega)
 replace ek:fsI ns=(k:Int):=ek
 unfold deS;rw[ek]
 have te:zer (4*(k:Int)+2)=true:=by
  unfold zer zfl;rw[Bool.and_eq_true,decide_eq_true_eq,decide_eq_true_eq];omega
 exact zul h hi hp (fun q=>c1 (.inl q)) te (by omega) (yafe (by omega) nk) (S:=[⟨4,(k:Int),x⟩,⟨5,0,0⟩]) (ws1:=ws) rfl h.wi.len (fun z _=>rfl) (yawm (by omega) X) (by simp) (yafl _ _ _)
theorem zyf{ws es:List Int}{ns:List Ino}{ds:List Den}(h:Idle ws es ns ds){i p:Nat}(hi:i<16)(hp:p<8)(z:Int)(c:(prF ns ((zan ns i).map.getD p 0) (pgV ws [] es [] z) (i:Int) (p:Int)).2=0) :
  (∃ ws' es' ns' ds',mr (prF ns ((zan ns i).map.getD p 0) (pgV ws [] es [] z) (i:Int) (p:Int)).1 ws [] es []=⟨0,ws',[],es',[]⟩/\Idle ws' es' ns' ds')/\(∀ m∈(prF ns ((zan ns i).map.getD p 0) (pgV ws [] es [] z) (i:Int) (p:Int)).1,miB m=true)/\(prF ns ((zan ns i).map.getD p 0) (pgV ws [] es [] z) (i:Int) (p:Int)).1.length<=200:=by
 have X:=yaci (yaad h z)
 revert c
 generalize pgV ws [] es [] z=x at *;unfold prF
 by_cases c1:(zan ns i).map.getD p 0=0\/¬ (zan ns i).map.getD p 0%4=2
 ·rw[if_pos c1];intro c;cases c
 rw[if_neg c1]
 by_cases c2:fpI ns<0
 ·rw[if_pos c2];intro c;cases c
 rw[if_neg c2];intro _;obtain⟨k,k24,ek,nk⟩:=zdt (p:=fun i=>!zfa (zay (zam ns) 1) (i:Int)) (n:=24) (by show 0<=fpI ns;omega)
 replace ek:fpI ns=(k:Int):=ek
 have te:zer (4*(k:Int)+1)=true:=by
  unfold zer zfl;rw[Bool.and_eq_true,decide_eq_true_eq,decide_eq_true_eq];omega
 have o:=yaki (a:=312+(k:Int)) (x:=x) (by omega) X;unfold prS;rw[ek];refine zul h hi hp (fun q=>c1 (.inl q)) te (by omega) (yafe (by omega) nk) (S:=⟨1,312+(k:Int),x⟩::zbe [312+(k:Int)]) (ws1:=ws.set (312+(k:Int)).toNat x) (zlp [up (312+(k:Int)) x] ws) (by rw[List.length_set];exact h.wi.len) (fun z hz=>?_) (fun m hm=>(o m hm).1) (Nat.le_trans (yaok _ _) (by omega)) (by rw[zjv _ _ o]);unfold wdI;rw[List.getD_eq_getElem?_getD,List.getD_eq_getElem?_getD,List.getElem?_set_ne (by omega)]
theorem yakx(k:Int)(d:Den):0<(enL k d).length:=by unfold enL;simp
theorem ybbi{ns:List Ino}{ds:List Den}{k:Int}{p t:ByteArray}{g:Int}:(uoI ns ds k p t g).2=0->0<(uoI ns ds k p t g).1.length:=by
 have MK:∀ kind,(mkI ns ds p kind).2=0->0<(mkI ns ds p kind).1.length:=fun kind=>by
  unfold mkI
  split
  ·unfold mkN
   split
   ·simp
   split
   ·simp
   split
   ·simp
   ·intro _;simp[mkU]
  ·intro h;contradiction
 have RM:(rmI ns ds p).2=0->0<(rmI ns ds p).1.length:=by
  unfold rmI
  split
  ·unfold rmN
   split
   ·simp
   ·unfold rmC
    split
    ·simp
    ·intro _;have:=yakx;simp only[rmU,List.length_append];exact Nat.lt_of_lt_of_le (this _ _) (Nat.le_add_right _ _)
  ·intro h;contradiction
 have LN:(lnI ns ds p t).2=0->0<(lnI ns ds p t).1.length:=by
  unfold lnI
  split
  ·split
   ·simp
   ·unfold lnP
    split
    ·unfold lnN
     split
     ·simp
     split
     ·simp
     ·intro _;simp
    ·intro h;contradiction
  ·intro h;contradiction
 have RN:(rnI ns ds p t).2=0->0<(rnI ns ds p t).1.length:=by
  unfold rnI
  split
  ·unfold rnE
   split
   ·simp
   ·unfold rnP
    split
    ·unfold rnN
     split
     ·simp
     split
     ·simp
     ·intro _;exact yakx _ _
    ·intro h;contradiction
  ·intro h;contradiction
 have CU:(cuI ns ds p g).2=0->0<(cuI ns ds p g).1.length:=by
  unfold cuI
  split
  ·unfold cuF
   split
   ·intro _;simp[cuU]
   ·simp
  ·intro h;contradiction
 unfold uoI
 split
 ·exact MK 1
 split
 ·exact MK 2
 split
 ·exact RM
 split
 ·exact LN
 split
 ·exact RN
 ·exact CU
theorem yaau{us:List Se}(h:0<us.length):0<(zct (zdj us)).length:=by
 unfold zct;rw[if_neg (by rw[zbt];omega)]
 have:0<(seg (cnt ((zdj us).length:Int))).length:=by
  unfold seg cnt;simp
 simp only[List.length_append];omega
theorem yaox(ws:List Int)(ps:List St)(es:List Int)(qs:List Se)(ns:List Ino)(ds:List Den)(k:Int)(p t:ByteArray)(g y:Int)(hk:k<=10):if (opI ws ps es qs ns ds k p t g y).code=0/\k<8 then 0<(opI ws ps es qs ns ds k p t g y).steps.length else(opI ws ps es qs ns ds k p t g y).steps=[]:=by
 unfold opI
 by_cases c6:k=6
 ·simp only[if_pos c6]
  by_cases c:(wrI ns ds p g y).2=0
  ·rw[if_pos ⟨c,by omega⟩]
   revert c
   unfold wrI
   split
   ·unfold wrF
    split
    ·split
     ·simp
     ·intro _;simp only[List.length_append];have:=yaau (us:=wrU (flI ns ds p).1 g (zel ns (flI ns ds p).1) (wrE ns)) (by simp[wrU]);omega
    ·simp
   ·intro h;contradiction
  ·rw[if_neg (fun q=>c q.1)];exact ybbl c
 simp only[if_neg c6]
 by_cases c8:k=8
 ·simp only[if_pos c8];rw[if_neg (fun q=>by omega)]
  trivial
 simp only[if_neg c8]
 by_cases c9:k=9
 ·simp only[if_pos c9];rw[if_neg (fun q=>by omega)];unfold stA
  split<;>rfl
 simp only[if_neg c9]
 by_cases c10:k=10
 ·simp only[if_pos c10];rw[if_neg (fun q=>by omega)];unfold lsA
  split
  ·split<;>rfl
  ·rfl
 simp only[if_neg c10]
 by_cases c:(uoI ns ds k p t g).2=0
 ·by_cases k8:k<8
  ·rw[if_pos ⟨c,k8⟩];exact yaau (ybbi c)
  ·exfalso;omega
 ·rw[if_neg (fun q=>c q.1),yarw c];rfl
def opR(ws:List Int)(ps:List St)(es:List Int)(qs:List Se)(k:Int)(p t:ByteArray)(g y:Int):OpA×Int:=if dvB ws ps es qs=true/\opB k p t g y=true then(opI ws ps es qs (dvN ws ps es qs) (dvD ws ps es qs) k p t g y,0) else(⟨[],0,0,[]⟩,1)
theorem OpOut.at{w w1 w2:World}{vS vA:Value}{A:OpA}(h:OpOut w1 w2 vS vA A)(B:zB w w1):∃ vN,vA=.agg #[.I A.code,.I A.val,vN]/\OpT w w2 vS vN A.steps A.names:=by
 obtain⟨vN,e,a,b,c⟩:=h;exact⟨vN,e,a.wide B.size zL,b.wide B.size zL,zab B c B.size⟩
theorem zpp{k:Int}{p t:ByteArray}{g y:Int}(h:opB k p t g y=true):(1<=k/\k<=10)/\p.size<=65536/\t.size<=65536:=by
 have q:=of_decide_eq_true h;exact⟨q.1,q.2.1,q.2.2.1⟩
theorem ztf(v:Value)(ws:List Int)(ps:List St)(es:List Int)(qs:List Se)(k:Int)(p t:ByteArray)(g y:Int)(w:World)(h:RdDev w v ws ps es qs)(hw:ws.length<=1048576)(hp:ps.length<=1048576)(he:es.length<=1048576)(hq:qs.length<=1048576) :
  zC 8 #[v,.agg #[.I k,.string p,.string t,.I g,.I y]] w fun e w'=>∃ vS vA,e=.returned (.tuple #[vS,vA,.I (opR ws ps es qs k p t g y).2])/\OpOut w w' vS vA (opR ws ps es qs k p t g y).1:=by
 have LI:=zaa (fun w1 (hb:zB w w1)=>yaam v ws ps es qs w1 (h.below hb) hw hp he hq);have LK:=zaa (fun w1=>yaaq k p t g y w1)
 have IM:Hid (dvB ws ps es qs=true->zbg (dvN ws ps es qs) (dvD ws ps es qs)=true):=fun d=>by rw[(zen d).2.2.1,(zen d).2.2.2.1];exact(zen d).2.2.2.2
 have LO:=zaa (fun(d:dvB ws ps es qs=true) (o:opB k p t g y=true) v2 w1 (hb:zB w w1) (h2:RdIm w1 v2 (dvN ws ps es qs) (dvD ws ps es qs))=>yabe v v2 ws ps es qs (dvN ws ps es qs) (dvD ws ps es qs) k p t g y w1 (h.below hb) (zen d).1 (zen d).2.1 h2 (IM.o d) (zpp o).2.1 (zpp o).2.2);have EO:=zaa (show opR ws ps es qs k p t g y=if dvB ws ps es qs=true/\opB k p t g y=true then(opI ws ps es qs (dvN ws ps es qs) (dvD ws ps es qs) k p t g y,0) else(⟨[],0,0,[]⟩,1)from rfl);obtain⟨dW,eW,dP,eP,dS,eS,dQ,eQ,rfl,-,-⟩:=h.form;clear h IM
 obtain⟨W,hW⟩:=zE (((w.alloc (.cells #[.slice dW ws.length eW,.slice dP ps.length eP,.slice dS es.length eS,.slice dQ qs.length eQ] 31)).alloc (.cells #[.I k,.string p,.string t,.I g,.I y] 40)).alloc (.cells #[.I 0,.I 0,.N] 35))
 have hzW:W.heap.size=w.heap.size+1+1+1:=by rw[hW];simp only[World.size_alloc]
 have BW:Hid (zB w W):=by
  rw[hW]
  repeat (first | exact zR | refine Below.alloc ?_ (by first | exact Nat.le_refl _ | (simp only[World.size_alloc];omega)) _)
 have CD:Hid (∀ w',zB W w'->w'.cell? ⟨w.heap.size,0,none⟩=some (.slice dW ws.length eW)/\w'.cell? ⟨w.heap.size,1,none⟩=some (.slice dP ps.length eP)/\w'.cell? ⟨w.heap.size,2,none⟩=some (.slice dS es.length eS)/\w'.cell? ⟨w.heap.size,3,none⟩=some (.slice dQ qs.length eQ)):=fun w' hb=>by
  have q:w'.heap[w.heap.size]?=some (.cells #[.slice dW ws.length eW,.slice dP ps.length eP,.slice dS es.length eS,.slice dQ qs.length eQ] 31 (0,0)):=(hb.block _ (by omega)).trans (by rw[hW];exact zal (zal (zaf rfl)));obtain⟨x0,x1,x2,x3,-,-,-,-⟩:=zaq q;exact⟨x0,x1,x2,x3⟩
 have CO:Hid (∀ w',zB W w'->w'.cell? ⟨w.heap.size+1,0,none⟩=some (.I k)/\w'.cell? ⟨w.heap.size+1,1,none⟩=some (.string p)/\w'.cell? ⟨w.heap.size+1,2,none⟩=some (.string t)/\w'.cell? ⟨w.heap.size+1,3,none⟩=some (.I g)/\w'.cell? ⟨w.heap.size+1,4,none⟩=some (.I y)):=fun w' hb=>by
  have q:w'.heap[w.heap.size+1]?=some (.cells ([.I k,.string p,.string t,.I g,.I y]:List Value).toArray 40 (0,0)):=(hb.block _ (by omega)).trans (by
   have:=zaf (w:=w.alloc (.cells #[.slice dW ws.length eW,.slice dP ps.length eP,.slice dS es.length eS,.slice dQ qs.length eQ] 31)) (o:=.cells #[.I k,.string p,.string t,.I g,.I y] 40) rfl;simp only[World.size_alloc]at this;rw[hW]
   exact zal this)
  exact⟨(zag q 0).1,(zag q 1).1,(zag q 2).1,(zag q 3).1,(zag q 4).1⟩
 have VR:Hid (∀ w',zB W w'->w'.heap[w.heap.size+1+1]?=some (.cells #[.I 0,.I 0,.N] 35 (0,0))):=fun w' hb=>(hb.block _ (by omega)).trans (by
  have:=zaf (w:=(w.alloc (.cells #[.slice dW ws.length eW,.slice dP ps.length eP,.slice dS es.length eS,.slice dQ qs.length eQ] 31)).alloc (.cells #[.I k,.string p,.string t,.I g,.I y] 40)) (o:=.cells #[.I 0,.I 0,.N] 35) rfl;simp only[World.size_alloc]at this;rw[hW]
  exact this)
 have hz2:w.heap.size<=w.heap.size+1+1:=by omega
 generalize opR ws ps es qs k p t g y=res at *;generalize opI ws ps es qs (dvN ws ps es qs) (dvD ws ps es qs) k p t g y=A at *;generalize dvB ws ps es qs=db at *;generalize dvN ws ps es qs=dn at *;generalize dvD ws ps es qs=dd at *;generalize opB k p t g y=ob at *;obtain⟨x0,x1,x2,x3⟩:=CD.o _ zR;rw[hW]at x0 x1 x2 x3;go_enter Tryz.func8,Tryz.ntmps8;go_wp2_with fail;rw[<- hW];clear hW x0 x1 x2 x3;refine(LI.o _ BW.o).mono ?_;rintro e w1 ⟨v1,rfl,hR,hb1⟩;have HR:=zaa hR;obtain⟨vI,vD,rfl,hI,hD⟩:=hR;obtain⟨-,a1,k1,hv1,-⟩:=hI.rd;obtain⟨-,a2,k2,hv2,-⟩:=hD.rd;subst hv1;subst hv2;have BC:Hid (zB w1 (w1.alloc (.cells #[.slice a1 dn.length k1,.slice a2 dd.length k2] 51))):=zR.alloc zL _;have VM:Hid ((w1.alloc (.cells #[.slice a1 dn.length k1,.slice a2 dd.length k2] 51)).heap[w1.heap.size]?=some (.cells #[.slice a1 dn.length k1,.slice a2 dd.length k2] 51 (0,0))):=zaf rfl
 obtain⟨w2,hw2⟩:=zE (w1.alloc (.cells #[.slice a1 dn.length k1,.slice a2 dd.length k2] 51))
 rw[<- hw2]at BC VM;have A2:=zaa (zgu hb1 BC.o);have Bq2:=zaa (zab BW.o A2.o BW.o.size);have R2:=zaa (HR.o.below BC.o zL).rd;have hz12:w1.heap.size<w2.heap.size:=(Array.getElem?_eq_some_iff.1 VM.o).1
 have BAD:Hid (∀ w',zB W w'->OpOut w ((((w'.alloc (.cells #[] 82)).setCell ⟨w.heap.size+1+1,0,none⟩ (.I 0)).setCell ⟨w.heap.size+1+1,1,none⟩ (.I 0)).setCell ⟨w.heap.size+1+1,2,none⟩ (.N)) (.slice (some ⟨w'.heap.size,0,none⟩) 0 0) (.agg #[.I 0,.I 0,.N]) ⟨[],0,0,[]⟩):=fun w' hb=>by
  have B:=zab BW.o hb BW.o.size
  have T:OpT w (w'.alloc (.cells #[] 82)) (.slice (some ⟨w'.heap.size,0,none⟩) 0 0) (.N) [] []:=⟨(zmw w' _ _).wide B.size zL,Row.nil _ _ _ _ _,B.alloc B.size _⟩
  exact zec (A:=⟨[],0,0,[]⟩) T (zal (VR.o w' hb)) hz2 rfl rfl
 have BADR:Hid (∀ w',zB W w'->(w'.alloc (.cells #[] 82)).heap[w.heap.size+1+1]?=some (.cells #[.I 0,.I 0,.N] 35 (0,0))):=fun w' hb=>zal (VR.o w' hb)
 clear hb1 HR hI hD LI BC;go_upto_region 2 with fail;rw[<- hw2];clear hw2
 cases db with
 | false =>
  rw[if_neg (fun q=>by cases q.1)]at EO;obtain rfl:=EO.o;have FIN:=zaa (BAD.o _ A2.o);obtain⟨u0,u1,u2,u3,u4,u5⟩:=tri (BADR.o _ A2.o);clear EO BAD BADR LO CD CO VR;go_wp2;refine bodyPost_ret (v:=.tuple #[.slice (some ⟨w2.heap.size,0,none⟩) 0 0,.agg #[.I 0,.I 0,.N],.I 1]) (by simp[results,Tryz.results8,go_sem,u0,u1,u2]) rfl ⟨_,_,rfl,?_⟩
  first | exact FIN.o | exact FIN.o.drew
 | true =>
 obtain⟨o0,o1,o2,o3,o4⟩:=CO.o _ A2.o;go_wp2_with fail;refine(LK.o _).mono ?_;rintro e w3 ⟨rfl,hb3⟩;have A3:=zaa (zgu A2.o hb3);have B3w:=zaa (zab Bq2.o hb3 Bq2.o.size);have R3:=zaa (R2.o.below hb3);obtain⟨y0,y1,_,_⟩:=zac ((hb3.block _ hz12).trans VM.o);clear hb3 LK o0 o1 o2 o3 o4 A2 Bq2 R2 VM
 cases ob with
 | false =>
  rw[if_neg (fun q=>by cases q.2)]at EO;obtain rfl:=EO.o;have FIN:=zaa (BAD.o _ A3.o);obtain⟨u0,u1,u2,u3,u4,u5⟩:=tri (BADR.o _ A3.o);clear EO BAD BADR LO CD CO VR;go_wp2;refine bodyPost_ret (v:=.tuple #[.slice (some ⟨w3.heap.size,0,none⟩) 0 0,.agg #[.I 0,.I 0,.N],.I 1]) (by simp[results,Tryz.results8,go_sem,u0,u1,u2]) rfl ⟨_,_,rfl,?_⟩
  first | exact FIN.o | exact FIN.o.drew
 | true =>
 rw[if_pos (by first | exact⟨rfl,rfl⟩ | exact⟨trivial,rfl⟩ | exact⟨rfl,trivial⟩ | exact⟨trivial,trivial⟩ | trivial)]at EO;have LO2:=zaa (LO.o (by first | rfl | trivial) (by first | rfl | trivial));clear LO BAD BADR;obtain⟨o0,o1,o2,o3,o4⟩:=CO.o _ A3.o;obtain⟨x0,x1,x2,x3⟩:=CD.o _ A3.o;go_wp2_with fail;refine(LO2.o _ _ B3w.o R3.o).mono ?_;rintro e w4 ⟨vS,vA,rfl,hO⟩;have A4:=zaa (zgu A3.o hO.choose_spec.2.2.2);obtain⟨vN,rfl,T4⟩:=hO.at B3w.o;obtain⟨-,aS,cS,hvS,-⟩:=T4.s.rd;obtain⟨-,aN,cN,hvN,-⟩:=T4.n.rd;subst hvS;subst hvN;have T4:=zaa T4;clear hO LO2 o0 o1 o2 o3 o4 x0 x1 x2 x3 y0 y1 R3;obtain rfl:=EO.o;obtain⟨L,cd,vl,nn⟩:=A;simp only at T4 ⊢;have VX:Hid ((w4.alloc (.cells #[.I cd,.I vl,.slice aN nn.length cN] 35)).heap[w4.heap.size]?=some (.cells #[.I cd,.I vl,.slice aN nn.length cN] 35 (0,0))):=zaf rfl;have T5:=zaa (T4.o.below ((Below.refl w4.heap.size w4).alloc zL (.cells #[.I cd,.I vl,.slice aN nn.length cN] 35)));have V5:=zaa (zal (o:=.cells #[.I cd,.I vl,.slice aN nn.length cN] 35) (VR.o _ A4.o))
 obtain⟨w5,hw5⟩:=zE (w4.alloc (.cells #[.I cd,.I vl,.slice aN nn.length cN] 35))
 rw[<- hw5]at VX T5 V5;have FIN:=zaa (zec (A:=⟨L,cd,vl,nn⟩) T5.o V5.o hz2 rfl rfl);obtain⟨u0,u1,u2,u3,u4,u5⟩:=tri V5.o;obtain⟨s0,s1,s2,-,-,-⟩:=tri VX.o;clear T4 T5 V5 VX CD CO VR A3 A4 B3w BW EO;go_wp2_with fail;rw[<- hw5];clear hw5
 go_region
 all_goals
  go_wp2;refine bodyPost_ret (v:=.tuple #[.slice aS L.length cS,.agg #[.I cd,.I vl,.slice aN nn.length cN],.I 0]) (by simp[results,Tryz.results8,go_sem,u0,u1,u2]) rfl ⟨_,_,rfl,?_⟩
  first | exact FIN.o | exact FIN.o.drew
theorem zzh(a:Option Addr)(n cap:Nat)(hn:8<=n)(w:World):(Instr.arrayAt 85 (.slice a n cap)).run Tryz.prog w=.ok (.pointer a) w:=by
 have h:¬ n<8:=by omega
 simp[Instr.arrayAt,run_underlying Tryz.underlying85,h,go_sem]
theorem zwt(b o n c:Nat)(x:Ino)(w:World)(hn:11<=n)(hc:n<=c)(hb:b<w.heap.size)(h:∀ j,j<11->w.cell? ⟨b,o+j,none⟩=x.cs[j]?) :
  zC 34 #[.slice (some ⟨b,o,none⟩) n c] w fun e w'=>e=.returned x.v/\zB w w':=by
 have BW:=zaa ((Below.refl w.heap.size w).alloc zL (.cells #[.I 0,.I 0,.I 0,.I 0,.I 0,.I 0,.I 0,.I 0,.I 0,.I 0,.I 0] 87))
 have S:Hid (∀ w',zB w w'->w'.cell? ⟨b,o,none⟩=some (.I x.kind)/\w'.cell? ⟨b,o+1,none⟩=some (.I x.size)/\w'.cell? ⟨b,o+2,none⟩=some (.I x.links)/\w'.cell? ⟨b,o+3,none⟩=some (.I x.m0)/\w'.cell? ⟨b,o+3+1,none⟩=some (.I x.m1)/\w'.cell? ⟨b,o+3+2,none⟩=some (.I x.m2)/\w'.cell? ⟨b,o+3+3,none⟩=some (.I x.m3)/\w'.cell? ⟨b,o+3+4,none⟩=some (.I x.m4)/\w'.cell? ⟨b,o+3+5,none⟩=some (.I x.m5)/\w'.cell? ⟨b,o+3+6,none⟩=some (.I x.m6)/\w'.cell? ⟨b,o+3+7,none⟩=some (.I x.m7)):=fun w' hw' =>
  have g:=fun j (hj:j<11)=>(hw'.cell (p:=⟨b,o+j,none⟩) hb).trans (h j hj)
  ⟨g 0 (by omega),g 1 (by omega),g 2 (by omega),g 3 (by omega),g 4 (by omega),g 5 (by omega),g 6 (by omega),g 7 (by omega),g 8 (by omega),g 9 (by omega),g 10 (by omega)⟩
 obtain⟨s0,s1,s2,s3,s4,s5,s6,s7,s8,s9,s10⟩:=S.o _ BW.o
 have i0:(0:Int)<(n:Int):=by omega
 have i00:0<n:=by omega
 have i1:(1:Int)<(n:Int):=by omega
 have i2:(2:Int)<(n:Int):=by omega
 have i3:(11:Int)<=(c:Int):=by omega
 have i4:¬ c=3:=by omega
 have i5:(3:Int)<=11:=by omega
 have har:=zzh (some ⟨b,o+3,none⟩) 8 (c-3) zL;unfold Ino.v;clear h hn hc;go_enter Tryz.func34,Tryz.ntmps34;go_wp2_with fail
 go_region_held3 (fun w'=>w'.cell? ⟨b,o,none⟩=some (.I x.kind)/\w'.cell? ⟨b,o+1,none⟩=some (.I x.size)/\w'.cell? ⟨b,o+2,none⟩=some (.I x.links)/\w'.cell? ⟨b,o+3,none⟩=some (.I x.m0)/\w'.cell? ⟨b,o+3+1,none⟩=some (.I x.m1)/\w'.cell? ⟨b,o+3+2,none⟩=some (.I x.m2)/\w'.cell? ⟨b,o+3+3,none⟩=some (.I x.m3)/\w'.cell? ⟨b,o+3+4,none⟩=some (.I x.m4)/\w'.cell? ⟨b,o+3+5,none⟩=some (.I x.m5)/\w'.cell? ⟨b,o+3+6,none⟩=some (.I x.m6)/\w'.cell? ⟨b,o+3+7,none⟩=some (.I x.m7))
  (exact S.o _ (by repeat (first | with_reducible exact BW.o | with_reducible refine zat ?_ _ | with_reducible exact zR | with_reducible refine Below.drew ?_)))
  (fail)
 all_goals
  go_wp2;refine bodyPost_ret (v:=.agg #[.I x.kind,.I x.size,.I x.links,.I x.m0,.I x.m1,.I x.m2,.I x.m3,.I x.m4,.I x.m5,.I x.m6,.I x.m7]) (by simp[results,Tryz.results34,go_sem]) rfl ⟨rfl,?_⟩
  repeat (first | with_reducible exact zR | with_reducible refine zat ?_ _ | with_reducible refine Below.drew ?_)
def denZ(z0 z1 z2:Int):Den:=if z2=0 then⟨0,⟨#[]⟩,-1⟩ else⟨z0,zxj z1,z2-1⟩
def zqn(z0 z1 z2:Int):Bool:=if z2=0 then z0 == 0&&z1 == 0 else zgz z1
theorem zto(b o n c:Nat)(z0 z1 z2:Int)(w:World)(hn:3<=n)(_hc:n<=c)(hb:b<w.heap.size)(h0:w.cell? ⟨b,o,none⟩=some (.I z0))(h1:w.cell? ⟨b,o+1,none⟩=some (.I z1))(h2:w.cell? ⟨b,o+2,none⟩=some (.I z2))(hF:FD w)(r1:z1<=9223372036854775807)(r2:0<=z2/\z2<=9223372036854775807) :
  zC 35 #[.slice (some ⟨b,o,none⟩) n c] w fun e w'=>(∃ s,e=.returned (.tuple #[.agg #[.I (denZ z0 z1 z2).dir,.string s,.I (denZ z0 z1 z2).child],.bool (zqn z0 z1 z2)])/\(zqn z0 z1 z2=true->s=(denZ z0 z1 z2).name))/\zB w w':=by
 have BW:=zaa ((Below.refl w.heap.size w).alloc zL (.cells #[.I 0,.string ⟨#[]⟩,.I 0] 90))
 have S:Hid (∀ w',zB w w'->w'.cell? ⟨b,o,none⟩=some (.I z0)/\w'.cell? ⟨b,o+1,none⟩=some (.I z1)/\w'.cell? ⟨b,o+2,none⟩=some (.I z2)):=fun w' hw'=>⟨(hw'.cell (p:=⟨b,o,none⟩) hb).trans h0,(hw'.cell (p:=⟨b,o+1,none⟩) hb).trans h1,(hw'.cell (p:=⟨b,o+2,none⟩) hb).trans h2⟩
 obtain⟨s0,s1,s2⟩:=S.o _ BW.o;have F:=zaa hF
 have i0:(0:Int)<(n:Int):=by omega
 have i00:0<n:=by omega
 have i1:(1:Int)<(n:Int):=by omega
 have i2:(2:Int)<(n:Int):=by omega
 clear h0 h1 h2 hF
 by_cases c2:z2=0
 ·subst c2
  have E1:denZ z0 z1 0=⟨0,⟨#[]⟩,-1⟩:=by unfold denZ;rw[if_pos rfl]
  have E2:zqn z0 z1 0=(z0 == 0&&z1 == 0):=by unfold zqn;rw[if_pos rfl]
  rw[E1,E2];clear E1 E2;obtain⟨f0,f1,f2⟩:=FD.cells (F.o.below BW.o)
  by_cases c0:z0=0
  ·have q0:(z0 == 0)=true:=by rw[c0];rfl
   have EQ:Hid ((z0 == 0&&z1 == 0)=(z1 == 0)):=by unfold Hid;rw[q0];rfl
   rw[EQ.o];clear c0 EQ;go_enter Tryz.func35,Tryz.ntmps35;go_wp2_with fail
   go_region_held3 (fun w'=>(w'.cell? ⟨b,o,none⟩=some (.I z0)/\w'.cell? ⟨b,o+1,none⟩=some (.I z1)/\w'.cell? ⟨b,o+2,none⟩=some (.I 0))/\w'.cell? ⟨0,0,none⟩=some (.I 0)/\w'.cell? ⟨0,1,none⟩=some (.string ⟨#[]⟩)/\w'.cell? ⟨0,2,none⟩=some (.I (-1)))
    (exact⟨S.o _ (by repeat (first | with_reducible exact BW.o | with_reducible refine zat ?_ _ | with_reducible exact zR | with_reducible refine Below.drew ?_)),FD.cells (F.o.below (by repeat (first | with_reducible exact BW.o | with_reducible refine zat ?_ _ | with_reducible exact zR | with_reducible refine Below.drew ?_)))⟩)
    (fail)
   all_goals
    go_wp2;refine bodyPost_ret (v:=.tuple #[.agg #[.I 0,.string ⟨#[]⟩,.I (-1)],.bool (z1 == 0)]) (by simp[results,Tryz.results35,go_sem]) rfl ?_;exact⟨⟨_,rfl,fun _=>rfl⟩,(by repeat (first | with_reducible exact BW.o | with_reducible exact zR | with_reducible refine zat ?_ _ | with_reducible refine Below.drew ?_ | refine Below.setCell ?_ (by exact Nat.le_refl _) _))⟩
  ·have q0:(z0 == 0)=false:=by rw[beq_eq_false_iff_ne];exact c0
   have EQ:Hid ((z0 == 0&&z1 == 0)=false):=by unfold Hid;rw[q0];rfl
   rw[EQ.o];clear c0 EQ;go_enter Tryz.func35,Tryz.ntmps35;go_wp2_with fail
   go_region
   all_goals
    go_wp2;refine bodyPost_ret (v:=.tuple #[.agg #[.I 0,.string ⟨#[]⟩,.I (-1)],.bool false]) (by simp[results,Tryz.results35,go_sem]) rfl ?_;exact⟨⟨_,rfl,fun _=>rfl⟩,(by repeat (first | with_reducible exact BW.o | with_reducible exact zR | with_reducible refine zat ?_ _ | with_reducible refine Below.drew ?_ | refine Below.setCell ?_ (by exact Nat.le_refl _) _))⟩
 ·have q:(z2 == 0)=false:=by rw[beq_eq_false_iff_ne];exact c2
  have E1:denZ z0 z1 z2=⟨z0,zxj z1,z2-1⟩:=by unfold denZ;rw[if_neg c2]
  have E2:zqn z0 z1 z2=zgz z1:=by unfold zqn;rw[if_neg c2]
  rw[E1,E2];have LU:=zaa (fun w1=>zmi z1 w1 r1)
  have EU:Hid ((unpC z1 == 0)=zgz z1):=by
   unfold Hid unpC
   cases zgz z1<;>rfl
  have wp1:IntKind.i64.wrap (z2-1)=z2-1:=by rw[IntKind.wrap_i64];omega
  rw[<- EU.o];clear E1 E2 c2 EU;generalize unpC z1=uc at *;generalize zxj z1=us at *;go_enter Tryz.func35,Tryz.ntmps35;go_wp2_with fail;refine(LU.o _).mono ?_;rintro e w1 ⟨rfl,hb1⟩;have B1:=zaa (zab BW.o hb1 BW.o.size);have VB:Hid (w1.heap[w.heap.size]?=some (.cells #[.I 0,.string ⟨#[]⟩,.I 0] 90 (0,0))):=(hb1.block _ (by simp)).trans (zaf rfl);clear hb1 s0 s1 s2;obtain⟨s0,s1,s2⟩:=S.o _ B1.o;obtain⟨t0,t1,t2⟩:=zax VB.o;have u0:=(zag (xs:=[.I 0,.string ⟨#[]⟩,.I 0]) VB.o 0).2;have u1:=(zag (xs:=[.I 0,.string ⟨#[]⟩,.I 0]) VB.o 1).2;have u2:=(zag (xs:=[.I 0,.string ⟨#[]⟩,.I 0]) VB.o 2).2;go_wp2_with fail
  go_region_held3 (fun w'=>w'.cell? ⟨b,o,none⟩=some (.I z0)/\w'.cell? ⟨b,o+1,none⟩=some (.I z1)/\w'.cell? ⟨b,o+2,none⟩=some (.I z2))
   (exact S.o _ (by repeat (first | with_reducible exact B1.o | with_reducible refine Below.drew ?_ | refine Below.setCell ?_ (by exact Nat.le_refl _) _)))
   (fail)
  all_goals
   go_wp2;refine bodyPost_ret (v:=.tuple #[.agg #[.I z0,.string us,.I (z2-1)],.bool (uc == 0)]) (by simp[results,Tryz.results35,go_sem,t0,t1,t2]) rfl ?_;exact⟨⟨_,rfl,fun _=>rfl⟩,(by repeat (first | with_reducible exact B1.o | with_reducible refine Below.drew ?_ | refine Below.setCell ?_ (by exact Nat.le_refl _) _))⟩
end Go.Proofs.YtogcbbkhnpmgeaaGreatDoor
