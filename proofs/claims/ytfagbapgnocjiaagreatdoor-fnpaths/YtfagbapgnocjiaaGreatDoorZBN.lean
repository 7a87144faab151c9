import Derived.Test.YtfagbapgnocjiaaGreatDoorZBM
import Derived.Test.YtfagbapgnocjiaaGreatDoorDtJ
set_option maxRecDepth 100000
set_option maxHeartbeats 32000000
namespace Go.Proofs.YtfagbapgnocjiaaGreatDoor
open Go.RowKit
theorem yaua{ns:List Ino}{ds:List Den}{s:ByteArray}{page x:Int}(h:¬ (wrI ns ds s page x).2=0):(wrI ns ds s page x).1=[]:=by
 revert h
 unfold wrI
 split
 ·unfold wrF
  split
  ·split
   ·intro _;rfl
   ·intro h;exact absurd rfl h
  ·intro _;rfl
 ·intro _;rfl
theorem ztw{ws es:List Int}{ns:List Ino}{ds:List Den}(h:Idle ws es ns ds){k:Int}{p t:ByteArray}{g:Int}(c:(uoI ns ds k p t g).2=0) :
  ∃ ns' ds',Wi (zco ws (uoI ns ds k p t g).1) ns' ds':=by
 have E:∀ r:List Se×Int,r.2=0->r=(r.1,0):=fun r q=>by rw[<- q]
 revert c
 unfold uoI
 by_cases c1:k=1
 ·rw[if_pos c1];intro c;obtain⟨_,_,_,_,_,_,_,_,q⟩:=yain h.wi (.inl rfl) (E _ c);exact⟨_,_,q⟩
 rw[if_neg c1]
 by_cases c2:k=2
 ·rw[if_pos c2];intro c;obtain⟨_,_,_,_,_,_,_,_,q⟩:=yain h.wi (.inr rfl) (E _ c);exact⟨_,_,q⟩
 rw[if_neg c2]
 by_cases c3:k=3
 ·rw[if_pos c3];intro c;obtain⟨_,_,_,_,_,_,_,_,_,_,q⟩:=yadx h.wi (E _ c);exact⟨_,_,q⟩
 rw[if_neg c3]
 by_cases c4:k=4
 ·rw[if_pos c4];intro c;obtain⟨_,_,_,_,_,_,_,_,_,q⟩:=yaon h.wi (E _ c);exact⟨_,_,q⟩
 rw[if_neg c4]
 by_cases c5:k=5
 ·rw[if_pos c5];intro c;obtain⟨_,_,_,_,_,_,_,_,_,_,_,_,_,q⟩:=yadw h.wi (E _ c);exact⟨_,_,q⟩
 rw[if_neg c5];intro c;obtain⟨_,_,_,_,_,_,_,_,q⟩:=yatb h.wi (E _ c);exact⟨_,_,q⟩
theorem yafx{ws es:List Int}{ns:List Ino}{ds:List Den}(h:Idle ws es ns ds)(k:Int)(p t:ByteArray)(g y:Int) :
  (∃ ws' es' ns' ds',mr (opI ws [] es [] ns ds k p t g y).steps ws [] es []=⟨0,ws',[],es',[]⟩/\Idle ws' es' ns' ds')/\(∀ m∈(opI ws [] es [] ns ds k p t g y).steps,miB m=true)/\(opI ws [] es [] ns ds k p t g y).steps.length<=200/\((k=6\/k=8)->(opI ws [] es [] ns ds k p t g y).code=0->(0<=g/\g<8)/\∃ i:Nat,i<16/\lkI ns ds p=((i:Int),0)):=by
 have N:∀ l:List Mi,l=[]->(∃ ws' es' ns' ds',mr l ws [] es []=⟨0,ws',[],es',[]⟩/\Idle ws' es' ns' ds')/\(∀ m∈l,miB m=true)/\l.length<=200:=fun l e=>by
  subst e;exact⟨zuv h,(fun m hm=>nomatch hm),Nat.zero_le _⟩
 have FL:(flI ns ds p).2=0->∃ i:Nat,i<16/\lkI ns ds p=((i:Int),0):=fun f=>by
  obtain⟨i,hi,ei,_⟩:=zgp h.wi.img f;refine⟨i,hi,?_⟩
  have c:(lkI ns ds p).2=0:=by
   unfold flI at f
   split at f
   ·assumption
   ·assumption
  unfold flI at ei f;rw[if_pos c]at ei f
  by_cases d:zag ns (lkI ns ds p).1=1
  ·rw[if_pos d]at ei;rw[<- ei,<- c]
  ·rw[if_neg d]at f
   cases f
 unfold opI
 by_cases c6:k=6
 ·rw[if_pos c6]
  show(∃ ws' es' ns' ds',mr (wrI ns ds p g y).1 ws [] es []=⟨0,ws',[],es',[]⟩/\Idle ws' es' ns' ds')/\(∀ m∈(wrI ns ds p g y).1,miB m=true)/\(wrI ns ds p g y).1.length<=200/\((k=6\/k=8)->(wrI ns ds p g y).2=0->_)
  by_cases c:(wrI ns ds p g y).2=0
  ·obtain⟨a,b,d,e,f⟩:=yabo h c;refine⟨a,b,d,fun _ _=>⟨⟨e,f⟩,FL ?_⟩⟩;unfold wrI at c
   split at c
   ·assumption
   ·assumption
  ·obtain⟨a,b,d⟩:=N _ (yaua c);exact⟨a,b,d,fun _ q=>absurd q c⟩
 rw[if_neg c6]
 by_cases c8:k=8
 ·rw[if_pos c8];obtain⟨a,b,d⟩:=N [] rfl;refine⟨a,b,d,fun _ q=>?_⟩
  replace q:(rpI ws [] es [] ns ds p g).2=0:=q
  unfold rpI at q
  by_cases f:(flI ns ds p).2=0
  ·rw[if_pos f]at q;obtain⟨i,hi,ei,k1⟩:=zgp h.wi.img f;unfold rpF at q
   by_cases z:0<=g/\g<zdl ns (flI ns ds p).1
   ·refine⟨⟨z.1,?_⟩,FL f⟩;have z2:=z.2;rw[ei]at z2;unfold zdl at z2;rw[Int.toNat_natCast]at z2;have:=(zcf (h.wi.img.ok i hi)).2.1;omega
   ·rw[if_neg z]at q
    cases q
  ·rw[if_neg f]at q;exact absurd q f
 rw[if_neg c8]
 by_cases c9:k=9
 ·rw[if_pos c9]
  have e:(stA ns (lkI ns ds p)).steps=[]:=by unfold stA;split<;>rfl
  obtain⟨a,b,d⟩:=N _ e;exact⟨a,b,d,fun q _=>by omega⟩
 rw[if_neg c9]
 by_cases c10:k=10
 ·rw[if_pos c10]
  have e:(lsA ns ds (lkI ns ds p)).steps=[]:=by
   unfold lsA
   split
   ·split<;>rfl
   ·rfl
  obtain⟨a,b,d⟩:=N _ e;exact⟨a,b,d,fun q _=>by omega⟩
 rw[if_neg c10]
 show(∃ ws' es' ns' ds',mr (zdh (zdq (uoI ns ds k p t g).1)) ws [] es []=⟨0,ws',[],es',[]⟩/\Idle ws' es' ns' ds')/\(∀ m∈zdh (zdq (uoI ns ds k p t g).1),miB m=true)/\(zdh (zdq (uoI ns ds k p t g).1)).length<=200/\_
 by_cases c:(uoI ns ds k p t g).2=0
 ·obtain⟨ui,hl,wv⟩:=yanr h.wi.img c;obtain⟨ns',ds',q⟩:=ztw h c;have pl:=zjb (uoI ns ds k p t g).1;exact⟨yadk h ui hl wv q,fun m hm=>(zsd ui wv hl m hm).1,by omega,fun q _=>by omega⟩
 ·have e:zdh (zdq (uoI ns ds k p t g).1)=[]:=by rw[yasz c];rfl
  obtain⟨a,b,d⟩:=N _ e;exact⟨a,b,d,fun q _=>by omega⟩
theorem yahv{zs:List Int}(h:∀ x∈zs,zbz x=true)(k:Nat):zbz (zs[k]?.getD 0)=true:=by
 rcases Nat.lt_or_ge k zs.length with q | q
 ·rw[List.getElem?_eq_getElem q];exact h _ (List.getElem_mem q)
 ·rw[List.getElem?_eq_none q];decide
theorem ztn{ws es:List Int}{ns:List Ino}{ds:List Den}(h:Idle ws es ns ds)(e:Int):zbz (pgV ws [] es [] e)=true:=by
 unfold pgV
 split
 ·show zbz (ws[_]?.getD 0)=true
  exact yahv (zmy.1 h.pm).2.2.1 _
 ·split
  ·exact yahv (zlu.1 h.bk).2.2.1 _
  ·decide
theorem zqe{ws es:List Int}{ns:List Ino}{ds:List Den}(h:Idle ws es ns ds){i p:Nat}(hi:i<16)(hp:p<8)(was:¬ (zal ns i).map.getD p 0=0){e:Int}(te:zel e=true)(he:¬ e=0)(new:¬ e∈zaq ns){S:List Mi}{ws1:List Int}(r:zon (ws,[]) S=(ws1,[]))(l1:ws1.length=336)(ag:∀ z:Int,0<=z/\z<312->wdI ws1 z=wdI ws z)(hm:∀ m∈S,miB m=true)(hl:S.length<=100)(q:(zwc (es,[]) S).2=[]) :
  (∃ ws' es' ns' ds',mr (S++swL (i:Int) (p:Int) e) ws [] es []=⟨0,ws',[],es',[]⟩/\Idle ws' es' ns' ds')/\(∀ m∈S++swL (i:Int) (p:Int) e,miB m=true)/\(S++swL (i:Int) (p:Int) e).length<=200:=by
 have ar:0<=48+12*(i:Int)+(3+(p:Int))/\48+12*(i:Int)+(3+(p:Int))<336:=by omega
 have sm:=zei te;have o:∀ m∈swL (i:Int) (p:Int) e,StOK m:=yadt ar (x:=e) (by omega);have w1:Wi ws1 ns ds:=zre h.wi l1 (fun z hz=>ag z (by omega));have w2:=yaqi w1 hi hp was te he new;have L:=zxd (i:Int) (p:Int) e
 have ALL:∀ m∈S++swL (i:Int) (p:Int) e,miB m=true:=fun m hm'=>by
  rcases List.mem_append.1 hm' with k | k
  ·exact hm m k
  ·exact(o m k).1
 have LEN:(S++swL (i:Int) (p:Int) e).length<=200:=by rw[List.length_append];omega
 have e2:zco ws1 [⟨48+12*(i:Int)+(3+(p:Int)),e⟩]=zdv ws1 [up (48+12*(i:Int)+(3+(p:Int))) e]:=rfl
 have R:zon (ws,[]) (S++swL (i:Int) (p:Int) e)=(zco ws1 [⟨48+12*(i:Int)+(3+(p:Int)),e⟩],[]):=by
  rw[zdb,r,e2];exact zik [up (48+12*(i:Int)+(3+(p:Int))) e] ws1
 have c:wdI (zco ws1 [⟨48+12*(i:Int)+(3+(p:Int)),e⟩]) 8=0:=by
  rw[zfc (by omega) _ _ (fun u hu=>by rw[List.mem_singleton.1 hu];exact⟨by show 0<=48+12*(i:Int)+(3+(p:Int));omega,by show 48+12*(i:Int)+(3+(p:Int))<(ws1.length:Int);omega,by show ¬ 48+12*(i:Int)+(3+(p:Int))=8;omega⟩),ag 8 (by omega)];exact h.c0
 obtain⟨es',e3,k3⟩:=zkk h R c w2 ALL LEN (by
  rw[znx]
  show(zwc (zwc (es,[]) S) (swL (i:Int) (p:Int) e)).2=[]
  rw[zhm _ _ o]
  exact q)
 exact⟨⟨_,_,_,_,e3,k3⟩,ALL,LEN⟩
theorem zxb{ws es:List Int}{ns:List Ino}{ds:List Den}(h:Idle ws es ns ds){i p:Nat}(hi:i<16)(hp:p<8)(z:Int)(c:(deF ns ((zal ns i).map.getD p 0) (pgV ws [] es [] z) (i:Int) (p:Int)).2=0) :
  (∃ ws' es' ns' ds',mr (deF ns ((zal ns i).map.getD p 0) (pgV ws [] es [] z) (i:Int) (p:Int)).1 ws [] es []=⟨0,ws',[],es',[]⟩/\Idle ws' es' ns' ds')/\(∀ m∈(deF ns ((zal ns i).map.getD p 0) (pgV ws [] es [] z) (i:Int) (p:Int)).1,miB m=true)/\(deF ns ((zal ns i).map.getD p 0) (pgV ws [] es [] z) (i:Int) (p:Int)).1.length<=200:=by
 have X:=zye (ztn h z)
 revert c
 generalize pgV ws [] es [] z=x at *;unfold deF
 by_cases c1:(zal ns i).map.getD p 0=0\/¬ (zal ns i).map.getD p 0%4=1
 ·rw[if_pos c1];intro c;cases c
 rw[if_neg c1]
 by_cases c2:fsI ns<0
 ·rw[if_pos c2];intro c;cases c
 rw[if_neg c2];intro _;obtain⟨k,k32,ek,nk⟩:=zcw (p:=fun i=>!zgv (zbm (zaq ns) 2) (i:Int)) (n:=32) (by show 0<=fsI ns;omega)
 replace ek:fsI ns=(k:Int):=ek
 unfold deS;rw[ek]
 have te:zel (4*(k:Int)+2)=true:=by
  unfold zel zgt;rw[Bool.and_eq_true,decide_eq_true_eq,decide_eq_true_eq];omega
 exact zqe h hi hp (fun q=>c1 (.inl q)) te (by omega) (zzw (by omega) nk) (S:=[⟨4,(k:Int),x⟩,⟨5,0,0⟩]) (ws1:=ws) rfl h.wi.len (fun z _=>rfl) (yano (by omega) X) (by simp) (zzj _ _ _)
theorem zsy{ws es:List Int}{ns:List Ino}{ds:List Den}(h:Idle ws es ns ds){i p:Nat}(hi:i<16)(hp:p<8)(z:Int)(c:(prF ns ((zal ns i).map.getD p 0) (pgV ws [] es [] z) (i:Int) (p:Int)).2=0) :
  (∃ ws' es' ns' ds',mr (prF ns ((zal ns i).map.getD p 0) (pgV ws [] es [] z) (i:Int) (p:Int)).1 ws [] es []=⟨0,ws',[],es',[]⟩/\Idle ws' es' ns' ds')/\(∀ m∈(prF ns ((zal ns i).map.getD p 0) (pgV ws [] es [] z) (i:Int) (p:Int)).1,miB m=true)/\(prF ns ((zal ns i).map.getD p 0) (pgV ws [] es [] z) (i:Int) (p:Int)).1.length<=200:=by
 have X:=zye (ztn h z)
 revert c
 generalize pgV ws [] es [] z=x at *;unfold prF
 by_cases c1:(zal ns i).map.getD p 0=0\/¬ (zal ns i).map.getD p 0%4=2
 ·rw[if_pos c1];intro c;cases c
 rw[if_neg c1]
 by_cases c2:fpI ns<0
 ·rw[if_pos c2];intro c;cases c
 rw[if_neg c2];intro _;obtain⟨k,k24,ek,nk⟩:=zcw (p:=fun i=>!zgv (zbm (zaq ns) 1) (i:Int)) (n:=24) (by show 0<=fpI ns;omega)
 replace ek:fpI ns=(k:Int):=ek
 have te:zel (4*(k:Int)+1)=true:=by
  unfold zel zgt;rw[Bool.and_eq_true,decide_eq_true_eq,decide_eq_true_eq];omega
 have o:=yadt (a:=312+(k:Int)) (x:=x) (by omega) X;unfold prS;rw[ek];refine zqe h hi hp (fun q=>c1 (.inl q)) te (by omega) (zzw (by omega) nk) (S:=⟨1,312+(k:Int),x⟩::zbg [312+(k:Int)]) (ws1:=ws.set (312+(k:Int)).toNat x) (zik [up (312+(k:Int)) x] ws) (by rw[List.length_set];exact h.wi.len) (fun z hz=>?_) (fun m hm=>(o m hm).1) (Nat.le_trans (yadh _ _) (by omega)) (by rw[zhm _ _ o]);unfold wdI;rw[List.getD_eq_getElem?_getD,List.getD_eq_getElem?_getD,List.getElem?_set_ne (by omega)]
theorem yamm{hs:List Int}(h:hs.length=128)(k:∀ k (h:k<hs.length),0<=hs[k]/\hs[k]<=64):zij hs=true:=decide_eq_true ⟨h,k⟩
theorem yabv{hs:List Int}(h:zij hs=true)(k:Nat):zij (touH hs k)=true:=by
 obtain⟨l,r⟩:=zbl h;refine yamm (by unfold touH;rw[List.length_set];exact l) (fun j hj=>?_);have m:=List.getElem_mem hj;generalize (touH hs k)[j]=z at m;unfold touH at m
 have at_:∀ i,0<=hs.getD i 0/\hs.getD i 0<=64:=fun i=>by
  rw[List.getD_eq_getElem?_getD]
  rcases Nat.lt_or_ge i hs.length with q | q
  ·rw[List.getElem?_eq_getElem q];exact r i q
  ·rw[List.getElem?_eq_none q];exact⟨Int.le_refl _,by decide⟩
 rcases List.mem_or_eq_of_mem_set m with q | rfl
 ·obtain⟨i,hi,rfl⟩:=List.getElem_of_mem q;exact r i hi
 ·have:=at_ k;omega
theorem zhh{w:World}{b:Nat}{t:TypeId}{x0 x1 x2 x3 x4:Value}(h:w.heap[b]?=some (.cells #[x0,x1,x2,x3,x4] t (0,0))):w.cell? ⟨b,0,none⟩=some x0/\w.cell? ⟨b,1,none⟩=some x1/\w.cell? ⟨b,2,none⟩=some x2/\w.cell? ⟨b,3,none⟩=some x3/\w.cell? ⟨b,4,none⟩=some x4:=by simp[World.cell?,h]
theorem zub(v:Value)(ws es hs:List Int)(ns:List Ino)(ds:List Den)(c0 v0:Int)(nm:List ByteArray)(k:Int)(p t:ByteArray)(g y:Int)(w:World)(h:RdFs w v ws es hs [] c0 v0 nm false)(hi:Idle ws es ns ds)(hh:zij hs=true)(hp:p.size<=65536)(ht:t.size<=65536) :
  zC 109 #[v,.agg #[.I k,.string p,.string t,.I g,.I y]] w fun e w'=>∃ v' hs',e=.returned (.tuple #[v',.I 0])/\zij hs'=true/\RdFs w' v' ws es hs' (opI ws [] es [] ns ds k p t g y).steps (opI ws [] es [] ns ds k p t g y).code (opI ws [] es [] ns ds k p t g y).val (opI ws [] es [] ns ds k p t g y).names true/\zB w w':=by
 have H1:Hid (3<=ws.length):=by have:=hi.wi.len;unfold Hid;omega
 have H2:Hid (3<=es.length):=by have:=(zet hi.bk).1;unfold Hid;omega
 have HH:=zaa hh
 have H3:Hid (3<=hs.length):=by have:=(zbl hh).1;unfold Hid;omega
 have IM:=zaa hi.img;have TCH:=zaa (yafx hi k p t g y).2.2.2;obtain⟨aW,cW,aP,cP,aS,cS,aQ,cQ,aH,cH,aT,cT,aN,cN,rfl,a,b,c,d⟩:=h;have RD:=zaa a;have RH:=zaa b
 have LR:Hid (∀ w1,zB w w1->zC 33 #[.agg #[.slice aW ws.length cW,.slice aP 0 cP]] w1 fun e w'=>(∃ v',e=.returned (.tuple #[v',.bool true])/\RowIm w' w1.heap.size w'.heap.size v' ns ds)/\zB w1 w'):=fun w1 hb=>by
  obtain⟨_,_,_,_,e1,q,_⟩:=a.below hb;simp only[Value.agg.injEq,Array.mk.injEq,List.cons.injEq,and_true]at e1;obtain⟨rfl,rfl,-,-⟩:=e1;refine(zia _ ws [] w1 q hi.pm).mono ?_;rintro e w' ⟨⟨v',rfl,h1,_⟩,hb'⟩;have gd:zcm (zdv ws []) 24=true:=hi.wi.good;refine⟨⟨v',by rw[gd],?_⟩,hb'⟩;have:=h1 gd;rw[show zbq (zdv ws []) 16=ns from hi.wi.inos,show zby (zdv ws []) 24=ds from hi.wi.dens]at this;exact this
 have LO:=zaa (fun v2 w1 (hb:zB w w1) (h2:RdIm w1 v2 ns ds)=>yaec _ v2 ws [] es [] ns ds k p t g y w1 (a.below hb) hi.pm hi.bk h2 hi.img hp ht);have LL:=zaa (fun v2 w1 (h2:RdIm w1 v2 ns ds)=>zeu v2 ns ds p w1 h2 hi.img hp);have LT:=zaa (fun v2 (i q:Nat) w1 (h2:RdI w1 v2 hs) (hi16:i<16) (hq:q<8)=>zua v2 hs i q w1 h2 (zbl hh).1 (zbl hh).2 hi16 hq);clear a b c d hi hh hp ht;rw[show([]:List Mi).length=0 from rfl];generalize opI ws [] es [] ns ds k p t g y=A at *;generalize lkI ns ds p=lk at *
 obtain⟨V,hV⟩:=zE (((w.alloc (.cells #[.slice aW ws.length cW,.slice aP 0 cP,.slice aS es.length cS,.slice aQ 0 cQ,.slice aH hs.length cH,.slice aT 0 cT,.I c0,.I v0,.slice aN nm.length cN,.bool false] 83)).alloc (.cells #[.I k,.string p,.string t,.I g,.I y] 104)).alloc (.cells zdr.toArray 83))
 have HZ:Hid (V.heap.size=w.heap.size+1+1+1):=by rw[hV];simp[Hid]
 have BV:Hid (zB w V):=by rw[hV];exact((zR.alloc zL _).alloc (by simp) _).alloc (by simp<;>omega) _
 have XV:Hid (V.heap[w.heap.size]?=some (.cells #[.slice aW ws.length cW,.slice aP 0 cP,.slice aS es.length cS,.slice aQ 0 cQ,.slice aH hs.length cH,.slice aT 0 cT,.I c0,.I v0,.slice aN nm.length cN,.bool false] 83 (0,0))):=by rw[hV];exact zak (zak (zai rfl))
 have OV:Hid (V.heap[w.heap.size+1]?=some (.cells #[.I k,.string p,.string t,.I g,.I y] 104 (0,0))):=by rw[hV];exact zak (zai (by simp))
 have YV:Hid (V.heap[w.heap.size+1+1]?=some (.cells zdr.toArray 83 (0,0))):=by rw[hV];exact zai (by simp)
 unfold zdr at hV;go_enter Tryz.func109,Tryz.ntmps109;go_upto_region 1 with fail;rw[<- hV];clear hV;obtain⟨x0,x1,x2,x3,x4,x5,x6,x7,x8,x9,-⟩:=zaj XV.o;go_wp2_with fail;refine(LR.o _ BV.o).mono ?_;rintro e w1 ⟨⟨v1,rfl,hr1⟩,hb1⟩;have HR1:=zaa hr1;obtain⟨vI,vD,rfl,hI,hD⟩:=hr1;obtain⟨-,a1,k1,hv1,-⟩:=hI.rd;obtain⟨-,a2,k2,hv2,-⟩:=hD.rd;subst hv1;subst hv2;have z1:Hid (V.heap.size<=w1.heap.size):=hb1.size
 obtain⟨V1,hV1⟩:=zE (w1.alloc (.cells #[.slice a1 ns.length k1,.slice a2 ds.length k2] 26))
 have BC:Hid (zB w1 V1):=by rw[hV1];exact zR.alloc zL _
 have BV1:=zaa (zab hb1 BC.o hb1.size)
 have I1:Hid (V1.heap[w1.heap.size]?=some (.cells #[.slice a1 ns.length k1,.slice a2 ds.length k2] 26 (0,0))):=by rw[hV1];exact zai rfl
 have RI1:=zaa (HR1.o.below BC.o zL).rd;have X1:=zaa ((BV1.o.block _ (by have q:=HZ.o;omega)).trans XV.o);have O1:=zaa ((BV1.o.block _ (by have q:=HZ.o;omega)).trans OV.o);have B1:=zaa (zab BV.o BV1.o BV.o.size);have l1:Hid (w1.heap.size<V1.heap.size):=(Array.getElem?_eq_some_iff.1 I1.o).1;clear x0 x1 x2 x3 x4 x5 x6 x7 x8 x9 hI hD HR1 LR hb1;go_upto_region 4 with fail;rw[<- hV1];clear hV1;obtain⟨x0,x1,x2,x3,x4,x5,x6,x7,x8,x9,-⟩:=zaj X1.o;obtain⟨i0,i1,-,-⟩:=zad I1.o;obtain⟨o0,o1,o2,o3,o4⟩:=zhh O1.o;go_wp2_with fail;refine(LO.o _ _ B1.o RI1.o).mono ?_;rintro e w2 ⟨vS,vA,rfl,vN,rfl,hS,hN,hb2⟩;have RS2:=zaa hS.rd;have RN2:=zaa hN.rd;obtain⟨-,iS,jS,hvS,-⟩:=hS.rd;obtain⟨-,iN,jN,hvN,-⟩:=hN.rd;subst hvS;subst hvN;have z2:Hid (V1.heap.size<=w2.heap.size):=hb2.size
 obtain⟨V2,hV2⟩:=zE (w2.alloc (.cells #[.I A.code,.I A.val,.slice iN A.names.length jN] 81))
 have BC2:Hid (zB w2 V2):=by rw[hV2];exact zR.alloc zL _
 have BV2:=zaa (zab hb2 BC2.o hb2.size)
 have A2:Hid (V2.heap[w2.heap.size]?=some (.cells #[.I A.code,.I A.val,.slice iN A.names.length jN] 81 (0,0))):=by rw[hV2];exact zai rfl
 have l2:Hid (w2.heap.size<V2.heap.size):=(Array.getElem?_eq_some_iff.1 A2.o).1;have X2a:=zaa ((BV2.o.block _ (by have q:=HZ.o;have q1:=z1.o;have q2:=l1.o;omega)).trans X1.o);have O2a:=zaa ((BV2.o.block _ (by have q:=HZ.o;have q1:=z1.o;have q2:=l1.o;omega)).trans O1.o);have I2a:=zaa ((BV2.o.block _ l1.o).trans I1.o);have Y2a:=zaa ((BV2.o.block _ (by have q:=HZ.o;have q1:=z1.o;have q2:=l1.o;omega)).trans ((BV1.o.block _ (by have q:=HZ.o;omega)).trans YV.o));have B2a:=zaa (zab B1.o BV2.o B1.o.size);have RI2:=zaa (RI1.o.below BV2.o);have RS3:Hid (RdM V2 (.slice iS A.steps.length jS) A.steps):=Rd.below RS2.o BC2.o;have RN3:Hid (RdT V2 (.slice iN A.names.length jN) A.names):=Rd.below RN2.o BC2.o
 have zV2:Hid (V.heap.size<=V2.heap.size):=by
  have q1:=z1.o;have q2:=l1.o;have q3:=z2.o;have q4:=l2.o;unfold Hid;omega
 clear x0 x1 x2 x3 x4 x5 x6 x7 x8 x9 i0 i1 o0 o1 o2 o3 o4 hS hN LO hb2 RS2 RN2 X1 O1 I1 RI1 B1 BC2 BV2 BC BV1 XV OV YV;go_upto_region 5 with fail;rw[<- hV2];clear hV2;obtain⟨i0,i1,-,-⟩:=zad I2a.o;obtain⟨o0,o1,o2,o3,o4⟩:=zhh O2a.o;obtain⟨n0,n1,n2,-,-,-⟩:=tri3 A2.o
 by_cases ct:A.code=0/\(k=6\/k=8)
 ·obtain⟨⟨g0,g8⟩,li,li16,lke⟩:=TCH.o ct.2 ct.1
  obtain⟨gg,rfl⟩:∃ gg:Nat,g=(gg:Int):=⟨g.toNat,by omega⟩
  have g8':gg<8:=by omega
  have qc:(A.code == 0)=true:=by rw[beq_iff_eq];exact ct.1
  have WK:Hid (k=6\/k=8):=ct.2;have LL1:=zaa (LL.o _ V2 RI2.o);rw[lke]at LL1;have LT1:=zaa (fun v2 w1 h2=>LT.o v2 li gg w1 h2 li16 g8');have TH:=zaa (yabv HH.o (8*li+gg));clear LL LT TCH ct g0 g8 lke li16 g8';generalize touH hs (8*li+gg)=hs' at *;obtain⟨x0,x1,x2,x3,x4,x5,x6,x7,x8,x9,-⟩:=zaj X2a.o
  rcases WK.o with rfl|rfl
  all_goals
   go_wp2_with fail;refine LL1.o.mono ?_;rintro e w3 ⟨rfl,hb3⟩;have X3:=zaa ((hb3.block _ (by have q:=HZ.o;have q1:=zV2.o;omega)).trans X2a.o);have O3:=zaa ((hb3.block _ (by have q:=HZ.o;have q1:=zV2.o;omega)).trans O2a.o);have B3:=zaa hb3;clear hb3 x0 x1 x2 x3 x4 x5 x6 x7 x8 x9 i0 i1 o0 o1 o2 o3 o4 n0 n1 n2;obtain⟨x0,x1,x2,x3,x4,x5,x6,x7,x8,x9,-⟩:=zaj X3.o;obtain⟨o0,o1,o2,o3,o4⟩:=zhh O3.o;go_wp2_with fail;refine(LT1.o _ _ (Rd.below RH.o (zab B2a.o B3.o B2a.o.size))).mono ?_;rintro e w4 ⟨v4,rfl,hr4,hb4⟩;have B4:=zaa (zab B3.o hb4 B3.o.size);have X4:=zaa ((B4.o.block _ (by have q:=HZ.o;have q1:=zV2.o;omega)).trans X2a.o);have RH4:=zaa hr4.rd;obtain⟨-,bH,dH,hv4,-⟩:=hr4.rd;subst hv4;have z4:Hid (V2.heap.size<=w4.heap.size):=B4.o.size;clear hr4 hb4 x0 x1 x2 x3 x4 x5 x6 x7 x8 x9 o0 o1 o2 o3 o4 X3 O3 LT1 LL1;obtain⟨x0,x1,x2,x3,x4,x5,x6,x7,x8,x9,g0,g1,g2,g3,g4,g5,g6,g7,g8,g9⟩:=zaj X4.o
   obtain⟨U,hU⟩:=zE (w4.setCell ⟨w.heap.size,4,none⟩ (.slice bH hs'.length dH))
   have XU:Hid (U.heap[w.heap.size]?=some (.cells #[.slice aW ws.length cW,.slice aP 0 cP,.slice aS es.length cS,.slice aQ 0 cQ,.slice bH hs'.length dH,.slice aT 0 cT,.I c0,.I v0,.slice aN nm.length cN,.bool false] 83 (0,0))):=by rw[hU];exact zry X4.o _
   have OW:Hid (Outside w.heap.size (w.heap.size+1) w4 U):=by rw[hU];exact zaa (Outside.setCell (Outside.refl _ _ _) (a:=⟨w.heap.size,4,none⟩) zL (Nat.lt_succ_self _) _)
   have SW:=zaa (Soft.outside OW.o X4.o rfl);have SV2:=zaa ((Soft.of_below B4.o).trans SW.o);have AU:=zaa ((OW.o.block w2.heap.size (by have q:=l2.o;have q1:=z4.o;omega) (by have q:=HZ.o;have q1:=z1.o;have q2:=l1.o;have q3:=z2.o;omega)).trans ((B4.o.block _ l2.o).trans A2.o));have YU:=zaa ((OW.o.block (w.heap.size+1+1) (by have q:=HZ.o;have q1:=zV2.o;have q2:=z4.o;omega) (by omega)).trans ((B4.o.block _ (by have q:=HZ.o;have q1:=zV2.o;omega)).trans Y2a.o));have BU:=zaa ((zab B2a.o B4.o B2a.o.size).trans (OW.o.below (B:=w.heap.size) zL (by have q:=HZ.o;have q1:=zV2.o;have q2:=z4.o;omega)))
   have zU:Hid (V.heap.size<=U.heap.size):=by have q1:=zV2.o;have q2:=z4.o;have q3:=OW.o.size;unfold Hid;omega
   have RDU:=zaa ((RD.o.below B2a.o).soft SV2.o H1.o H2.o)
   have H4:Hid (3<=hs'.length):=by have:=(zbl TH.o).1;unfold Hid;omega
   have RHU:=zaa (RdI.soft RH4.o SW.o H4.o);have RSU:=zaa (RdM.soft RS3.o SV2.o);have RNU:=zaa (RdT.soft RN3.o SV2.o);go_upto_region 8 with fail;rw[<- hU];clear hU x0 x1 x2 x3 x4 x5 x6 x7 x8 x9 g0 g1 g2 g3 g4 g5 g6 g7 g8 g9 X4 OW SW SV2 RH4 B4 B3 X2a O2a I2a A2 Y2a RI2 RS3 RN3 RD RH;obtain⟨x0,x1,x2,x3,x4,x5,x6,x7,x8,x9,g0,g1,g2,g3,g4,g5,g6,g7,g8,g9⟩:=zaj XU.o;obtain⟨n0,n1,n2,-,-,-⟩:=tri3 AU.o
   obtain⟨U2,hU2⟩:=zE (((((U.setCell ⟨w.heap.size,5,none⟩ (.slice iS A.steps.length jS)).setCell ⟨w.heap.size,6,none⟩ (.I A.code)).setCell ⟨w.heap.size,7,none⟩ (.I A.val)).setCell ⟨w.heap.size,8,none⟩ (.slice iN A.names.length jN)).setCell ⟨w.heap.size,9,none⟩ (.bool true))
   have X2:Hid (U2.heap[w.heap.size]?=some (.cells #[.slice aW ws.length cW,.slice aP 0 cP,.slice aS es.length cS,.slice aQ 0 cQ,.slice bH hs'.length dH,.slice iS A.steps.length jS,.I A.code,.I A.val,.slice iN A.names.length jN,.bool true] 83 (0,0))):=by rw[hU2];exact zlz (zjn (zls (zlp (zgh XU.o _) _) _) _) _
   have OU:Hid (Outside w.heap.size (w.heap.size+1) U U2):=by
    rw[hU2];unfold Hid
    repeat (refine Outside.setCell ?_ (by simp only;omega) (by simp only;omega) _)
    exact Outside.refl _ _ _
   have SU:=zaa (Soft.outside OU.o XU.o rfl)
   have EU:Hid (U.heap.size=U2.heap.size):=by rw[hU2];simp[World.setCell,Hid]
   have Y2:=zaa ((OU.o.block (w.heap.size+1+1) (by have q1:=HZ.o;have q2:=zU.o;omega) (by omega)).trans YU.o);have B2:=zaa (BU.o.trans (OU.o.below (B:=w.heap.size) zL (by have q1:=HZ.o;have q2:=zU.o;omega)));go_upto_region 11 with fail;rw[<- hU2];clear hU2 x0 x1 x2 x3 x4 x5 x6 x7 x8 x9 g0 g1 g2 g3 g4 g5 g6 g7 g8 g9 n0 n1 n2 XU AU YU;obtain⟨x0,x1,x2,x3,x4,x5,x6,x7,x8,x9,-⟩:=zaj X2.o;have Y2':U2.heap[w.heap.size+1+1]?=some (.cells #[.N,.N,.N,.N,.N,.N,.I 0,.I 0,.N,.bool false] 83 (0,0)):=Y2.o;obtain⟨y0,y1,y2,y3,y4,y5,y6,y7,y8,y9,g0,g1,g2,g3,g4,g5,g6,g7,g8,g9⟩:=zaj Y2';clear Y2';have O3:=zaa (zbt U2 (w.heap.size+1+1) (.slice aW ws.length cW) (.slice aP 0 cP) (.slice aS es.length cS) (.slice aQ 0 cQ) (.slice bH hs'.length dH) (.slice iS A.steps.length jS) (.I A.code) (.I A.val) (.slice iN A.names.length jN) (.bool true));have S3:=zaa (SU.o.trans (Soft.outside O3.o Y2.o rfl));have B3:=zaa (B2.o.trans (O3.o.below (B:=w.heap.size) (by omega) (by have q1:=HZ.o;have q2:=zU.o;have q3:=EU.o;omega)))
   have F3:Hid (RdFs _ (.agg #[.slice aW ws.length cW,.slice aP 0 cP,.slice aS es.length cS,.slice aQ 0 cQ,.slice bH hs'.length dH,.slice iS A.steps.length jS,.I A.code,.I A.val,.slice iN A.names.length jN,.bool true]) ws es hs' A.steps A.code A.val A.names true) :=
    ⟨aW,cW,aP,cP,aS,cS,aQ,cQ,_,_,iS,jS,iN,jN,rfl,RDU.o.soft S3.o H1.o H2.o,RdI.soft RHU.o S3.o H4.o,RdM.soft RSU.o S3.o,RdT.soft RNU.o S3.o⟩
   clear O3 S3 SU OU B2 Y2 X2 RDU RHU RSU RNU BU;go_wp2;refine bodyPost_ret (v:=.tuple #[.agg #[.slice aW ws.length cW,.slice aP 0 cP,.slice aS es.length cS,.slice aQ 0 cQ,.slice bH hs'.length dH,.slice iS A.steps.length jS,.I A.code,.I A.val,.slice iN A.names.length jN,.bool true],.I 0]) (by simp[results,Tryz.results109,go_sem,y0,y1,y2,y3,y4,y5,y6,y7,y8,y9]) rfl ?_;exact⟨_,_,rfl,TH.o,F3.o,B3.o⟩
 ·have NT:Hid (((A.code == 0)=true/\(k == 8)=false/\(k == 6)=false)\/(A.code == 0)=false):=by
   unfold Hid
   by_cases c:A.code=0
   ·left;refine⟨beq_iff_eq.2 c,?_,?_⟩
    ·rw[beq_eq_false_iff_ne];exact fun e=>ct ⟨c,.inr e⟩
    ·rw[beq_eq_false_iff_ne];exact fun e=>ct ⟨c,.inl e⟩
   ·right;rw[beq_eq_false_iff_ne];exact c
  clear ct TCH LL LT;have RDU:=zaa (RD.o.below B2a.o);have RHU:Hid (RdI V2 (.slice aH hs.length cH) hs):=Rd.below RH.o B2a.o;have XU:=X2a;have AU:=A2;have YU:=Y2a;have BU:=B2a;have zU:=zV2;have RSU:=RS3;have RNU:=RN3;clear X2a A2 Y2a B2a RS3 RN3 RI2 I2a RD RH
  rcases NT.o with ⟨qc,q8,q6⟩ | qc
  all_goals
   go_upto_region 8 with fail;clear i0 i1 o0 o1 o2 o3 o4 n0 n1 n2;obtain⟨x0,x1,x2,x3,x4,x5,x6,x7,x8,x9,g0,g1,g2,g3,g4,g5,g6,g7,g8,g9⟩:=zaj XU.o;obtain⟨n0,n1,n2,-,-,-⟩:=tri3 AU.o
   obtain⟨U2,hU2⟩:=zE (((((V2.setCell ⟨w.heap.size,5,none⟩ (.slice iS A.steps.length jS)).setCell ⟨w.heap.size,6,none⟩ (.I A.code)).setCell ⟨w.heap.size,7,none⟩ (.I A.val)).setCell ⟨w.heap.size,8,none⟩ (.slice iN A.names.length jN)).setCell ⟨w.heap.size,9,none⟩ (.bool true))
   have X2:Hid (U2.heap[w.heap.size]?=some (.cells #[.slice aW ws.length cW,.slice aP 0 cP,.slice aS es.length cS,.slice aQ 0 cQ,.slice aH hs.length cH,.slice iS A.steps.length jS,.I A.code,.I A.val,.slice iN A.names.length jN,.bool true] 83 (0,0))):=by rw[hU2];exact zlz (zjn (zls (zlp (zgh XU.o _) _) _) _) _
   have OU:Hid (Outside w.heap.size (w.heap.size+1) V2 U2):=by
    rw[hU2];unfold Hid
    repeat (refine Outside.setCell ?_ (by simp only;omega) (by simp only;omega) _)
    exact Outside.refl _ _ _
   have SU:=zaa (Soft.outside OU.o XU.o rfl)
   have EU:Hid (V2.heap.size=U2.heap.size):=by rw[hU2];simp[World.setCell,Hid]
   have Y2:=zaa ((OU.o.block (w.heap.size+1+1) (by have q1:=HZ.o;have q2:=zU.o;omega) (by omega)).trans YU.o);have B2:=zaa (BU.o.trans (OU.o.below (B:=w.heap.size) zL (by have q1:=HZ.o;have q2:=zU.o;omega)));go_upto_region 11 with fail;rw[<- hU2];clear hU2 x0 x1 x2 x3 x4 x5 x6 x7 x8 x9 g0 g1 g2 g3 g4 g5 g6 g7 g8 g9 n0 n1 n2 XU AU YU;obtain⟨x0,x1,x2,x3,x4,x5,x6,x7,x8,x9,-⟩:=zaj X2.o;have Y2':U2.heap[w.heap.size+1+1]?=some (.cells #[.N,.N,.N,.N,.N,.N,.I 0,.I 0,.N,.bool false] 83 (0,0)):=Y2.o;obtain⟨y0,y1,y2,y3,y4,y5,y6,y7,y8,y9,g0,g1,g2,g3,g4,g5,g6,g7,g8,g9⟩:=zaj Y2';clear Y2';have O3:=zaa (zbt U2 (w.heap.size+1+1) (.slice aW ws.length cW) (.slice aP 0 cP) (.slice aS es.length cS) (.slice aQ 0 cQ) (.slice aH hs.length cH) (.slice iS A.steps.length jS) (.I A.code) (.I A.val) (.slice iN A.names.length jN) (.bool true));have S3:=zaa (SU.o.trans (Soft.outside O3.o Y2.o rfl));have B3:=zaa (B2.o.trans (O3.o.below (B:=w.heap.size) (by omega) (by have q1:=HZ.o;have q2:=zU.o;have q3:=EU.o;omega)))
   have F3:Hid (RdFs _ (.agg #[.slice aW ws.length cW,.slice aP 0 cP,.slice aS es.length cS,.slice aQ 0 cQ,.slice aH hs.length cH,.slice iS A.steps.length jS,.I A.code,.I A.val,.slice iN A.names.length jN,.bool true]) ws es hs A.steps A.code A.val A.names true) :=
    ⟨aW,cW,aP,cP,aS,cS,aQ,cQ,_,_,iS,jS,iN,jN,rfl,RDU.o.soft S3.o H1.o H2.o,RdI.soft RHU.o S3.o H3.o,RdM.soft RSU.o S3.o,RdT.soft RNU.o S3.o⟩
   clear O3 S3 SU OU B2 Y2 X2 RDU RHU RSU RNU BU;go_wp2;refine bodyPost_ret (v:=.tuple #[.agg #[.slice aW ws.length cW,.slice aP 0 cP,.slice aS es.length cS,.slice aQ 0 cQ,.slice aH hs.length cH,.slice iS A.steps.length jS,.I A.code,.I A.val,.slice iN A.names.length jN,.bool true],.I 0]) (by simp[results,Tryz.results109,go_sem,y0,y1,y2,y3,y4,y5,y6,y7,y8,y9]) rfl ?_;exact⟨_,_,rfl,HH.o,F3.o,B3.o⟩
def FsIdle(w:World)(v:Value):Prop:=∃ ws es ns ds hs,RdFs w v ws es hs [] 0 0 [] false/\Idle ws es ns ds/\zij hs=true
theorem FsIdle.below{w w':World}{v:Value}(h:FsIdle w v)(hb:zB w w'):FsIdle w' v:=by
 obtain⟨ws,es,ns,ds,hs,a,b,c⟩:=h;exact⟨ws,es,ns,ds,hs,a.below hb,b,c⟩
theorem zbx{ws es:List Int}{ns:List Ino}{ds:List Den}(h:Idle ws es ns ds):3<=ws.length/\3<=es.length:=by
 have a:=h.wi.len;have b:=(zet h.bk).1;omega
theorem FsIdle.soft{w w':World}{v:Value}(h:FsIdle w v)(s:Soft w w'):FsIdle w' v:=by
 obtain⟨ws,es,ns,ds,hs,a,b,c⟩:=h;exact⟨ws,es,ns,ds,hs,a.soft s (zbx b).1 (zbx b).2 (by have:=(zbl c).1;omega),b,c⟩
theorem zni(v:Value)(k:Int)(p t:ByteArray)(g y:Int)(w:World)(h:FsIdle w v)(hp:p.size<=65536)(ht:t.size<=65536) :
  zC 60 #[v,.agg #[.I k,.string p,.string t,.I g,.I y]] w fun e w'=>∃ v' cd vl a n c,e=.returned (.tuple #[v',.agg #[.I cd,.I vl,.slice a n c],.I 0])/\FsIdle w' v'/\zB w w':=by
 obtain⟨ws,es,ns,ds,hs,h,hi,hh⟩:=h;obtain⟨⟨ws',es',ns',ds',run,hi'⟩,hm,hl,-⟩:=yafx hi k p t g y;have LS:=zaa (fun w1 (hb:zB w w1)=>zub v ws es hs ns ds 0 0 [] k p t g y w1 (h.below hb) hi hh hp ht);have LF:=zaa (fun v2 hs2 cd vl nm w1 (h2:RdFs w1 v2 ws es hs2 (opI ws [] es [] ns ds k p t g y).steps cd vl nm true) (q:zij hs2=true)=>zjg v2 ws es hs2 _ cd vl nm true ws' es' w1 h2 hi.pm hi.bk (by have:=(zbl q).1;omega) hm (by omega) run hi'.pm hi'.bk);have LT:=zaa (fun v2 hs2 cd vl nm w1 (h2:RdFs w1 v2 ws' es' hs2 [] cd vl nm true) (q:zij hs2=true)=>zwx v2 ws' es' hs2 cd vl nm w1 h2 (zbx hi').1 (zbx hi').2 (by have:=(zbl q).1;omega));have HI':=zaa hi';obtain⟨aW,cW,aP,cP,aS,cS,aQ,cQ,aH,cH,aT,cT,aN,cN,rfl,-,-,-,-⟩:=h;clear hi hi' hh hp ht hm hl run;rw[show([]:List Mi).length=0 from rfl,show([]:List ByteArray).length=0 from rfl]at LS ⊢;generalize opI ws [] es [] ns ds k p t g y=A at *
 obtain⟨V,hV⟩:=zE ((((w.alloc (.cells #[.slice aW ws.length cW,.slice aP 0 cP,.slice aS es.length cS,.slice aQ 0 cQ,.slice aH hs.length cH,.slice aT 0 cT,.I 0,.I 0,.slice aN 0 cN,.bool false] 83)).alloc (.cells #[.I k,.string p,.string t,.I g,.I y] 104)).alloc (.cells zdr.toArray 83)).alloc (.cells #[.I 0,.I 0,.N] 81))
 have HZ:Hid (V.heap.size=w.heap.size+1+1+1+1):=by rw[hV];simp[Hid]
 have BV:Hid (zB w V):=by rw[hV];exact(((zR.alloc zL _).alloc (by simp) _).alloc (by simp<;>omega) _).alloc (by simp<;>omega) _
 have XV:Hid (V.heap[w.heap.size]?=some (.cells #[.slice aW ws.length cW,.slice aP 0 cP,.slice aS es.length cS,.slice aQ 0 cQ,.slice aH hs.length cH,.slice aT 0 cT,.I 0,.I 0,.slice aN 0 cN,.bool false] 83 (0,0))):=by rw[hV];exact zak (zak (zak (zai rfl)))
 have OV:Hid (V.heap[w.heap.size+1]?=some (.cells #[.I k,.string p,.string t,.I g,.I y] 104 (0,0))):=by rw[hV];exact zak (zak (zai (by simp)))
 have YV:Hid (V.heap[w.heap.size+1+1]?=some (.cells zdr.toArray 83 (0,0))):=by rw[hV];exact zak (zai (by simp))
 have ZV:Hid (V.heap[w.heap.size+1+1+1]?=some (.cells #[.I 0,.I 0,.N] 81 (0,0))):=by rw[hV];exact zai (by simp)
 unfold zdr at hV;go_enter Tryz.func60,Tryz.ntmps60;go_upto_region 1 with fail;rw[<- hV];clear hV;obtain⟨x0,x1,x2,x3,x4,x5,x6,x7,x8,x9,-⟩:=zaj XV.o;obtain⟨o0,o1,o2,o3,o4⟩:=zhh OV.o;go_wp2_with fail;refine(LS.o _ BV.o).mono ?_;rintro e w1 ⟨v1,hs1,rfl,hh1,hF1,hb1⟩;have HH1:=zaa hh1;have R1:=zaa hF1;obtain⟨bW,dW,bP,dP,bS,dS,bQ,dQ,bH,dH,bT,dT,bN,dN,rfl,-,-,-,-⟩:=hF1;have z1:Hid (V.heap.size<=w1.heap.size):=hb1.size;have B1:=zaa hb1;clear x0 x1 x2 x3 x4 x5 x6 x7 x8 x9 o0 o1 o2 o3 o4 hb1 hh1 LS XV OV
 obtain⟨V1,hV1⟩:=zE (w1.alloc (.cells #[.slice bW ws.length dW,.slice bP 0 dP,.slice bS es.length dS,.slice bQ 0 dQ,.slice bH hs1.length dH,.slice bT A.steps.length dT,.I A.code,.I A.val,.slice bN A.names.length dN,.bool true] 83))
 have BC:Hid (zB w1 V1):=by rw[hV1];exact zR.alloc zL _
 have X1:Hid (V1.heap[w1.heap.size]?=some (.cells #[.slice bW ws.length dW,.slice bP 0 dP,.slice bS es.length dS,.slice bQ 0 dQ,.slice bH hs1.length dH,.slice bT A.steps.length dT,.I A.code,.I A.val,.slice bN A.names.length dN,.bool true] 83 (0,0))):=by rw[hV1];exact zai rfl
 have BV1:=zaa (zab B1.o BC.o B1.o.size);have R2:=zaa (R1.o.below BC.o);go_upto_region 2 with fail;rw[<- hV1];clear hV1;obtain⟨x0,x1,x2,x3,x4,x5,x6,x7,x8,x9,-⟩:=zaj X1.o;go_wp2_with fail;refine(LF.o _ _ _ _ _ _ R2.o HH1.o).mono ?_;rintro e w2 ⟨v2,rfl,hF2,hb2⟩;have R3:=zaa hF2;have B2:=zaa (zab BV1.o hb2 BV1.o.size);obtain⟨_,_,_,_,_,_,_,_,_,_,_,_,_,_,rfl,-,-,-,-⟩:=hF2;clear x0 x1 x2 x3 x4 x5 x6 x7 x8 x9 hb2 LF R1 R2 X1 BC B1 BV1;go_wp2_with fail;refine(LT.o _ _ _ _ _ _ R3.o HH1.o).mono ?_;rintro e w3 ⟨v3,aA,nA,cA,rfl,hF3,hb3⟩;have R4:=zaa hF3;have B3:=zaa (zab B2.o hb3 B2.o.size);obtain⟨eW,fW,eP,fP,eS,fS,eQ,fQ,eH,fH,eT,fT,eN,fN,rfl,-,-,-,-⟩:=hF3;rw[show([]:List Mi).length=0 from rfl,show([]:List ByteArray).length=0 from rfl]at R4 ⊢;clear hb3 LT R3 B2;have Y3:=zaa ((B3.o.block (w.heap.size+1+1) (by have q:=HZ.o;omega)).trans YV.o);have Z3:=zaa ((B3.o.block (w.heap.size+1+1+1) (by have q:=HZ.o;omega)).trans ZV.o);have z3:Hid (V.heap.size<=w3.heap.size):=B3.o.size;have BB:=zaa (zab BV.o B3.o BV.o.size);have Y3':w3.heap[w.heap.size+1+1]?=some (.cells #[.N,.N,.N,.N,.N,.N,.I 0,.I 0,.N,.bool false] 83 (0,0)):=Y3.o;obtain⟨y0,y1,y2,y3,y4,y5,y6,y7,y8,y9,g0,g1,g2,g3,g4,g5,g6,g7,g8,g9⟩:=zaj Y3';obtain⟨m0,m1,m2,k0,k1,k2⟩:=tri3 Z3.o;clear Y3' YV ZV;have O5:=zaa (zbt w3 (w.heap.size+1+1) (.slice eW ws'.length fW) (.slice eP 0 fP) (.slice eS es'.length fS) (.slice eQ 0 fQ) (.slice eH hs1.length fH) (.slice eT 0 fT) (.I 0) (.I 0) (.slice eN 0 fN) (.bool false));have E5:=zaa (zpl w3 (w.heap.size+1+1) (.slice eW ws'.length fW) (.slice eP 0 fP) (.slice eS es'.length fS) (.slice eQ 0 fQ) (.slice eH hs1.length fH) (.slice eT 0 fT) (.I 0) (.I 0) (.slice eN 0 fN) (.bool false));have S5:=zaa (Soft.outside O5.o Y3.o rfl);have Z6:=zaa ((O5.o.block (w.heap.size+1+1+1) (by have q:=HZ.o;have q1:=z3.o;omega) (by omega)).trans Z3.o);have B5:=zaa (BB.o.trans (O5.o.below (B:=w.heap.size) (by omega) (by have q:=HZ.o;have q1:=z3.o;omega)));have O6:=zaa (yaac (zfp w3 (w.heap.size+1+1) (.slice eW ws'.length fW) (.slice eP 0 fP) (.slice eS es'.length fS) (.slice eQ 0 fQ) (.slice eH hs1.length fH) (.slice eT 0 fT) (.I 0) (.I 0) (.slice eN 0 fN) (.bool false)) (w.heap.size+1+1+1) (.I A.code) (.I A.val) (.slice aA nA cA));have S6:=zaa (S5.o.trans (Soft.outside O6.o Z6.o rfl));have B6:=zaa (B5.o.trans (O6.o.below (B:=w.heap.size) (by omega) (by have q:=HZ.o;have q1:=z3.o;have q2:=E5.o;omega)));have F6:=zaa (show FsIdle _ _ from⟨ws',es',ns',ds',hs1,R4.o.soft S6.o (zbx HI'.o).1 (zbx HI'.o).2 (by have:=(zbl HH1.o).1;omega),HI'.o,HH1.o⟩);clear O5 E5 S5 Z6 B5 O6 S6 Y3 Z3;go_wp2;refine bodyPost_ret (v:=.tuple #[.agg #[.slice eW ws'.length fW,.slice eP 0 fP,.slice eS es'.length fS,.slice eQ 0 fQ,.slice eH hs1.length fH,.slice eT 0 fT,.I 0,.I 0,.slice eN 0 fN,.bool false],.agg #[.I A.code,.I A.val,.slice aA nA cA],.I 0]) (by simp[results,Tryz.results60,go_sem,y0,y1,y2,y3,y4,y5,y6,y7,y8,y9,m0,m1,m2]) rfl ?_;exact⟨_,_,_,_,_,_,rfl,F6.o,B6.o⟩
end Go.Proofs.YtfagbapgnocjiaaGreatDoor
