import Derived.Test.YtfagbapgnocjiaaGreatDoorZBJ
set_option maxRecDepth 100000
set_option maxHeartbeats 8000000
namespace Go.Proofs.YtfagbapgnocjiaaGreatDoor
open Go.RowKit
def uoI(ns:List Ino)(ds:List Den)(k:Int)(p t:ByteArray)(g:Int):List Se×Int:=if k=1 then mkI ns ds p 1 else if k=2 then mkI ns ds p 2 else if k=3 then rmI ns ds p else if k=4 then lnI ns ds p t else if k=5 then rnI ns ds p t else cuI ns ds p g
theorem zpg(v:Value)(ns:List Ino)(ds:List Den)(k:Int)(p t:ByteArray)(g y:Int)(w:World)(h:RdIm w v ns ds)(hi:zbo ns ds=true)(hp:p.size<=65536)(ht:t.size<=65536) :
  zC 164 #[v,.agg #[.I k,.string p,.string t,.I g,.I y]] w fun e w'=>zru w w' e (uoI ns ds k p t g):=by
 have L1:=zaa (fun w1 (hb:zB w w1)=>zoe v ns ds p 1 w1 (h.below hb) hi hp);have L2:=zaa (fun w1 (hb:zB w w1)=>zoe v ns ds p 2 w1 (h.below hb) hi hp);have L3:=zaa (fun w1 (hb:zB w w1)=>zqz v ns ds p w1 (h.below hb) hi hp);have L4:=zaa (fun w1 (hb:zB w w1)=>zym v ns ds p t w1 (h.below hb) hi ⟨hp,ht⟩);have L5:=zaa (fun w1 (hb:zB w w1)=>zrm v ns ds p t w1 (h.below hb) hi ⟨hp,ht⟩);have L6:=zaa (fun w1 (hb:zB w w1)=>yacw v ns ds p g w1 (h.below hb) hi hp);have EL:=zaa (show uoI ns ds k p t g=if k=1 then mkI ns ds p 1 else if k=2 then mkI ns ds p 2 else if k=3 then rmI ns ds p else if k=4 then lnI ns ds p t else if k=5 then rnI ns ds p t else cuI ns ds p g from rfl);obtain⟨vW,vP,rfl,h1,h2⟩:=h;obtain⟨aW,cW,rfl,_,_⟩:=h1.shape;obtain⟨aP,cP,rfl,_,_⟩:=h2.shape;clear h1 h2 hi hp ht
 obtain⟨W,hW⟩:=zE ((w.alloc (.cells #[.slice aW ns.length cW,.slice aP ds.length cP] 26)).alloc (.cells #[.I k,.string p,.string t,.I g,.I y] 104))
 have BW:Hid (zB w W):=by rw[hW];exact(zR.alloc zL _).alloc (by simp) _
 rw[EL.o]
 by_cases c1:k=1
 case pos =>
  rw[if_pos c1];have LL:=L1;clear EL L1 L2 L3 L4 L5 L6;subst c1;generalize mkI ns ds p 1=res at *;go_enter Tryz.func164,Tryz.ntmps164;go_wp2_with fail;rw[<- hW];clear hW;refine(LL.o _ BW.o).mono ?_;rintro e w1 ⟨v1,rfl,hr1,hb1⟩;have R1:=zaa (hr1.wide BW.o.size zL);have B1:=zaa (zab BW.o hb1 BW.o.size);obtain⟨-,aL,cL,hvL,-⟩:=hr1.rd;subst hvL;clear hr1 hb1;go_wp2;go_ret2;exact⟨_,rfl,R1.o,B1.o⟩
 have q1:(k == 1)=false:=by rw[beq_eq_false_iff_ne];exact c1
 by_cases c2:k=2
 case pos =>
  rw[if_neg c1,if_pos c2];have LL:=L2;clear EL L1 L2 L3 L4 L5 L6;subst c2;generalize mkI ns ds p 2=res at *;go_enter Tryz.func164,Tryz.ntmps164;go_wp2_with fail;rw[<- hW];clear hW;refine(LL.o _ BW.o).mono ?_;rintro e w1 ⟨v1,rfl,hr1,hb1⟩;have R1:=zaa (hr1.wide BW.o.size zL);have B1:=zaa (zab BW.o hb1 BW.o.size);obtain⟨-,aL,cL,hvL,-⟩:=hr1.rd;subst hvL;clear hr1 hb1;go_wp2;go_ret2;exact⟨_,rfl,R1.o,B1.o⟩
 have q2:(k == 2)=false:=by rw[beq_eq_false_iff_ne];exact c2
 by_cases c3:k=3
 case pos =>
  rw[if_neg c1,if_neg c2,if_pos c3];have LL:=L3;clear EL L1 L2 L3 L4 L5 L6;subst c3;generalize rmI ns ds p=res at *;go_enter Tryz.func164,Tryz.ntmps164;go_wp2_with fail;rw[<- hW];clear hW;refine(LL.o _ BW.o).mono ?_;rintro e w1 ⟨v1,rfl,hr1,hb1⟩;have R1:=zaa (hr1.wide BW.o.size zL);have B1:=zaa (zab BW.o hb1 BW.o.size);obtain⟨-,aL,cL,hvL,-⟩:=hr1.rd;subst hvL;clear hr1 hb1;go_wp2;go_ret2;exact⟨_,rfl,R1.o,B1.o⟩
 have q3:(k == 3)=false:=by rw[beq_eq_false_iff_ne];exact c3
 by_cases c4:k=4
 case pos =>
  rw[if_neg c1,if_neg c2,if_neg c3,if_pos c4];have LL:=L4;clear EL L1 L2 L3 L4 L5 L6;subst c4;generalize lnI ns ds p t=res at *;go_enter Tryz.func164,Tryz.ntmps164;go_wp2_with fail;rw[<- hW];clear hW;refine(LL.o _ BW.o).mono ?_;rintro e w1 ⟨v1,rfl,hr1,hb1⟩;have R1:=zaa (hr1.wide BW.o.size zL);have B1:=zaa (zab BW.o hb1 BW.o.size);obtain⟨-,aL,cL,hvL,-⟩:=hr1.rd;subst hvL;clear hr1 hb1;go_wp2;go_ret2;exact⟨_,rfl,R1.o,B1.o⟩
 have q4:(k == 4)=false:=by rw[beq_eq_false_iff_ne];exact c4
 by_cases c5:k=5
 case pos =>
  rw[if_neg c1,if_neg c2,if_neg c3,if_neg c4,if_pos c5];have LL:=L5;clear EL L1 L2 L3 L4 L5 L6;subst c5;generalize rnI ns ds p t=res at *;go_enter Tryz.func164,Tryz.ntmps164;go_wp2_with fail;rw[<- hW];clear hW;refine(LL.o _ BW.o).mono ?_;rintro e w1 ⟨v1,rfl,hr1,hb1⟩;have R1:=zaa (hr1.wide BW.o.size zL);have B1:=zaa (zab BW.o hb1 BW.o.size);obtain⟨-,aL,cL,hvL,-⟩:=hr1.rd;subst hvL;clear hr1 hb1;go_wp2;go_ret2;exact⟨_,rfl,R1.o,B1.o⟩
 have q5:(k == 5)=false:=by rw[beq_eq_false_iff_ne];exact c5
 rw[if_neg c1,if_neg c2,if_neg c3,if_neg c4,if_neg c5];have LL:=L6;clear EL L1 L2 L3 L4 L5 L6;generalize cuI ns ds p g=res at *;go_enter Tryz.func164,Tryz.ntmps164;go_wp2_with fail;rw[<- hW];clear hW;refine(LL.o _ BW.o).mono ?_;rintro e w1 ⟨v1,rfl,hr1,hb1⟩;have R1:=zaa (hr1.wide BW.o.size zL);have B1:=zaa (zab BW.o hb1 BW.o.size);obtain⟨-,aL,cL,hvL,-⟩:=hr1.rd;subst hvL;clear hr1 hb1;go_wp2;go_ret2;exact⟨_,rfl,R1.o,B1.o⟩
def Wv(us:List Se):Prop:=∀ u∈us,0<=u.val/\u.val<1099511627776
theorem Wv.app{us vs:List Se}(h:Wv us)(k:Wv vs):Wv (us++vs):=fun u hu=>by
 rcases List.mem_append.1 hu with q | q
 ·exact h u q
 ·exact k u q
theorem Wv.one{a x:Int}(h:0<=x/\x<1099511627776):Wv [⟨a,x⟩]:=fun u hu=>by
 rw[List.mem_singleton.1 hu];exact h
theorem Wv.cons{a x:Int}{us:List Se}(h:0<=x/\x<1099511627776)(k:Wv us):Wv (⟨a,x⟩::us):=fun u hu=>by
 rcases List.mem_cons.1 hu with rfl | q
 ·exact h
 ·exact k u q
theorem yaae{k:Int}{x:Den}(hd:0<=x.dir/\x.dir<=15)(hn:nmB x.name=true\/x.name.size=0)(hc:-1<=x.child/\x.child<=15):Wv (enL k x):=by
 unfold enL;refine Wv.cons (by omega) (Wv.cons ?_ (Wv.one (by omega)))
 rcases hn with q | q
 ·have:=yapo (s:=x.name) (k:=x.name.size) (fun j hj _=>(zes q).2.2 j hj) (zes q).2.1;omega
 ·rw[yapw q];omega
theorem yaoq{i:Int}:Wv (wrL i zhe 8):=fun u hu=>by
 unfold wrL at hu
 rcases List.mem_append.1 hu with q | q
 ·simp only[List.mem_cons,List.not_mem_nil,or_false]at q
  rcases q with rfl|rfl|rfl
  all_goals exact⟨Int.le_refl 0,show(0:Int)<1099511627776 by decide⟩
 ·obtain⟨j,hj,rfl⟩:=List.mem_map.1 q;have hj8:=List.mem_range.1 hj
  have e:zhe.map.getD j 0=0:=by
   rcases(show j=0\/j=1\/j=2\/j=3\/j=4\/j=5\/j=6\/j=7 by omega)with rfl|rfl|rfl|rfl|rfl|rfl|rfl|rfl<;>rfl
  exact⟨by show 0<=zhe.map.getD j 0;rw[e];omega,by show zhe.map.getD j 0<1099511627776;rw[e];omega⟩
theorem yarv{ws:List Ino}{ps:List Den}{s:ByteArray}{kind:Int}{us:List Se}(h:Img ws ps)(hk:1<=kind/\kind<=2)(e:mkI ws ps s kind=(us,0)):Wv us:=by
 unfold mkI at e
 by_cases c:(paI ws ps s).2.2=0
 ·rw[if_pos c]at e;obtain⟨p1,-,p3⟩:=zjp (zbv.2 h) c;unfold mkN at e
  split at e
  ·simp at e
  ·split at e
   ·simp at e
   ·rename_i f1
    split at e
    ·simp at e
    ·obtain⟨rfl,-⟩:=Prod.mk.inj e;obtain⟨i,ei,hi,-⟩:=zwn h f1;rw[ei];unfold mkU;exact Wv.app (Wv.cons (by omega) (Wv.one (by omega))) (yaae p1 (.inl p3) (by show -1<=(i:Int)/\(i:Int)<=15;omega))
 ·rw[if_neg c]at e;exact absurd (Prod.mk.inj e).2 c
theorem yaea{ws:List Ino}{ps:List Den}(h:Img ws ps){i:Nat}(hi:i<16):0<=zeo ws (i:Int)/\zeo ws (i:Int)<=24:=(zcf (h.ok i hi)).2.2.1
theorem yatx{ws:List Ino}{ps:List Den}{s:ByteArray}{us:List Se}(h:Img ws ps)(e:rmI ws ps s=(us,0)):Wv us:=by
 unfold rmI at e
 by_cases c:(paI ws ps s).2.2=0
 ·rw[if_pos c]at e;unfold rmN at e
  cases q:zbj ps (paI ws ps s).1 (paI ws ps s).2.1 with
  | none=>rw[q]at e;simp at e
  | some k =>
   rw[q]at e;simp only at e;obtain⟨hk,i,ei,_,hi,-⟩:=zkt h q;unfold rmC at e
   split at e
   ·simp at e
   ·obtain⟨rfl,-⟩:=Prod.mk.inj e;have l:=yaea h hi;rw[ei];unfold rmU;have f:Wv (enL (k:Int) freeD):=yaae (by decide) (.inr rfl) (by decide)
    split
    ·exact Wv.app f (Wv.one (by omega))
    ·exact Wv.app f yaoq
 ·rw[if_neg c]at e;exact absurd (Prod.mk.inj e).2 c
theorem yati{ws:List Ino}{ps:List Den}{s t:ByteArray}{us:List Se}(h:Img ws ps)(e:lnI ws ps s t=(us,0)):Wv us:=by
 unfold lnI at e
 by_cases c0:(lkI ws ps s).2=0
 ·rw[if_pos c0]at e
  split at e
  ·simp at e
  ·rename_i kk;obtain⟨i,ei,hi,_,_⟩:=zlg h c0 kk;unfold lnP at e
   by_cases c:(paI ws ps t).2.2=0
   ·rw[if_pos c]at e;obtain⟨p1,-,p3⟩:=zjp (zbv.2 h) c;unfold lnN at e
    split at e
    ·simp at e
    ·split at e
     ·simp at e
     ·obtain⟨rfl,-⟩:=Prod.mk.inj e;have l:=yaea h hi;rw[ei];exact Wv.app (yaae p1 (.inl p3) (by show -1<=(i:Int)/\(i:Int)<=15;omega)) (Wv.one (by omega))
   ·rw[if_neg c]at e;exact absurd (Prod.mk.inj e).2 c
 ·rw[if_neg c0]at e;exact absurd (Prod.mk.inj e).2 c0
theorem yatp{ws:List Ino}{ps:List Den}{s t:ByteArray}{us:List Se}(h:Img ws ps)(e:rnI ws ps s t=(us,0)):Wv us:=by
 unfold rnI at e
 by_cases c:(paI ws ps s).2.2=0
 ·rw[if_pos c]at e;unfold rnE at e
  cases q:zbj ps (paI ws ps s).1 (paI ws ps s).2.1 with
  | none=>rw[q]at e;simp at e
  | some k =>
   rw[q]at e;simp only at e;obtain⟨hk,i,ei,_,hi,-⟩:=zkt h q;unfold rnP at e
   by_cases d:(paI ws ps t).2.2=0
   ·rw[if_pos d]at e;obtain⟨p1,-,p3⟩:=zjp (zbv.2 h) d;unfold rnN at e
    split at e
    ·simp at e
    ·split at e
     ·simp at e
     ·obtain⟨rfl,-⟩:=Prod.mk.inj e;rw[ei];exact yaae p1 (.inl p3) (by show -1<=(i:Int)/\(i:Int)<=15;omega)
   ·rw[if_neg d]at e;exact absurd (Prod.mk.inj e).2 d
 ·rw[if_neg c]at e;exact absurd (Prod.mk.inj e).2 c
theorem yaqs{ns:List Ino}{ds:List Den}{s:ByteArray}{g:Int}{us:List Se}(h:Img ns ds)(e:cuI ns ds s g=(us,0)):UpIn us/\us.length<=16/\Wv us:=by
 unfold cuI at e
 by_cases c:(flI ns ds s).2=0
 ·rw[if_pos c]at e;obtain⟨i,hi,ei,-⟩:=zgp h c;rw[ei]at e;unfold cuF at e
  split at e
  ·rename_i d;obtain⟨rfl,-⟩:=Prod.mk.inj e;have l:=zyh (zal ns ((i:Nat):Int).toNat).map (i:Int) g.toNat 8;unfold cuU;refine⟨fun u hu=>?_,by show(cuT _ _ _ _).length+1<=16;omega,Wv.cons (by omega) (fun u hu=>?_)⟩
   ·rcases List.mem_cons.1 hu with rfl | q
    ·exact⟨by show 48<=48+12*(i:Int)+1;omega,by show 48+12*(i:Int)+1<312;omega⟩
    ·exact yard hi (Nat.le_refl 8) u q
   ·unfold cuT at hu;obtain⟨j,-,rfl⟩:=List.mem_map.1 hu;exact⟨Int.le_refl 0,show(0:Int)<1099511627776 by decide⟩
  ·simp at e
 ·rw[if_neg c]at e;exact absurd (Prod.mk.inj e).2 c
theorem yarc{ws:List Ino}{ps:List Den}{s:ByteArray}{kind:Int}:¬ (mkI ws ps s kind).2=0->(mkI ws ps s kind).1=[]:=by
 unfold mkI mkN
 repeat' split
 all_goals simp
theorem yaty{ws:List Ino}{ps:List Den}{s:ByteArray}:¬ (rmI ws ps s).2=0->(rmI ws ps s).1=[]:=by
 unfold rmI rmN rmC
 repeat' split
 all_goals simp
theorem yatj{ws:List Ino}{ps:List Den}{s t:ByteArray}:¬ (lnI ws ps s t).2=0->(lnI ws ps s t).1=[]:=by
 unfold lnI lnP lnN
 repeat' split
 all_goals simp
theorem yatm{ws:List Ino}{ps:List Den}{s t:ByteArray}:¬ (rnI ws ps s t).2=0->(rnI ws ps s t).1=[]:=by
 unfold rnI rnE rnP rnN
 repeat' split
 all_goals simp
theorem yatw{ns:List Ino}{ds:List Den}{s:ByteArray}{g:Int}:¬ (cuI ns ds s g).2=0->(cuI ns ds s g).1=[]:=by
 unfold cuI cuF
 repeat' split
 all_goals simp
theorem yasz{ns:List Ino}{ds:List Den}{k:Int}{p t:ByteArray}{g:Int}:¬ (uoI ns ds k p t g).2=0->(uoI ns ds k p t g).1=[]:=by
 unfold uoI
 split
 ·exact yarc
 split
 ·exact yarc
 split
 ·exact yaty
 split
 ·exact yatj
 split
 ·exact yatm
 ·exact yatw
theorem yanr{ns:List Ino}{ds:List Den}{k:Int}{p t:ByteArray}{g:Int}(h:Img ns ds)(c:(uoI ns ds k p t g).2=0):UpIn (uoI ns ds k p t g).1/\(uoI ns ds k p t g).1.length<=16/\Wv (uoI ns ds k p t g).1:=by
 have E:∀ r:List Se×Int,r.2=0->r=(r.1,0):=fun r q=>by rw[<- q]
 revert c
 unfold uoI
 by_cases c1:k=1
 ·rw[if_pos c1]
  exact fun c=>⟨(yamp h (E _ c)).1,(yamp h (E _ c)).2,yarv h ⟨by decide,by decide⟩ (E _ c)⟩
 rw[if_neg c1]
 by_cases c2:k=2
 ·rw[if_pos c2]
  exact fun c=>⟨(yamp h (E _ c)).1,(yamp h (E _ c)).2,yarv h ⟨by decide,by decide⟩ (E _ c)⟩
 rw[if_neg c2]
 by_cases c3:k=3
 ·rw[if_pos c3]
  exact fun c=>⟨(yasv h (E _ c)).1,(yasv h (E _ c)).2,yatx h (E _ c)⟩
 rw[if_neg c3]
 by_cases c4:k=4
 ·rw[if_pos c4]
  exact fun c=>⟨(yaro h (E _ c)).1,(yaro h (E _ c)).2,yati h (E _ c)⟩
 rw[if_neg c4]
 by_cases c5:k=5
 ·rw[if_pos c5]
  exact fun c=>⟨(yare h (E _ c)).1,(yare h (E _ c)).2,yatp h (E _ c)⟩
 rw[if_neg c5]
 exact fun c=>yaqs h (E _ c)
theorem yasb{ns:List Ino}{ds:List Den}{k:Int}{p t:ByteArray}{g:Int}(h:Img ns ds):(uoI ns ds k p t g).1.length<=64/\∀ j (q:j<(uoI ns ds k p t g).1.length),0<=(uoI ns ds k p t g).1[j].at_/\(uoI ns ds k p t g).1[j].at_<336:=by
 by_cases c:(uoI ns ds k p t g).2=0
 ·obtain⟨a,b,-⟩:=yanr h c;refine⟨by omega,fun j q=>?_⟩;have:=a _ (List.getElem_mem q);omega
 ·have e:=yasz c;exact⟨by rw[e];simp,fun j q=>by rw[e]at q;cases q⟩
end Go.Proofs.YtfagbapgnocjiaaGreatDoor
