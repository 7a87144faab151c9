import Derived.Test.YtdiaiejmoocpmaaGreatDoorZBB
set_option maxRecDepth 100000
set_option maxHeartbeats 8000000
namespace Go.Proofs.YtdiaiejmoocpmaaGreatDoor
open Go.RowKit
def uoI(ns:List Ino)(ds:List Den)(k:Int)(p t:ByteArray)(g:Int):List Se×Int:=if k=1 then mkI ns ds p 1 else if k=2 then mkI ns ds p 2 else if k=3 then rmI ns ds p else if k=4 then lnI ns ds p t else if k=5 then rnI ns ds p t else cuI ns ds p g
theorem zti(v:Value)(ns:List Ino)(ds:List Den)(k:Int)(p t:ByteArray)(g y:Int)(w:World)(h:RdIm w v ns ds)(hi:zck ns ds=true)(hp:p.size<=65536)(ht:t.size<=65536) :
  zC 158 #[v,.agg #[.I k,.string p,.string t,.I g,.I y]] w fun e w'=>zwt w w' e (uoI ns ds k p t g):=by
 have L1:=zaa (fun w1 (hb:zB w w1)=>zsq v ns ds p 1 w1 (h.below hb) hi hp);have L2:=zaa (fun w1 (hb:zB w w1)=>zsq v ns ds p 2 w1 (h.below hb) hi hp);have L3:=zaa (fun w1 (hb:zB w w1)=>zuw v ns ds p w1 (h.below hb) hi hp);have L4:=zaa (fun w1 (hb:zB w w1)=>yabc v ns ds p t w1 (h.below hb) hi ⟨hp,ht⟩);have L5:=zaa (fun w1 (hb:zB w w1)=>zvq v ns ds p t w1 (h.below hb) hi ⟨hp,ht⟩);have L6:=zaa (fun w1 (hb:zB w w1)=>yahy v ns ds p g w1 (h.below hb) hi hp);have EL:=zaa (show uoI ns ds k p t g=if k=1 then mkI ns ds p 1 else if k=2 then mkI ns ds p 2 else if k=3 then rmI ns ds p else if k=4 then lnI ns ds p t else if k=5 then rnI ns ds p t else cuI ns ds p g from rfl);obtain⟨vW,vP,rfl,h1,h2⟩:=h;obtain⟨aW,cW,rfl,_,_⟩:=h1.shape;obtain⟨aP,cP,rfl,_,_⟩:=h2.shape;clear h1 h2 hi hp ht
 obtain⟨W,hW⟩:=zE ((w.alloc (.cells #[.slice aW ns.length cW,.slice aP ds.length cP] 67)).alloc (.cells #[.I k,.string p,.string t,.I g,.I y] 97))
 have BW:Hid (zB w W):=by rw[hW];exact(zR.alloc zL _).alloc (by simp) _
 rw[EL.o]
 by_cases c1:k=1
 case pos =>
  rw[if_pos c1];have LL:=L1;clear EL L1 L2 L3 L4 L5 L6;subst c1;generalize mkI ns ds p 1=res at *;go_enter Tryz.func158,Tryz.ntmps158;go_wp2_with fail;rw[<- hW];clear hW;refine(LL.o _ BW.o).mono ?_;rintro e w1 ⟨v1,rfl,hr1,hb1⟩;have R1:=zaa (hr1.wide BW.o.size zL);have B1:=zaa (zab BW.o hb1 BW.o.size);obtain⟨-,aL,cL,hvL,-⟩:=hr1.rd;subst hvL;clear hr1 hb1;go_wp2;go_ret2;exact⟨_,rfl,R1.o,B1.o⟩
 have q1:(k == 1)=false:=by rw[beq_eq_false_iff_ne];exact c1
 by_cases c2:k=2
 case pos =>
  rw[if_neg c1,if_pos c2];have LL:=L2;clear EL L1 L2 L3 L4 L5 L6;subst c2;generalize mkI ns ds p 2=res at *;go_enter Tryz.func158,Tryz.ntmps158;go_wp2_with fail;rw[<- hW];clear hW;refine(LL.o _ BW.o).mono ?_;rintro e w1 ⟨v1,rfl,hr1,hb1⟩;have R1:=zaa (hr1.wide BW.o.size zL);have B1:=zaa (zab BW.o hb1 BW.o.size);obtain⟨-,aL,cL,hvL,-⟩:=hr1.rd;subst hvL;clear hr1 hb1;go_wp2;go_ret2;exact⟨_,rfl,R1.o,B1.o⟩
 have q2:(k == 2)=false:=by rw[beq_eq_false_iff_ne];exact c2
 by_cases c3:k=3
 case pos =>
  rw[if_neg c1,if_neg c2,if_pos c3];have LL:=L3;clear EL L1 L2 L3 L4 L5 L6;subst c3;generalize rmI ns ds p=res at *;go_enter Tryz.func158,Tryz.ntmps158;go_wp2_with fail;rw[<- hW];clear hW;refine(LL.o _ BW.o).mono ?_;rintro e w1 ⟨v1,rfl,hr1,hb1⟩;have R1:=zaa (hr1.wide BW.o.size zL);have B1:=zaa (zab BW.o hb1 BW.o.size);obtain⟨-,aL,cL,hvL,-⟩:=hr1.rd;subst hvL;clear hr1 hb1;go_wp2;go_ret2;exact⟨_,rfl,R1.o,B1.o⟩
 have q3:(k == 3)=false:=by rw[beq_eq_false_iff_ne];exact c3
 by_cases c4:k=4
 case pos =>
  rw[if_neg c1,if_neg c2,if_neg c3,if_pos c4];have LL:=L4;clear EL L1 L2 L3 L4 L5 L6;subst c4;generalize lnI ns ds p t=res at *;go_enter Tryz.func158,Tryz.ntmps158;go_wp2_with fail;rw[<- hW];clear hW;refine(LL.o _ BW.o).mono ?_;rintro e w1 ⟨v1,rfl,hr1,hb1⟩;have R1:=zaa (hr1.wide BW.o.size zL);have B1:=zaa (zab BW.o hb1 BW.o.size);obtain⟨-,aL,cL,hvL,-⟩:=hr1.rd;subst hvL;clear hr1 hb1;go_wp2;go_ret2;exact⟨_,rfl,R1.o,B1.o⟩
 have q4:(k == 4)=false:=by rw[beq_eq_false_iff_ne];exact c4
 by_cases c5:k=5
 case pos =>
  rw[if_neg c1,if_neg c2,if_neg c3,if_neg c4,if_pos c5];have LL:=L5;clear EL L1 L2 L3 L4 L5 L6;subst c5;generalize rnI ns ds p t=res at *;go_enter Tryz.func158,Tryz.ntmps158;go_wp2_with fail;rw[<- hW];clear hW;refine(LL.o _ BW.o).mono ?_;rintro e w1 ⟨v1,rfl,hr1,hb1⟩;have R1:=zaa (hr1.wide BW.o.size zL);have B1:=zaa (zab BW.o hb1 BW.o.size);obtain⟨-,aL,cL,hvL,-⟩:=hr1.rd;subst hvL;clear hr1 hb1;go_wp2;go_ret2;exact⟨_,rfl,R1.o,B1.o⟩
 have q5:(k == 5)=false:=by rw[beq_eq_false_iff_ne];exact c5
 rw[if_neg c1,if_neg c2,if_neg c3,if_neg c4,if_neg c5];have LL:=L6;clear EL L1 L2 L3 L4 L5 L6;generalize cuI ns ds p g=res at *;go_enter Tryz.func158,Tryz.ntmps158;go_wp2_with fail;rw[<- hW];clear hW;refine(LL.o _ BW.o).mono ?_;rintro e w1 ⟨v1,rfl,hr1,hb1⟩;have R1:=zaa (hr1.wide BW.o.size zL);have B1:=zaa (zab BW.o hb1 BW.o.size);obtain⟨-,aL,cL,hvL,-⟩:=hr1.rd;subst hvL;clear hr1 hb1;go_wp2;go_ret2;exact⟨_,rfl,R1.o,B1.o⟩
def Wv(us:List Se):Prop:=∀ u∈us,0<=u.val/\u.val<1099511627776
theorem Wv.app{us vs:List Se}(h:Wv us)(k:Wv vs):Wv (us++vs):=fun u hu=>by
 rcases List.mem_append.1 hu with q | q
 ·exact h u q
 ·exact k u q
theorem Wv.one{a x:Int}(h:0<=x/\x<1099511627776):Wv [⟨a,x⟩]:=fun u hu=>by
 rw[List.mem_singleton.1 hu];exact h
theorem Wv.cons{a x:Int}{us:List Se}(h:0<=x/\x<1099511627776)(k:Wv us):Wv (⟨a,x⟩::us):=fun u hu=>by
 rcases List.mem_cons.1 hu with rfl | q
 ·exact h
 ·exact k u q
theorem yaeh{k:Int}{x:Den}(hd:0<=x.dir/\x.dir<=15)(hn:nmB x.name=true\/x.name.size=0)(hc:-1<=x.child/\x.child<=15):Wv (enL k x):=by
 unfold enL;refine Wv.cons (by omega) (Wv.cons ?_ (Wv.one (by omega)))
 rcases hn with q | q
 ·have:=yaxe (s:=x.name) (k:=x.name.size) (fun j hj _=>(zfx q).2.2 j hj) (zfx q).2.1;omega
 ·rw[yaxi q];omega
theorem yawc{i:Int}:Wv (wrL i zcf 8):=fun u hu=>by
 unfold wrL at hu
 rcases List.mem_append.1 hu with q | q
 ·simp only[List.mem_cons,List.not_mem_nil,or_false]at q
  rcases q with rfl|rfl|rfl
  all_goals exact⟨Int.le_refl 0,show(0:Int)<1099511627776 by decide⟩
 ·obtain⟨j,hj,rfl⟩:=List.mem_map.1 q;have hj8:=List.mem_range.1 hj
  have e:zcf.map.getD j 0=0:=by
   rcases(show j=0\/j=1\/j=2\/j=3\/j=4\/j=5\/j=6\/j=7 by omega)with rfl|rfl|rfl|rfl|rfl|rfl|rfl|rfl<;>rfl
  exact⟨by show 0<=zcf.map.getD j 0;rw[e];omega,by show zcf.map.getD j 0<1099511627776;rw[e];omega⟩
theorem yazw{ws:List Ino}{ps:List Den}{s:ByteArray}{kind:Int}{us:List Se}(h:Img ws ps)(hk:1<=kind/\kind<=2)(e:mkI ws ps s kind=(us,0)):Wv us:=by
 unfold mkI at e
 by_cases c:(paI ws ps s).2.2=0
 ·rw[if_pos c]at e;obtain⟨p1,-,p3⟩:=zmq (zbu.2 h) c;unfold mkN at e
  split at e
  ·simp at e
  ·split at e
   ·simp at e
   ·rename_i f1
    split at e
    ·simp at e
    ·obtain⟨rfl,-⟩:=Prod.mk.inj e;obtain⟨i,ei,hi,-⟩:=yacy h f1;rw[ei];unfold mkU;exact Wv.app (Wv.cons (by omega) (Wv.one (by omega))) (yaeh p1 (.inl p3) (by show -1<=(i:Int)/\(i:Int)<=15;omega))
 ·rw[if_neg c]at e;exact absurd (Prod.mk.inj e).2 c
theorem yajc{ws:List Ino}{ps:List Den}(h:Img ws ps){i:Nat}(hi:i<16):0<=zft ws (i:Int)/\zft ws (i:Int)<=24:=(zbq (h.ok i hi)).2.2.1
theorem ybck{ws:List Ino}{ps:List Den}{s:ByteArray}{us:List Se}(h:Img ws ps)(e:rmI ws ps s=(us,0)):Wv us:=by
 unfold rmI at e
 by_cases c:(paI ws ps s).2.2=0
 ·rw[if_pos c]at e;unfold rmN at e
  cases q:zcc ps (paI ws ps s).1 (paI ws ps s).2.1 with
  | none=>rw[q]at e;simp at e
  | some k =>
   rw[q]at e;simp only at e;obtain⟨hk,i,ei,_,hi,-⟩:=zoc h q;unfold rmC at e
   split at e
   ·simp at e
   ·obtain⟨rfl,-⟩:=Prod.mk.inj e;have l:=yajc h hi;rw[ei];unfold rmU;have f:Wv (enL (k:Int) freeD):=yaeh (by decide) (.inr rfl) (by decide)
    split
    ·exact Wv.app f (Wv.one (by omega))
    ·exact Wv.app f yawc
 ·rw[if_neg c]at e;exact absurd (Prod.mk.inj e).2 c
theorem ybca{ws:List Ino}{ps:List Den}{s t:ByteArray}{us:List Se}(h:Img ws ps)(e:lnI ws ps s t=(us,0)):Wv us:=by
 unfold lnI at e
 by_cases c0:(lkI ws ps s).2=0
 ·rw[if_pos c0]at e
  split at e
  ·simp at e
  ·rename_i kk;obtain⟨i,ei,hi,_,_⟩:=zmc h c0 kk;unfold lnP at e
   by_cases c:(paI ws ps t).2.2=0
   ·rw[if_pos c]at e;obtain⟨p1,-,p3⟩:=zmq (zbu.2 h) c;unfold lnN at e
    split at e
    ·simp at e
    ·split at e
     ·simp at e
     ·obtain⟨rfl,-⟩:=Prod.mk.inj e;have l:=yajc h hi;rw[ei];exact Wv.app (yaeh p1 (.inl p3) (by show -1<=(i:Int)/\(i:Int)<=15;omega)) (Wv.one (by omega))
   ·rw[if_neg c]at e;exact absurd (Prod.mk.inj e).2 c
 ·rw[if_neg c0]at e;exact absurd (Prod.mk.inj e).2 c0
theorem ybcb{ws:List Ino}{ps:List Den}{s t:ByteArray}{us:List Se}(h:Img ws ps)(e:rnI ws ps s t=(us,0)):Wv us:=by
 unfold rnI at e
 by_cases c:(paI ws ps s).2.2=0
 ·rw[if_pos c]at e;unfold rnE at e
  cases q:zcc ps (paI ws ps s).1 (paI ws ps s).2.1 with
  | none=>rw[q]at e;simp at e
  | some k =>
   rw[q]at e;simp only at e;obtain⟨hk,i,ei,_,hi,-⟩:=zoc h q;unfold rnP at e
   by_cases d:(paI ws ps t).2.2=0
   ·rw[if_pos d]at e;obtain⟨p1,-,p3⟩:=zmq (zbu.2 h) d;unfold rnN at e
    split at e
    ·simp at e
    ·split at e
     ·simp at e
     ·obtain⟨rfl,-⟩:=Prod.mk.inj e;rw[ei];exact yaeh p1 (.inl p3) (by show -1<=(i:Int)/\(i:Int)<=15;omega)
   ·rw[if_neg d]at e;exact absurd (Prod.mk.inj e).2 d
 ·rw[if_neg c]at e;exact absurd (Prod.mk.inj e).2 c
theorem yazq{ns:List Ino}{ds:List Den}{s:ByteArray}{g:Int}{us:List Se}(h:Img ns ds)(e:cuI ns ds s g=(us,0)):UpIn us/\us.length<=16/\Wv us:=by
 unfold cuI at e
 by_cases c:(flI ns ds s).2=0
 ·rw[if_pos c]at e;obtain⟨i,hi,ei,-⟩:=zgl h c;rw[ei]at e;unfold cuF at e
  split at e
  ·rename_i d;obtain⟨rfl,-⟩:=Prod.mk.inj e;have l:=yabd (zan ns ((i:Nat):Int).toNat).map (i:Int) g.toNat 8;unfold cuU;refine⟨fun u hu=>?_,by show(cuT _ _ _ _).length+1<=16;omega,Wv.cons (by omega) (fun u hu=>?_)⟩
   ·rcases List.mem_cons.1 hu with rfl | q
    ·exact⟨by show 48<=48+12*(i:Int)+1;omega,by show 48+12*(i:Int)+1<312;omega⟩
    ·exact yazl hi (Nat.le_refl 8) u q
   ·unfold cuT at hu;obtain⟨j,-,rfl⟩:=List.mem_map.1 hu;exact⟨Int.le_refl 0,show(0:Int)<1099511627776 by decide⟩
  ·simp at e
 ·rw[if_neg c]at e;exact absurd (Prod.mk.inj e).2 c
theorem ybaw{ws:List Ino}{ps:List Den}{s:ByteArray}{kind:Int}:¬ (mkI ws ps s kind).2=0->(mkI ws ps s kind).1=[]:=by
 unfold mkI mkN
 repeat' split
 all_goals simp
theorem ybci{ws:List Ino}{ps:List Den}{s:ByteArray}:¬ (rmI ws ps s).2=0->(rmI ws ps s).1=[]:=by
 unfold rmI rmN rmC
 repeat' split
 all_goals simp
theorem ybcm{ws:List Ino}{ps:List Den}{s t:ByteArray}:¬ (lnI ws ps s t).2=0->(lnI ws ps s t).1=[]:=by
 unfold lnI lnP lnN
 repeat' split
 all_goals simp
theorem ybbu{ws:List Ino}{ps:List Den}{s t:ByteArray}:¬ (rnI ws ps s t).2=0->(rnI ws ps s t).1=[]:=by
 unfold rnI rnE rnP rnN
 repeat' split
 all_goals simp
theorem ybbt{ns:List Ino}{ds:List Den}{s:ByteArray}{g:Int}:¬ (cuI ns ds s g).2=0->(cuI ns ds s g).1=[]:=by
 unfold cuI cuF
 repeat' split
 all_goals simp
theorem ybba{ns:List Ino}{ds:List Den}{k:Int}{p t:ByteArray}{g:Int}:¬ (uoI ns ds k p t g).2=0->(uoI ns ds k p t g).1=[]:=by
 unfold uoI
 split
 ·exact ybaw
 split
 ·exact ybaw
 split
 ·exact ybci
 split
 ·exact ybcm
 split
 ·exact ybbu
 ·exact ybbt
theorem yavm{ns:List Ino}{ds:List Den}{k:Int}{p t:ByteArray}{g:Int}(h:Img ns ds)(c:(uoI ns ds k p t g).2=0):UpIn (uoI ns ds k p t g).1/\(uoI ns ds k p t g).1.length<=16/\Wv (uoI ns ds k p t g).1:=by
 have E:∀ r:List Se×Int,r.2=0->r=(r.1,0):=fun r q=>by rw[<- q]
 revert c
 unfold uoI
 by_cases c1:k=1
 ·rw[if_pos c1]
  exact fun c=>⟨(yars h (E _ c)).1,(yars h (E _ c)).2,yazw h ⟨by decide,by decide⟩ (E _ c)⟩
 rw[if_neg c1]
 by_cases c2:k=2
 ·rw[if_pos c2]
  exact fun c=>⟨(yars h (E _ c)).1,(yars h (E _ c)).2,yazw h ⟨by decide,by decide⟩ (E _ c)⟩
 rw[if_neg c2]
 by_cases c3:k=3
 ·rw[if_pos c3]
  exact fun c=>⟨(yazc h (E _ c)).1,(yazc h (E _ c)).2,ybck h (E _ c)⟩
 rw[if_neg c3]
 by_cases c4:k=4
 ·rw[if_pos c4]
  exact fun c=>⟨(ybbi h (E _ c)).1,(ybbi h (E _ c)).2,ybca h (E _ c)⟩
 rw[if_neg c4]
 by_cases c5:k=5
 ·rw[if_pos c5]
  exact fun c=>⟨(yazi h (E _ c)).1,(yazi h (E _ c)).2,ybcb h (E _ c)⟩
 rw[if_neg c5]
 exact fun c=>yazq h (E _ c)
theorem yazt{ns:List Ino}{ds:List Den}{k:Int}{p t:ByteArray}{g:Int}(h:Img ns ds):(uoI ns ds k p t g).1.length<=64/\∀ j (q:j<(uoI ns ds k p t g).1.length),0<=(uoI ns ds k p t g).1[j].at_/\(uoI ns ds k p t g).1[j].at_<336:=by
 by_cases c:(uoI ns ds k p t g).2=0
 ·obtain⟨a,b,-⟩:=yavm h c;refine⟨by omega,fun j q=>?_⟩;have:=a _ (List.getElem_mem q);omega
 ·have e:=ybba c;exact⟨by rw[e];simp,fun j q=>by rw[e]at q;cases q⟩
theorem yacp(ps:List Se):∀ u∈ses ps,u.oneCell'=true:=by
 intro u hu;simp only[ses,List.mem_flatMap,Se.cells]at hu;obtain⟨s,_,hs⟩:=hu;simp at hs
 rcases hs with rfl|rfl<;>rfl
theorem RowBlk.setCell{w:World}{lo hi:Nat}{v:Value}{ws:List Int}{ps:List Se}(h:RowBlk w lo hi v ws ps){a:Addr}(ha:a.block<lo)(u:Value):RowBlk (w.setCell a u) lo hi v ws ps:=by
 obtain⟨vW,vP,rfl,h1,h2⟩:=h;exact⟨vW,vP,rfl,h1.same (fun b hb _=>Below.heap_setCell _ _ _ _ (by omega)),h2.same (fun b hb _=>Below.heap_setCell _ _ _ _ (by omega))⟩
theorem RowBlk.alloc{w:World}{lo hi:Nat}{v:Value}{ws:List Int}{ps:List Se}(h:RowBlk w lo hi v ws ps)(hi1:hi<=w.heap.size)(o:Obj):RowBlk (w.alloc o) lo hi v ws ps :=
 h.below (zR.alloc zL o) hi1
theorem RowBlk.zero(w:World)(lo hi:Nat):RowBlk w lo hi (.agg #[.N,.N]) [] []:=⟨_,_,rfl,RowZ.nil _ _ _,Row.nil _ _ _ _ _⟩
theorem yady(ps:List Se)(s:Se):ses (ps++[s])=ses ps++s.cells:=by simp[ses]
theorem RdE.form{w:World}{v:Value}{ps:List Se}(h:RdE w v ps){n:Nat}(hn:ps.length=n):∃ ao cap,v=.slice ao n cap:=by
 obtain⟨ao,cap,e,_⟩:=h.shape;exact⟨ao,cap,by rw[<- hn];exact e⟩
theorem yawm{ws:List Int}{ps:List Se}(h:zdk ws ps=true):∀ j (hj:j<ps.length),0<=ps[j].at_/\ps[j].at_<32:=fun j hj=>zsm (zni h j hj).1
theorem yayz(w1:World)(a x:Int):Rd (w1.alloc (.cells #[.I a,.I x] 153)) 2 (.slice (some ⟨w1.heap.size,0,none⟩) 1 1) 1 (Se.cells ⟨a,x⟩):=by
 refine⟨rfl,_,_,rfl,⟨Nat.le_refl _,fun e=>by cases e⟩,fun _=>⟨w1.heap.size,0,rfl,by simp,fun j hj=>?_⟩⟩;obtain⟨e0,e1,_,_⟩:=zac (zaf (w:=w1) (o:=.cells #[.I a,.I x] 153) rfl);rw[Nat.zero_add]
 rcases(show j=0\/j=1 from by omega)with rfl|rfl
 ·exact e0
 ·exact e1
def RowBlk3(w:World)(lo hi:Nat)(v:Value)(ws:List Int)(ps:List Se):Prop:=∃ vW vP,v=.agg #[vW,vP]/\Row w 3 1 lo hi vW ws.length (zcl ws)/\Row w 153 2 lo hi vP ps.length (ses ps)
theorem yaib(v:Value)(ws:List Int)(ps:List Se)(w:World)(h:RdBlk w v ws ps)(hw:ws.length<=2147483648)(hp:ps.length<=2147483648) :
  zC 134 #[v] w fun e w'=>∃ v',e=.returned v'/\RowBlk3 w' w.heap.size w'.heap.size v' ws ps/\zB w w':=by
 obtain⟨vW,vP,rfl,h1,h2⟩:=h;have H1:=zaa h1;have H2:=zaa h2;obtain⟨aW,cW,rfl,_⟩:=h1.shape;obtain⟨aP,cP,rfl,_⟩:=h2.shape;clear h1 h2
 have hb0:zB w (((w.alloc (.cells #[.slice aW ws.length cW,.slice aP ps.length cP] 29)).alloc (.cells #[.N,.N] 29)).alloc (.cells #[] 3)):=by
  repeat (refine Below.alloc ?_ (by simp<;>omega) _)
  exact zR
 have ho0:(((w.alloc (.cells #[.slice aW ws.length cW,.slice aP ps.length cP] 29)).alloc (.cells #[.N,.N] 29)).alloc (.cells #[] 3)).ownsRow (w.heap.size+2) 3 1 (.slice (some ⟨w.heap.size+1+1,0,none⟩) 0 0) 0 []:=by
  simpa using World.ownsRow_lit (base:=w.heap.size+2) (e:=3) (size:=1) ((w.alloc (.cells #[.slice aW ws.length cW,.slice aP ps.length cP] 29)).alloc (.cells #[.N,.N] 29)) #[] 0 (by simp) (by simp) rfl
 have HO:=zaa ho0;have HB:=zaa hb0;clear ho0 hb0;go_enter Tryz.func134,Tryz.ntmps134;go_wp2_with (at_builtin;refine zae _ rfl (.tmp 3) (.tmp 5) 23 rfl (w.heap.size+2) 3 (.I 0) 1 8 Tryz.underlying23 zim rfl (by decide) _ 0 [] rfl HO.o _ ws.length (zcl ws) rfl (Rd.below H1.o HB.o) (zeg ws) (by simp[maxLen];omega) (by omega) (by simp) ?_);intro v1 w1 hown1 hgr1
 have hown1:w1.ownsRow (w.heap.size+2) 3 1 v1 ws.length (zcl ws):=by simpa using hown1
 have R1:=zaa (zad hown1);obtain⟨_,a1,c1,rfl,_⟩:=(zad hown1).rd
 have hz1:w.heap.size+3<=w1.heap.size:=by have:=hgr1.size;simp at this;omega
 have V0:=(hgr1.block w.heap.size (by simp<;>omega) (by simp[Value.ownBlock]<;>omega)).trans (zaj (zaj (zaf rfl)));have V1:=(hgr1.block (w.heap.size+1) (by simp<;>omega) (by simp[Value.ownBlock]<;>omega)).trans (zaj (zaf (by simp)));have B1:=HB.o.grown hgr1 (by simp<;>omega) (fun k hk=>by simp[Value.ownBlock]at hk;omega);have V0':=zaj (o:=.cells #[] 153) (zmu V0 (.slice a1 ws.length c1));have V1':=zaj (o:=.cells #[] 153) ((Below.heap_setCell w1 ⟨w.heap.size,0,none⟩ (.slice a1 ws.length c1) (w.heap.size+1) (by simp)).trans V1);obtain⟨x1,x2,x3,x4⟩:=zac V0;obtain⟨x5,x6,x7,x8⟩:=zac V0';have HV:=zaa (And.intro V0' V1');have hB2:=(B1.setCell (p:=⟨w.heap.size,0,none⟩) zL (.slice a1 ws.length c1)).alloc (by simp;omega) (.cells #[] 153)
 have ho2:((w1.setCell ⟨w.heap.size,0,none⟩ (.slice a1 ws.length c1)).alloc (.cells #[] 153)).ownsRow w1.heap.size 153 2 (.slice (some ⟨w1.heap.size,0,none⟩) 0 0) 0 []:=by
  simpa using World.ownsRow_lit (base:=w1.heap.size) (e:=153) (size:=2) (w1.setCell ⟨w.heap.size,0,none⟩ (.slice a1 ws.length c1)) #[] 0 (by simp) (by simp) rfl
 have HB2:=zaa hB2;have HO2:=zaa ho2;clear hown1 hgr1 V0 V1 B1 V0' V1' hB2 ho2;go_wp2_with (at_builtin;refine zae _ rfl (.tmp 8) (.tmp 10) 27 rfl w1.heap.size 153 (.agg #[.I 0,.I 0]) 2 16 Tryz.underlying27 zqn rfl (by decide) _ 0 [] rfl HO2.o _ ps.length (ses ps) rfl (Rd.below H2.o HB2.o) (yacp ps) (by simp[maxLen];omega) (by omega) (by simp) ?_);intro v2 w2 hown2 hgr2
 have hown2:w2.ownsRow w1.heap.size 153 2 v2 ps.length (ses ps):=by simpa using hown2
 have R2:=zaa (zad hown2);obtain⟨_,a2,c2,rfl,_⟩:=(zad hown2).rd
 have hz2:w1.heap.size+1<=w2.heap.size:=by have:=hgr2.size;simp at this;omega
 have V0:=(hgr2.block w.heap.size (by simp<;>omega) (by simp[Value.ownBlock];omega)).trans HV.o.1;have V1:=(hgr2.block (w.heap.size+1) (by simp<;>omega) (by simp[Value.ownBlock];omega)).trans HV.o.2;have B2:=zaa (HB2.o.grown hgr2 (by simp<;>omega) (fun k hk=>by simp[Value.ownBlock]at hk;omega))
 have K2:Hid (∀ b,w.heap.size+2<=b->b<w1.heap.size->w2.heap[b]?=w1.heap[b]?):=by
  intro b h1 h2;rw[hgr2.block b (by simp<;>omega) (by simp[Value.ownBlock];omega),zfw,if_neg (by simp;omega),Below.heap_setCell _ _ _ _ (by simp only;omega)]
 obtain⟨z1,z2,z3,z4⟩:=zac V0;obtain⟨t1,t2,t3,t4⟩:=zac V1;clear hown2 hgr2 V0 V1;go_wp2;refine bodyPost_ret (v:=.agg #[.slice a1 ws.length c1,.slice a2 ps.length c2]) (by simp[results,Tryz.results134,go_sem,t1,t2]) rfl ?_;refine⟨_,rfl,⟨_,_,rfl,(R1.o.same fun b h1 h2=>?_).wide (by omega) (by simp;omega),(R2.o.same fun b h1 h2=>?_).wide (by omega) (by simp)⟩,?_⟩
 ·rw[Below.heap_setCell _ _ _ _ (by simp only;omega),Below.heap_setCell _ _ _ _ (by simp only;omega),Below.heap_setCell _ _ _ _ (by simp only;omega),K2.o b h1 h2]
 ·rw[Below.heap_setCell _ _ _ _ (by simp only;omega),Below.heap_setCell _ _ _ _ (by simp only;omega),Below.heap_setCell _ _ _ _ (by simp only;omega)]
 ·exact((B2.o.setCell (by simp only;omega) _).setCell (by simp only;omega) _).setCell (by simp only;omega) _
theorem ztv(v:Value)(ws:List Int)(ps:List Se)(w:World)(h:RdBlk w v ws ps)(hw:ws.length<=2147483648)(hp:ps.length<=2147483648) :
  zC 134 #[v] w fun e w'=>∃ v',e=.returned v'/\RowBlk w' w.heap.size w'.heap.size v' ws ps/\zB w w' :=
 (yaib v ws ps w h hw hp).mono fun _ _ ⟨v',he,⟨vW,vP,hv,h1,h2⟩,hb⟩=>⟨v',he,⟨vW,vP,hv,h1.z,h2⟩,hb⟩
def zeu(ws:List Int)(ps:List Se)(at_ v:Int):Int:=if zmh ws ps at_=0 then if zat v=false then 4 else if ps.length=400 then 7 else 0 else zmh ws ps at_
def zdm(ws:List Int)(ps:List Se)(at_ v:Int):List Int:=if zeu ws ps at_ v=0\/zeu ws ps at_ v=7 then ws else[]
def zdn(ws:List Int)(ps:List Se)(at_ v:Int):List Se:=if zeu ws ps at_ v=0 then ps++[⟨at_,v⟩]else if zeu ws ps at_ v=7 then ps else[]
theorem zla(ws:List Int)(ps:List Se)(at_ v:Int) :
  ((zmh ws ps at_=1\/zmh ws ps at_=14)/\zeu ws ps at_ v=zmh ws ps at_/\zdm ws ps at_ v=[]/\zdn ws ps at_ v=[]) \/
  (zmh ws ps at_=0/\zat v=false/\zeu ws ps at_ v=4/\zdm ws ps at_ v=[]/\zdn ws ps at_ v=[]) \/
  (zmh ws ps at_=0/\zat v=true/\ps.length=400/\zeu ws ps at_ v=7/\zdm ws ps at_ v=ws/\zdn ws ps at_ v=ps) \/
  (zmh ws ps at_=0/\zat v=true/\¬ ps.length=400/\zeu ws ps at_ v=0/\zdm ws ps at_ v=ws/\zdn ws ps at_ v=ps++[⟨at_,v⟩]):=by
 rcases zug ws ps at_ with hc | ⟨hc,_⟩
 ·left
  have e:zeu ws ps at_ v=zmh ws ps at_:=by unfold zeu;rw[if_neg (by omega)]
  refine⟨hc,e,?_,?_⟩
  ·unfold zdm;rw[e,if_neg (by omega)]
  ·unfold zdn;rw[e,if_neg (by omega),if_neg (by omega)]
 ·right
  by_cases c1:zat v=true
  ·right
   by_cases c2:ps.length=400
   ·have e:zeu ws ps at_ v=7:=by unfold zeu;rw[if_pos hc,if_neg (by rw[c1];simp),if_pos c2]
    refine .inl ⟨hc,c1,c2,e,?_,?_⟩
    ·unfold zdm;rw[e,if_pos (.inr rfl)]
    ·unfold zdn;rw[e,if_neg (by decide),if_pos rfl]
   ·have e:zeu ws ps at_ v=0:=by unfold zeu;rw[if_pos hc,if_neg (by rw[c1];simp),if_neg c2]
    refine .inr ⟨hc,c1,c2,e,?_,?_⟩
    ·unfold zdm;rw[e,if_pos (.inl rfl)]
    ·unfold zdn;rw[e,if_pos rfl]
  ·have c1':zat v=false:=by simpa using c1
   have e:zeu ws ps at_ v=4:=by unfold zeu;rw[if_pos hc,if_pos c1']
   refine .inl ⟨hc,c1',e,?_,?_⟩
   ·unfold zdm;rw[e,if_neg (by decide)]
   ·unfold zdn;rw[e,if_neg (by decide),if_neg (by decide)]
theorem zyw(vW vP:Value)(ws:List Int)(ps:List Se)(at_ x:Int)(w:World)(h:RdBlk w (.agg #[vW,vP]) ws ps)(hp:ps.length<=1048576) :
  zC 165 #[.agg #[vW,vP],.I at_,.I x] w fun e w'=>∃ vP',e=.returned (.agg #[vW,vP'])/\RdBlk w' (.agg #[vW,vP']) ws (ps++[⟨at_,x⟩])/\(∀ k,vP'.ownBlock=some k->w.heap.size<=k)/\zB w w':=by
 obtain⟨_,_,e0,h1,h2⟩:=h
 cases e0
 have H1:=zaa h1;have H2:=zaa h2;obtain⟨aW,cW,rfl,_⟩:=h1.shape;obtain⟨aP,cP,rfl,_⟩:=h2.shape;clear h1 h2
 have hb0:zB w (((w.alloc (.cells #[.slice aW ws.length cW,.slice aP ps.length cP] 29)).alloc (.cells #[.N,.N] 29)).alloc (.cells #[] 153)):=by
  repeat (refine Below.alloc ?_ (by simp<;>omega) _)
  exact zR
 have ho0:(((w.alloc (.cells #[.slice aW ws.length cW,.slice aP ps.length cP] 29)).alloc (.cells #[.N,.N] 29)).alloc (.cells #[] 153)).ownsRow (w.heap.size+2) 153 2 (.slice (some ⟨w.heap.size+1+1,0,none⟩) 0 0) 0 []:=by
  simpa using World.ownsRow_lit (base:=w.heap.size+2) (e:=153) (size:=2) ((w.alloc (.cells #[.slice aW ws.length cW,.slice aP ps.length cP] 29)).alloc (.cells #[.N,.N] 29)) #[] 0 (by simp) (by simp) rfl
 have HO:=zaa ho0;have HB:=zaa hb0;clear ho0 hb0;go_enter Tryz.func165,Tryz.ntmps165;go_wp2_with (at_builtin;refine zae _ rfl (.tmp 7) (.tmp 9) 27 rfl (w.heap.size+2) 153 (.agg #[.I 0,.I 0]) 2 16 Tryz.underlying27 zqn rfl (by decide) _ 0 [] rfl HO.o _ ps.length (ses ps) rfl (Rd.below H2.o HB.o) (yacp ps) (by simp[maxLen];omega) (by omega) (by simp) ?_);intro v1 w1 hown1 hgr1
 have hown1:w1.ownsRow (w.heap.size+2) 153 2 v1 ps.length (ses ps):=by simpa using hown1
 have hz1:w.heap.size+3<=w1.heap.size:=by have:=hgr1.size;simp at this;omega
 have V0:=(hgr1.block w.heap.size (by simp<;>omega) (by simp[Value.ownBlock]<;>omega)).trans (zaj (zaj (zaf rfl)));have V1:=(hgr1.block (w.heap.size+1) (by simp<;>omega) (by simp[Value.ownBlock]<;>omega)).trans (zaj (zaf (by simp)));have B1:=HB.o.grown hgr1 (by simp<;>omega) (fun k hk=>by simp[Value.ownBlock]at hk;omega);have hB2:=B1.alloc (by omega) (.cells #[.I at_,.I x] 153);have V0':=zaj (o:=.cells #[.I at_,.I x] 153) V0;have V1':=zaj (o:=.cells #[.I at_,.I x] 153) V1;have ho2:=hown1.alloc (.cells #[.I at_,.I x] 153);have hr2:=yayz w1 at_ x;have HV:=zaa (And.intro V0' V1');have HB2:=zaa hB2;have HO2:=zaa ho2;have HR2:=zaa hr2;clear hown1 hgr1 V0 V1 B1 V0' V1' hB2 ho2 hr2;go_wp2_with (at_builtin;refine zae _ rfl (.tmp 10) (.tmp 14) 27 rfl (w.heap.size+2) 153 (.agg #[.I 0,.I 0]) 2 16 Tryz.underlying27 zqn rfl (by decide) _ ps.length (ses ps) rfl HO2.o _ 1 (Se.cells ⟨at_,x⟩) rfl HR2.o (fun u hu=>by simp[Se.cells]at hu;rcases hu with rfl|rfl<;>rfl) (by simp[maxLen];omega) (by omega) (by simp;omega) ?_);intro v2 w2 hown2 hgr2
 have hr3:RdE w2 v2 (ps++[⟨at_,x⟩]):=by
  have:=(zad hown2).rd;unfold RdE;rw[yady,List.length_append];exact this
 have L3:=zaa (fun k hk=>(hown2.lt k hk).1);have R3:Hid (RdE w2 v2 (ps++[⟨at_,x⟩])):=hr3;obtain⟨_,a2,c2,e2,_⟩:=hr3;simp only[List.length_append,List.length_singleton]at e2;subst e2
 have hz2:w1.heap.size+1<=w2.heap.size:=by have:=hgr2.size;simp at this;omega
 have hne:∀ b,b<w.heap.size+2->¬ some b=Value.ownBlock v1:=by
  intro b hb e;have:=(HO2.o.lt b e.symm).1;omega
 have V0:=(hgr2.block w.heap.size (by simp<;>omega) (hne _ (by omega))).trans HV.o.1;have V1:=(hgr2.block (w.heap.size+1) (by simp<;>omega) (hne _ (by omega))).trans HV.o.2;have B2:=zaa (HB2.o.grown hgr2 (by simp<;>omega) (fun k hk=>by have:=(HO2.o.lt k hk).1;omega));obtain⟨z1,z2,z3,z4⟩:=zac V0;obtain⟨t1,t2,t3,t4⟩:=zac V1;clear hown2 hgr2 V0 V1;go_wp2;refine bodyPost_ret (v:=.agg #[.slice aW ws.length cW,.slice a2 (ps.length+1) c2]) (by simp[results,Tryz.results165,go_sem,t1,t2]) rfl ?_;have B3:=((B2.o.setCell (p:=⟨w.heap.size,1,none⟩) zL (.slice a2 (ps.length+1) c2)).setCell (p:=⟨w.heap.size+1,0,none⟩) (by simp only;omega) (.slice aW ws.length cW)).setCell (p:=⟨w.heap.size+1,1,none⟩) (by simp only;omega) (.slice a2 (ps.length+1) c2);refine⟨_,rfl,⟨_,_,rfl,Rd.below H1.o B3,Rd.same R3.o (by simp) (fun b _ hb=>?_)⟩,fun b hb=>by have:=L3.o b hb;omega,B3⟩;have:=L3.o b hb;rw[Below.heap_setCell _ _ _ _ (by simp only;omega),Below.heap_setCell _ _ _ _ (by simp only;omega),Below.heap_setCell _ _ _ _ (by simp only;omega)]
theorem zzp(v:Value)(ws:List Int)(ps:List Se)(at_ x:Int)(w:World)(h:RdBlk w v ws ps)(hp:ps.length<=1048576) :
  zC 165 #[v,.I at_,.I x] w fun e w'=>∃ v',e=.returned v'/\RdBlk w' v' ws (ps++[⟨at_,x⟩])/\zB w w':=by
 obtain⟨vW,vP,rfl,h1,h2⟩:=h
 exact(zyw vW vP ws ps at_ x w ⟨_,_,rfl,h1,h2⟩ hp).mono fun _ _ ⟨vP',he,hr,_,hb⟩=>⟨_,he,hr,hb⟩
def zua(ws:List Int)(ps:List Se):List Int:=ps.foldl (fun acc p=>acc.set p.at_.toNat p.val) ws
theorem yaai(ws:List Int)(ps:List Se)(p:Se):zua ws (ps++[p])=(zua ws ps).set p.at_.toNat p.val:=by simp[zua]
theorem zjx(ws:List Int):∀ ps:List Se,(zua ws ps).length=ws.length:=by
 intro ps;unfold zua
 induction ps generalizing ws with
 | nil=>rfl
 | cons p ps ih=>rw[List.foldl_cons,ih];simp
def barC(ws:List Int)(ps:List Se):Int:=if zdk ws ps=true then 0 else 1
def zkc(ws:List Int)(ps:List Se):List Int:=if zdk ws ps=true then zua ws ps else[]
theorem yayj{ws:List Int}{ps:List Se}(h:zdk ws ps=false):barC ws ps=1/\zkc ws ps=[]:=by
 unfold barC zkc;rw[h];exact⟨rfl,rfl⟩
theorem ybau{ws:List Int}{ps:List Se}(h:zdk ws ps=true):barC ws ps=0/\zkc ws ps=zua ws ps:=by
 unfold barC zkc;rw[h];exact⟨rfl,rfl⟩
structure BarInv(w wr:World)(eZ:TypeId)(ws:List Int)(ps:List Se)(lo hi:Nat)(vW vP:Value)(m:Nat):Prop where
 words:Row wr eZ 1 lo hi vW ws.length (zcl (zua ws (ps.take m)))
 pend:Row wr 153 2 lo hi vP ps.length (ses ps)
 box:wr.heap[w.heap.size]?=some (.cells #[vW,vP] 29 (0,0))
 res:wr.heap[w.heap.size+1]?=some (.cells #[.N,.N] 29 (0,0))
 below:zB w wr
 size:hi<=wr.heap.size
theorem BarInv.hit{w wr:World}{eZ:TypeId}{ws:List Int}{ps:List Se}{lo hi:Nat}{b n cap:Nat}{vP:Value}{m:Nat}(h:BarInv w wr eZ ws ps lo hi (.slice (some ⟨b,0,none⟩) n cap) vP m)(he:eZ≠153)(hm:m<ps.length)(hlo:w.heap.size+2<=lo)(hn:n=ws.length) :
  BarInv w (wr.setCell ⟨b,ps[m].at_.toNat,none⟩ (.I ps[m].val)) eZ ws ps lo hi (.slice (some ⟨b,0,none⟩) n cap) vP (m+1):=by
 subst hn;obtain⟨h1,h3,h4,h5,h6,h7⟩:=h
 obtain⟨_,hb1,hb2,_⟩:=h1.at
 have e1:zua ws (ps.take (m+1))=(zua ws (ps.take m)).set ps[m].at_.toNat ps[m].val:=by rw[zdb ps m hm,yaai]
 refine⟨?_,?_,?_,?_,?_,?_⟩
 ·rw[e1,<- zic];exact h1.stored _ _
 ·exact h3.apart h1 (Ne.symm he) (World.ownsRow.stored h1.1 _ _).2
 ·rw[Below.heap_setCell _ _ _ _ (by simp only;omega)];exact h4
 ·rw[Below.heap_setCell _ _ _ _ (by simp only;omega)];exact h5
 ·exact h6.setCell (by simp only;omega) _
 ·simpa using h7
theorem BarInv.drew{w wr:World}{eZ:TypeId}{ws:List Int}{ps:List Se}{lo hi:Nat}{vW vP:Value}{m:Nat}(h:BarInv w wr eZ ws ps lo hi vW vP m):BarInv w wr.drew eZ ws ps lo hi vW vP m:=by
 obtain⟨h1,h2,h4,h5,h6,h7⟩:=h;exact⟨h1.same (fun _ _ _=>rfl),h2.same (fun _ _ _=>rfl),h4,h5,h6.drew,h7⟩
theorem zta(v:Value)(ws:List Int)(ps:List Se)(w:World)(h:RdBlk w v ws ps)(hw:ws.length<=1048576)(hp:ps.length<=1048576)(hok:∀ j (h:j<ps.length),0<=ps[j].at_/\ps[j].at_<ws.length) :
  zC 166 #[v] w fun e w'=>∃ v',e=.returned v'/\RowBlk w' w.heap.size w'.heap.size v' (zua ws ps) []/\zB w w':=by
 have HR:=zaa h;obtain⟨vW,vP,rfl,h1,h2⟩:=h;obtain⟨aW,cW,rfl,_⟩:=h1.shape;obtain⟨aP,cP,rfl,_⟩:=h2.shape;have HOK:=zaa hok;clear h1 h2 hok
 have hb0:zB w ((w.alloc (.cells #[.slice aW ws.length cW,.slice aP ps.length cP] 29)).alloc (.cells #[.N,.N] 29)):=by
  repeat (refine Below.alloc ?_ (by simp<;>omega) _)
  exact zR
 go_enter Tryz.func166,Tryz.ntmps166;go_wp2_with fail;refine(ztv _ ws ps _ (HR.o.below hb0) (by omega) (by omega)).mono ?_;rintro e w2 ⟨v2,rfl,hr2,hb2⟩;obtain⟨vW2,vP2,rfl,hI2,hS2⟩:=hr2;obtain⟨aW2,cW2,rfl⟩:=RdI.form hI2.rd rfl;obtain⟨aP2,cP2,rfl⟩:=RdE.form hS2.rd rfl;obtain⟨eZ,heZ,hI2⟩:=hI2;simp only[World.size_alloc]at hI2 hS2;have HE:=zaa heZ
 have hz2:w.heap.size+2<=w2.heap.size:=by have:=hb2.size;simp at this;omega
 have V0:=(hb2.block w.heap.size (by simp<;>omega)).trans (zaj (zaf rfl));have V1:=(hb2.block (w.heap.size+1) (by simp)).trans (zaf (by simp));have B2:=zab hb0 hb2 (by simp<;>omega);obtain⟨x1,x2,x3,x4⟩:=zac V0
 have INV:Hid (BarInv w ((w2.setCell ⟨w.heap.size,0,none⟩ (.slice aW2 ws.length cW2)).setCell ⟨w.heap.size,1,none⟩ (.slice aP2 ps.length cP2)) eZ ws ps (w.heap.size+1+1) w2.heap.size (.slice aW2 ws.length cW2) (.slice aP2 ps.length cP2) 0):=by
  refine⟨?_,?_,?_,?_,?_,?_⟩
  ·refine hI2.same fun b hb1 _=>?_
   rw[Below.heap_setCell _ _ _ _ (by simp only;omega),Below.heap_setCell _ _ _ _ (by simp only;omega)]
  ·refine hS2.same fun b hb1 _=>?_
   rw[Below.heap_setCell _ _ _ _ (by simp only;omega),Below.heap_setCell _ _ _ _ (by simp only;omega)]
  ·exact zmw (zmu V0 _) _
  ·rw[Below.heap_setCell _ _ _ _ (by simp only;omega),Below.heap_setCell _ _ _ _ (by simp only;omega)];exact V1
  ·exact(B2.setCell (by simp only;omega) _).setCell (by simp only;omega) _
  ·simp
 clear hb0 hb2 hI2 hS2 V0 V1 B2 heZ;go_wp2
 go_loopw [3] (fun i wr=>∃ m:Nat,m<=ps.length/\i=.I m/\Hid (BarInv w wr eZ ws ps (w.heap.size+1+1) w2.heap.size (.slice aW2 ws.length cW2) (.slice aP2 ps.length cP2) m)) (fun i _=>ps.length-(intOf i).toNat)
 case atStart=>exact⟨0,by omega,rfl,INV⟩
 case round =>
  obtain⟨m,hm,rfl,I⟩:=hrel;obtain⟨y1,y2,y3,y4⟩:=zac I.o.box
  by_cases hlt:m<ps.length
  ·obtain⟨_,ao',cap',e',_,hc⟩:=I.o.pend.rd
   cases e'
   obtain⟨b,o,rfl,hbl,_⟩:=hc (by omega)
   obtain⟨rfl,_,_,_,hfr,hcl⟩:=I.o.pend.at
   have e0:=(hcl (m*2) (by omega)).trans (zvc _ m hlt);have e1:=(hcl (m*2+1) (by omega)).trans (yalv _ m hlt);obtain⟨q0,q1⟩:=HOK.o m hlt;obtain⟨_,aw',cw',ew',_,hcw⟩:=I.o.words.rd
   cases ew'
   obtain⟨bw,ow,rfl,hblw,_⟩:=hcw (by omega)
   obtain⟨rfl,_,_,_,hfrw,hclw⟩:=I.o.words.at
   have hj:ps[m].at_.toNat<(zua ws (ps.take m)).length:=by rw[zjx];omega
   have g0:=hfrw ps[m].at_.toNat;have g1:=(hclw ps[m].at_.toNat (by omega)).trans (zde _ _ hj);have q1':ps[m].at_<(ws.length:Int):=q1
   have hlt':(m:Int)<(ps.length:Int):=by omega
   have hge:(0:Int)<=(m:Int):=by omega
   clear hc hfr hcl hcw hfrw hclw;go_wp2
   go_region
   all_goals
    go_wp2
    go_roundw
    case rel =>
     refine⟨m+1,by omega,by go_num,?_⟩
     first | exact(I.o.hit HE.o hlt zL rfl).drew | exact I.o.drew.hit HE.o hlt zL rfl
    case measure=>simp[intOf];omega
  ·have e:m=ps.length:=by omega
   subst e;have hsz:=I.o.size;obtain⟨z1,z2,z3,z4⟩:=zac (zaj (o:=.cells #[] 153) I.o.box);obtain⟨t1,t2,t3,t4⟩:=zac (zaj (o:=.cells #[] 153) I.o.res)
   have ho:(wr.alloc (.cells #[] 153)).ownsRow wr.heap.size 153 2 (.slice (some ⟨wr.heap.size,0,none⟩) 0 0) 0 []:=by
    simpa using World.ownsRow_lit (base:=wr.heap.size) (e:=153) (size:=2) wr #[] 0 (by simp) (by simp) rfl
   have HO:=zaa ho;clear ho;go_wp2;have I2:=I.o;refine bodyPost_ret (v:=.agg #[.slice aW2 ws.length cW2,.slice (some ⟨wr.heap.size,0,none⟩) 0 0]) (by simp[results,Tryz.results166,go_sem,t1,t2]) rfl ?_;refine⟨_,rfl,⟨_,_,rfl,⟨eZ,HE.o,?_⟩,?_⟩,(((I2.below.alloc (by omega) _).setCell (by simp only;omega) _).setCell (by simp only;omega) _).setCell (by simp only;omega) _⟩
   ·rw[zjx];have:=I2.words;rw[List.take_length]at this;refine((this.alloc hsz (.cells #[] 153)).same fun b h1 h2=>?_).wide (by omega) (by simp;omega);rw[Below.heap_setCell _ _ _ _ (by simp only;omega),Below.heap_setCell _ _ _ _ (by simp only;omega),Below.heap_setCell _ _ _ _ (by simp only;omega)]
   ·refine((zad HO.o).same fun b h1 h2=>?_).wide (by omega) (by simp);rw[Below.heap_setCell _ _ _ _ (by simp only;omega),Below.heap_setCell _ _ _ _ (by simp only;omega),Below.heap_setCell _ _ _ _ (by simp only;omega)]
end Go.Proofs.YtdiaiejmoocpmaaGreatDoor
