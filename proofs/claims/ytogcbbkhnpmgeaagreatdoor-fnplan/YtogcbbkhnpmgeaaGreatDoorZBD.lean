import Derived.Test.YtogcbbkhnpmgeaaGreatDoorZBC
set_option maxRecDepth 100000
set_option maxHeartbeats 8000000
namespace Go.Proofs.YtogcbbkhnpmgeaaGreatDoor
open Go.RowKit
theorem zwf{i:Nat}(hi:i<16){f:Int}(hf:0<=f/\f<11)(x:Int):UpIn [⟨48+12*(i:Int)+f,x⟩]:=fun u hu=>by
 rw[List.mem_singleton.1 hu];exact⟨by show 48<=48+12*(i:Int)+f;omega,by show 48+12*(i:Int)+f<312;omega⟩
theorem yatj{ws:List Ino}{ps:List Den}{s:ByteArray}{kind:Int}{us:List Se}(h:Img ws ps)(e:mkI ws ps s kind=(us,0)):UpIn us/\us.length<=16:=by
 unfold mkI at e
 by_cases c:(paI ws ps s).2.2=0
 ·rw[if_pos c]at e;unfold mkN at e
  split at e
  ·simp at e
  ·split at e
   ·simp at e
   ·rename_i f1
    split at e
    ·simp at e
    ·rename_i f2;obtain⟨rfl,-⟩:=Prod.mk.inj e;obtain⟨i,ei,hi,-⟩:=yacw h f1;obtain⟨k,ek,hk,-⟩:=zvo h f2;rw[ei,ek];unfold mkU;refine⟨UpIn.app (fun u hu=>?_) (zsn hk _),by simp[enL]⟩
     rcases List.mem_cons.1 hu with rfl | hu
     ·exact⟨by show 48<=48+12*(i:Int);omega,by show 48+12*(i:Int)<312;omega⟩
     ·exact zwf hi (by omega) 1 u hu
 ·rw[if_neg c]at e;exact absurd (Prod.mk.inj e).2 c
theorem ybbd{i:Nat}(hi:i<16)(x:Ino){k:Nat}(hk:k<=8):UpIn (wrL (i:Int) x k):=by
 unfold wrL;refine UpIn.app (fun u hu=>?_) (fun u hu=>?_)
 ·simp only[List.mem_cons,List.not_mem_nil,or_false]at hu
  rcases hu with rfl|rfl|rfl
  ·exact⟨by show 48<=48+12*(i:Int);omega,by show 48+12*(i:Int)<312;omega⟩
  ·exact⟨by show 48<=48+12*(i:Int)+1;omega,by show 48+12*(i:Int)+1<312;omega⟩
  ·exact⟨by show 48<=48+12*(i:Int)+2;omega,by show 48+12*(i:Int)+2<312;omega⟩
 ·obtain⟨j,hj,rfl⟩:=List.mem_map.1 hu;have:=List.mem_range.1 hj;exact⟨by show 48<=48+12*(i:Int)+(3+(j:Int));omega,by show 48+12*(i:Int)+(3+(j:Int))<312;omega⟩
theorem ybck{ws:List Ino}{ps:List Den}{s:ByteArray}{us:List Se}(h:Img ws ps)(e:rmI ws ps s=(us,0)):UpIn us/\us.length<=16:=by
 unfold rmI at e
 by_cases c:(paI ws ps s).2.2=0
 ·rw[if_pos c]at e;unfold rmN at e
  cases q:zbi ps (paI ws ps s).1 (paI ws ps s).2.1 with
  | none=>rw[q]at e;simp at e
  | some k =>
   rw[q]at e;simp only at e;obtain⟨hk,i,ei,_,hi,-⟩:=zoi h q;unfold rmC at e
   split at e
   ·simp at e
   ·obtain⟨rfl,-⟩:=Prod.mk.inj e;rw[ei];unfold rmU
    split
    ·exact⟨UpIn.app (zsn hk _) (zwf hi (by omega) _),by simp[enL]⟩
    ·exact⟨UpIn.app (zsn hk _) (ybbd hi _ zL),by rw[List.length_append,zvg];simp[enL]⟩
 ·rw[if_neg c]at e;exact absurd (Prod.mk.inj e).2 c
theorem ybaq{ws:List Ino}{ps:List Den}{s t:ByteArray}{us:List Se}(h:Img ws ps)(e:lnI ws ps s t=(us,0)):UpIn us/\us.length<=16:=by
 unfold lnI at e
 by_cases c0:(lkI ws ps s).2=0
 ·rw[if_pos c0]at e
  split at e
  ·simp at e
  ·rename_i kk;obtain⟨i,ei,hi,_,_⟩:=zmg h c0 kk;unfold lnP at e
   by_cases c:(paI ws ps t).2.2=0
   ·rw[if_pos c]at e;unfold lnN at e
    split at e
    ·simp at e
    ·split at e
     ·simp at e
     ·rename_i f2;obtain⟨rfl,-⟩:=Prod.mk.inj e;obtain⟨k,ek,hk,-⟩:=zvo h f2;rw[ei,ek];exact⟨UpIn.app (zsn hk _) (zwf hi (by omega) _),by simp[enL]⟩
   ·rw[if_neg c]at e;exact absurd (Prod.mk.inj e).2 c
 ·rw[if_neg c0]at e;exact absurd (Prod.mk.inj e).2 c0
theorem ybcr{ws:List Ino}{ps:List Den}{s t:ByteArray}{us:List Se}(h:Img ws ps)(e:rnI ws ps s t=(us,0)):UpIn us/\us.length<=16:=by
 unfold rnI at e
 by_cases c:(paI ws ps s).2.2=0
 ·rw[if_pos c]at e;unfold rnE at e
  cases q:zbi ps (paI ws ps s).1 (paI ws ps s).2.1 with
  | none=>rw[q]at e;simp at e
  | some k =>
   rw[q]at e;simp only at e;obtain⟨hk,-⟩:=zoi h q;unfold rnP at e
   by_cases d:(paI ws ps t).2.2=0
   ·rw[if_pos d]at e;unfold rnN at e
    split at e
    ·simp at e
    ·split at e
     ·simp at e
     ·obtain⟨rfl,-⟩:=Prod.mk.inj e;exact⟨zsn hk _,by simp[enL]⟩
   ·rw[if_neg d]at e;exact absurd (Prod.mk.inj e).2 d
 ·rw[if_neg c]at e;exact absurd (Prod.mk.inj e).2 c
theorem yatz{ls:List Int}{ns:List Ino}{ds:List Den}(h:Wi ls ns ds)(c0:wdI ls 8=0){us:List Se}(ui:UpIn us/\us.length<=16){ns':List Ino}{ds':List Den}(q:Wi (zdh ls us) ns' ds') :
  ∃ ls',zrs (ls,[]) (zct (zdj us))=(ls',[])/\wdI ls' 8=0/\Wi ls' ns' ds' :=
 ⟨zqg ls us,zzp ls us,zqu h.len c0,yaqf h.len ui.2 ui.1 q⟩
def Wv(us:List Se):Prop:=∀ u∈us,0<=u.val/\u.val<1099511627776
theorem Wv.app{us vs:List Se}(h:Wv us)(k:Wv vs):Wv (us++vs):=fun u hu=>by
 rcases List.mem_append.1 hu with q | q
 ·exact h u q
 ·exact k u q
theorem Wv.one{a x:Int}(h:0<=x/\x<1099511627776):Wv [⟨a,x⟩]:=fun u hu=>by
 rw[List.mem_singleton.1 hu];exact h
theorem Wv.cons{a x:Int}{us:List Se}(h:0<=x/\x<1099511627776)(k:Wv us):Wv (⟨a,x⟩::us):=fun u hu=>by
 rcases List.mem_cons.1 hu with rfl | q
 ·exact h
 ·exact k u q
theorem yafs{k:Int}{x:Den}(hd:0<=x.dir/\x.dir<=15)(hn:nmB x.name=true\/x.name.size=0)(hc:-1<=x.child/\x.child<=15):Wv (enL k x):=by
 unfold enL;refine Wv.cons (by omega) (Wv.cons ?_ (Wv.one (by omega)))
 rcases hn with q | q
 ·have:=yaxz (s:=x.name) (k:=x.name.size) (fun j hj _=>(zda q).2.2 j hj) (zda q).2.1;omega
 ·rw[yamo q];omega
theorem yaxj{i:Int}:Wv (wrL i zbb 8):=fun u hu=>by
 unfold wrL at hu
 rcases List.mem_append.1 hu with q | q
 ·simp only[List.mem_cons,List.not_mem_nil,or_false]at q
  rcases q with rfl|rfl|rfl
  all_goals exact⟨Int.le_refl 0,show(0:Int)<1099511627776 by decide⟩
 ·obtain⟨j,hj,rfl⟩:=List.mem_map.1 q;have hj8:=List.mem_range.1 hj
  have e:zbb.map.getD j 0=0:=by
   rcases(show j=0\/j=1\/j=2\/j=3\/j=4\/j=5\/j=6\/j=7 by omega)with rfl|rfl|rfl|rfl|rfl|rfl|rfl|rfl<;>rfl
  exact⟨by show 0<=zbb.map.getD j 0;rw[e];omega,by show zbb.map.getD j 0<1099511627776;rw[e];omega⟩
theorem ybbo{ws:List Ino}{ps:List Den}{s:ByteArray}{kind:Int}{us:List Se}(h:Img ws ps)(hk:1<=kind/\kind<=2)(e:mkI ws ps s kind=(us,0)):Wv us:=by
 unfold mkI at e
 by_cases c:(paI ws ps s).2.2=0
 ·rw[if_pos c]at e;obtain⟨p1,-,p3⟩:=zgq (zbs.2 h) c;unfold mkN at e
  split at e
  ·simp at e
  ·split at e
   ·simp at e
   ·rename_i f1
    split at e
    ·simp at e
    ·obtain⟨rfl,-⟩:=Prod.mk.inj e;obtain⟨i,ei,hi,-⟩:=yacw h f1;rw[ei];unfold mkU;exact Wv.app (Wv.cons (by omega) (Wv.one (by omega))) (yafs p1 (.inl p3) (by show -1<=(i:Int)/\(i:Int)<=15;omega))
 ·rw[if_neg c]at e;exact absurd (Prod.mk.inj e).2 c
theorem yakf{ws:List Ino}{ps:List Den}(h:Img ws ps){i:Nat}(hi:i<16):0<=zdr ws (i:Int)/\zdr ws (i:Int)<=24:=(zch (h.ok i hi)).2.2.1
theorem ybdx{ws:List Ino}{ps:List Den}{s:ByteArray}{us:List Se}(h:Img ws ps)(e:rmI ws ps s=(us,0)):Wv us:=by
 unfold rmI at e
 by_cases c:(paI ws ps s).2.2=0
 ·rw[if_pos c]at e;unfold rmN at e
  cases q:zbi ps (paI ws ps s).1 (paI ws ps s).2.1 with
  | none=>rw[q]at e;simp at e
  | some k =>
   rw[q]at e;simp only at e;obtain⟨hk,i,ei,_,hi,-⟩:=zoi h q;unfold rmC at e
   split at e
   ·simp at e
   ·obtain⟨rfl,-⟩:=Prod.mk.inj e;have l:=yakf h hi;rw[ei];unfold rmU;have f:Wv (enL (k:Int) freeD):=yafs (by decide) (.inr rfl) (by decide)
    split
    ·exact Wv.app f (Wv.one (by omega))
    ·exact Wv.app f yaxj
 ·rw[if_neg c]at e;exact absurd (Prod.mk.inj e).2 c
theorem ybds{ws:List Ino}{ps:List Den}{s t:ByteArray}{us:List Se}(h:Img ws ps)(e:lnI ws ps s t=(us,0)):Wv us:=by
 unfold lnI at e
 by_cases c0:(lkI ws ps s).2=0
 ·rw[if_pos c0]at e
  split at e
  ·simp at e
  ·rename_i kk;obtain⟨i,ei,hi,_,_⟩:=zmg h c0 kk;unfold lnP at e
   by_cases c:(paI ws ps t).2.2=0
   ·rw[if_pos c]at e;obtain⟨p1,-,p3⟩:=zgq (zbs.2 h) c;unfold lnN at e
    split at e
    ·simp at e
    ·split at e
     ·simp at e
     ·obtain⟨rfl,-⟩:=Prod.mk.inj e;have l:=yakf h hi;rw[ei];exact Wv.app (yafs p1 (.inl p3) (by show -1<=(i:Int)/\(i:Int)<=15;omega)) (Wv.one (by omega))
   ·rw[if_neg c]at e;exact absurd (Prod.mk.inj e).2 c
 ·rw[if_neg c0]at e;exact absurd (Prod.mk.inj e).2 c0
theorem ybec{ws:List Ino}{ps:List Den}{s t:ByteArray}{us:List Se}(h:Img ws ps)(e:rnI ws ps s t=(us,0)):Wv us:=by
 unfold rnI at e
 by_cases c:(paI ws ps s).2.2=0
 ·rw[if_pos c]at e;unfold rnE at e
  cases q:zbi ps (paI ws ps s).1 (paI ws ps s).2.1 with
  | none=>rw[q]at e;simp at e
  | some k =>
   rw[q]at e;simp only at e;obtain⟨hk,i,ei,_,hi,-⟩:=zoi h q;unfold rnP at e
   by_cases d:(paI ws ps t).2.2=0
   ·rw[if_pos d]at e;obtain⟨p1,-,p3⟩:=zgq (zbs.2 h) d;unfold rnN at e
    split at e
    ·simp at e
    ·split at e
     ·simp at e
     ·obtain⟨rfl,-⟩:=Prod.mk.inj e;rw[ei];exact yafs p1 (.inl p3) (by show -1<=(i:Int)/\(i:Int)<=15;omega)
   ·rw[if_neg d]at e;exact absurd (Prod.mk.inj e).2 d
 ·rw[if_neg c]at e;exact absurd (Prod.mk.inj e).2 c
theorem ybao{ns:List Ino}{ds:List Den}{s:ByteArray}{g:Int}{us:List Se}(h:Img ns ds)(e:cuI ns ds s g=(us,0)):UpIn us/\us.length<=16/\Wv us:=by
 unfold cuI at e
 by_cases c:(flI ns ds s).2=0
 ·rw[if_pos c]at e;obtain⟨i,hi,ei,-⟩:=zgm h c;rw[ei]at e;unfold cuF at e
  split at e
  ·rename_i d;obtain⟨rfl,-⟩:=Prod.mk.inj e;have l:=zvk (zan ns ((i:Nat):Int).toNat).map (i:Int) g.toNat 8;unfold cuU;refine⟨fun u hu=>?_,by show(cuT _ _ _ _).length+1<=16;omega,Wv.cons (by omega) (fun u hu=>?_)⟩
   ·rcases List.mem_cons.1 hu with rfl | q
    ·exact⟨by show 48<=48+12*(i:Int)+1;omega,by show 48+12*(i:Int)+1<312;omega⟩
    ·exact ybam hi (Nat.le_refl 8) u q
   ·unfold cuT at hu;obtain⟨j,-,rfl⟩:=List.mem_map.1 hu;exact⟨Int.le_refl 0,show(0:Int)<1099511627776 by decide⟩
  ·simp at e
 ·rw[if_neg c]at e;exact absurd (Prod.mk.inj e).2 c
theorem ybcp{ws:List Ino}{ps:List Den}{s:ByteArray}{kind:Int}:¬ (mkI ws ps s kind).2=0->(mkI ws ps s kind).1=[]:=by
 unfold mkI mkN
 repeat' split
 all_goals simp
theorem ybdl{ws:List Ino}{ps:List Den}{s:ByteArray}:¬ (rmI ws ps s).2=0->(rmI ws ps s).1=[]:=by
 unfold rmI rmN rmC
 repeat' split
 all_goals simp
theorem ybdq{ws:List Ino}{ps:List Den}{s t:ByteArray}:¬ (lnI ws ps s t).2=0->(lnI ws ps s t).1=[]:=by
 unfold lnI lnP lnN
 repeat' split
 all_goals simp
theorem ybdv{ws:List Ino}{ps:List Den}{s t:ByteArray}:¬ (rnI ws ps s t).2=0->(rnI ws ps s t).1=[]:=by
 unfold rnI rnE rnP rnN
 repeat' split
 all_goals simp
theorem ybea{ns:List Ino}{ds:List Den}{s:ByteArray}{g:Int}:¬ (cuI ns ds s g).2=0->(cuI ns ds s g).1=[]:=by
 unfold cuI cuF
 repeat' split
 all_goals simp
theorem yarw{ns:List Ino}{ds:List Den}{k:Int}{p t:ByteArray}{g:Int}:¬ (uoI ns ds k p t g).2=0->(uoI ns ds k p t g).1=[]:=by
 unfold uoI
 split
 ·exact ybcp
 split
 ·exact ybcp
 split
 ·exact ybdl
 split
 ·exact ybdq
 split
 ·exact ybdv
 ·exact ybea
theorem yapp{ns:List Ino}{ds:List Den}{k:Int}{p t:ByteArray}{g:Int}(h:Img ns ds)(c:(uoI ns ds k p t g).2=0):UpIn (uoI ns ds k p t g).1/\(uoI ns ds k p t g).1.length<=16/\Wv (uoI ns ds k p t g).1:=by
 have E:∀ r:List Se×Int,r.2=0->r=(r.1,0):=fun r q=>by rw[<- q]
 revert c
 unfold uoI
 by_cases c1:k=1
 ·rw[if_pos c1]
  exact fun c=>⟨(yatj h (E _ c)).1,(yatj h (E _ c)).2,ybbo h ⟨by decide,by decide⟩ (E _ c)⟩
 rw[if_neg c1]
 by_cases c2:k=2
 ·rw[if_pos c2]
  exact fun c=>⟨(yatj h (E _ c)).1,(yatj h (E _ c)).2,ybbo h ⟨by decide,by decide⟩ (E _ c)⟩
 rw[if_neg c2]
 by_cases c3:k=3
 ·rw[if_pos c3]
  exact fun c=>⟨(ybck h (E _ c)).1,(ybck h (E _ c)).2,ybdx h (E _ c)⟩
 rw[if_neg c3]
 by_cases c4:k=4
 ·rw[if_pos c4]
  exact fun c=>⟨(ybaq h (E _ c)).1,(ybaq h (E _ c)).2,ybds h (E _ c)⟩
 rw[if_neg c4]
 by_cases c5:k=5
 ·rw[if_pos c5]
  exact fun c=>⟨(ybcr h (E _ c)).1,(ybcr h (E _ c)).2,ybec h (E _ c)⟩
 rw[if_neg c5]
 exact fun c=>ybao h (E _ c)
theorem yazf{ns:List Ino}{ds:List Den}{k:Int}{p t:ByteArray}{g:Int}(h:Img ns ds):(uoI ns ds k p t g).1.length<=64/\∀ j (q:j<(uoI ns ds k p t g).1.length),0<=(uoI ns ds k p t g).1[j].at_/\(uoI ns ds k p t g).1[j].at_<336:=by
 by_cases c:(uoI ns ds k p t g).2=0
 ·obtain⟨a,b,-⟩:=yapp h c;refine⟨by omega,fun j q=>?_⟩;have:=a _ (List.getElem_mem q);omega
 ·have e:=yarw c;exact⟨by rw[e];simp,fun j q=>by rw[e]at q;cases q⟩
theorem ybdz{ns:List Ino}{ds:List Den}{k:Int}{p t:ByteArray}{g:Int}(h:Img ns ds)(c:(uoI ns ds k p t g).2=0):jpC (uoI ns ds k p t g).1=0/\jpL (uoI ns ds k p t g).1=zct (zdj (uoI ns ds k p t g).1):=by
 obtain⟨a,b,v⟩:=yapp h c
 have u:upsB (uoI ns ds k p t g).1=true:=decide_eq_true fun j q=>by
  have:=a _ (List.getElem_mem q);exact⟨by omega,v _ (List.getElem_mem q)⟩
 rcases zpm (uoI ns ds k p t g).1 with ⟨c,_⟩ | ⟨_,c,_⟩ | ⟨_,_,c,_⟩ | ⟨_,_,_,c⟩
 ·omega
 ·omega
 ·rw[u]at c;cases c
 ·exact c
def zla(hs:List Int):Bool:=decide (hs.length=128/\∀ k (h:k<hs.length),0<=hs[k]/\hs[k]<=64)
def zxn(n:Nat):List Int:=List.replicate n 1
theorem yamg(n:Nat):zxn (n+1)=zxn n++[1]:=by unfold zxn;rw[List.replicate_succ',]
theorem zwj(n:Nat):(zxn n).length=n:=by simp[zxn]
theorem yajk(w:World):zC 100 #[] w fun e w'=>∃ v',e=.returned v'/\Row w' 3 1 w.heap.size w'.heap.size v' (zxn 128).length (zeg (zxn 128))/\zB w w':=by
 have START:Hid (InI w (w.alloc (.cells #[] 3)) (.slice (some ⟨w.heap.size,0,none⟩) 0 0) (zxn 0)):=⟨World.ownsRow_lit w #[] 0 zL (by simp[maxLen]) (by simp),zR.alloc zL _⟩
 go_enter Tryz.func100,Tryz.ntmps100;go_wp2
 go_loopw [1,2] (fun vL i wr=>∃ m:Nat,m<=128/\i=.I (m:Int)/\Hid (InI w wr vL (zxn m))) (fun _ i _=>128-(intOf i).toNat)
 case atStart=>exact⟨0,by omega,rfl,START⟩
 case round =>
  obtain⟨m,hm,rfl,J⟩:=hrel;clear START
  have m0:(0:Int)<=(m:Int):=by omega
  by_cases hlt:m<128
  ·have m1:(m:Int)<128:=by omega
   have EM:=zaa (yamg m)
   have l2:(zxn m).length<=128:=by rw[zwj];omega
   have JB:Hid (InI w (wr.alloc (.cells #[.I 1] 3)) u1 (zxn m)):=J.o.below (zR.alloc zL _);have RB:=zaa (yafv wr 1);have hzb:=JB.o.z;clear J;go_wp2_with (at_builtin;refine zae _ rfl (.tmp 8) (.tmp 9) 23 rfl w.heap.size 3 (.I 0) 1 8 Tryz.underlying23 zmo rfl (by decide) _ _ _ rfl JB.o.l _ 1 _ rfl RB.o (zvw _) (by first | omega | (simp[maxLen];omega)) (by first | omega | (simp;omega)) hzb ?_);intro vN wN hownN hgrN;have G:=zaa (JB.o.grow 1 hownN hgrN);rw[<- EM.o]at G;clear hownN hgrN JB RB;go_wp2
   go_roundw
   case rel=>exact⟨m+1,by omega,by go_num,G⟩
   case measure=>simp[intOf];omega
  ·obtain rfl:m=128:=by omega
   obtain⟨-,aN,cN,hvN,-⟩:=(zad J.o.l).rd;subst hvN;go_wp2;go_ret;exact⟨_,rfl,zad J.o.l,J.o.b⟩
def pgE(ns:List Ino)(i:Nat):Int:=(zan ns (i/8)).map.getD (i%8) 0
def pkS(ns:List Ino)(hs:List Int)(t:Int)(hot:Bool)(b:Int)(i:Nat):Int:=if pgE ns i=0\/¬ pgE ns i%4=t then b else if b<0\/(hot=true/\hs.getD b.toNat 0<hs.getD i 0)\/(hot=false/\hs.getD i 0<hs.getD b.toNat 0) then(i:Int)else b
def pkN(ns:List Ino)(hs:List Int)(t:Int)(hot:Bool):Nat->Int
 | 0=>-1
 | n+1=>pkS ns hs t hot (pkN ns hs t hot n) n
theorem zyn(ns:List Ino)(hs:List Int)(t:Int)(hot:Bool)(n:Nat):-1<=pkN ns hs t hot n/\pkN ns hs t hot n<(n:Int):=by
 induction n with
 | zero=>exact⟨Int.le_refl (-1),show(-1:Int)<0 by decide⟩
 | succ n ih =>
  have e:pkN ns hs t hot (n+1)=pkS ns hs t hot (pkN ns hs t hot n) n:=rfl;rw[e];unfold pkS
  split
  ·omega
  ·split<;>omega
theorem yaot{ns:List Ino}{ds:List Den}(h:zbg ns ds=true){k:Nat}(hk:k<16)(j:Nat):zer ((zan ns k).map.getD j 0)=true:=by
 have t:=(zfs ((zbs.1 h).ok k hk)).1;rw[List.getD_eq_getElem?_getD]
 rcases Nat.lt_or_ge j (zan ns k).map.length with q | q
 ·rw[List.getElem?_eq_getElem q];exact t _ (List.getElem_mem q)
 ·rw[List.getElem?_eq_none q];exact yaba
def swL(i p e:Int):List Mi:=⟨1,48+12*i+(3+p),e⟩::zbe [48+12*i+(3+p)]
def deS(ns:List Ino)(x:Int):List Mi:=[⟨4,fsI ns,x⟩,⟨5,0,0⟩]
def prS(ns:List Ino)(x:Int):List Mi:=⟨1,312+fpI ns,x⟩::zbe [312+fpI ns]
def deF(ns:List Ino)(e x i p:Int):List Mi×Int:=if e=0\/¬ e%4=1 then([],5)else if fsI ns<0 then([],7) else(deS ns x++swL i p (4*fsI ns+2),0)
def prF(ns:List Ino)(e x i p:Int):List Mi×Int:=if e=0\/¬ e%4=2 then([],5)else if fpI ns<0 then([],7) else(prS ns x++swL i p (4*fpI ns+1),0)
def enI(ns:List Ino)(i p:Int):Int:=(zan ns i.toNat).map.getD p.toNat 0
theorem yabs(i p e:Int):(swL i p e).length<=3:=by
 have:=zbo [48+12*i+(3+p)];unfold swL;simp only[List.length_cons,List.length_nil]at this ⊢;omega
theorem zoh(i p e:Int)(w:World)(hi:0<=i/\i<16)(hp:0<=p/\p<8) :
  zC 163 #[.I i,.I p,.I e] w fun r w'=>∃ v',r=.returned v'/\Row w' 82 3 w.heap.size w'.heap.size v' (swL i p e).length (mis (swL i p e))/\zB w w':=by
 have wp:IntKind.i64.wrap (3+p)=3+p:=by rw[IntKind.wrap_i64];omega
 have EX:=zaa (show swL i p e=[⟨1,48+12*i+(3+p),e⟩]++zbe [48+12*i+(3+p)]from rfl);rw[EX.o]
 have pr:0<=3+p/\3+p<11:=by omega
 have ar:0<=48+12*i+(3+p)/\48+12*i+(3+p)<336:=by omega
 have LN:=zaa (fun w1=>zbh i (3+p) w1 hi pr);have l7:(zbe [48+12*i+(3+p)]).length<=2:=zbo [48+12*i+(3+p)];clear EX;generalize 48+12*i+(3+p)=a at *;have LF:=zaa (fun v w1 h=>zdq v [a] w1 h (by simp) (by intro j h;simp at h;subst h;simpa using ar));generalize zbe [a]=FL at *;go_enter Tryz.func163,Tryz.ntmps163;go_wp2_with fail;refine(LN.o _).mono ?_;rintro e w' ⟨rfl,hw'⟩;subst w';go_wp2_with fail;refine(zdo _ _ _).mono ?_;rintro r w4 ⟨rfl,hb4⟩
 have M4:Hid (MiI w (w4.alloc (.cells #[.I 1,.I a,.I e] 82)) (.slice (some ⟨w4.heap.size,0,none⟩) 1 1) [⟨1,a,e⟩]):=⟨World.ownsRow_lit w4 _ 1 hb4.size (by simp[maxLen]) rfl,hb4.alloc hb4.size _⟩
 have M6:=zaa (M4.o.below (zR.alloc zL (.cells #[.I a] 3)));have R6:=zaa (zln (w4.alloc (.cells #[.I 1,.I a,.I e] 82)) a);simp only[World.size_alloc]at R6;clear hb4 M4;go_wp2_with fail;refine(LF.o _ _ R6.o).mono ?_;rintro r w7 ⟨v7,rfl,hr7,hb7⟩;have M7:=zaa (M6.o.below hb7);have R7:=zaa hr7.rd;have hz7:=M7.o.z;clear hr7 hb7 M6 R6;go_wp2_with (at_builtin;refine zae _ rfl (.tmp 15) (.tmp 18) 32 rfl w.heap.size 82 (.agg #[.I 0,.I 0,.I 0]) 3 24 Tryz.underlying32 zbp rfl (by decide) _ _ _ rfl M7.o.l _ _ _ rfl R7.o (zcj _) (by first | omega | (simp[maxLen];done) | (simp[maxLen];omega)) (by first | omega | (simp;done) | (simp;omega)) hz7 ?_);intro vT wT hownT hgrT;have M:=zaa (M7.o.grow FL hownT hgrT);obtain⟨-,aT,cT,hvT,-⟩:=(zad hownT).rd;subst hvT;clear hownT hgrT M7 R7;go_wp2;go_ret;exact⟨_,rfl,zad M.o.l,M.o.b⟩
def runE(s:List Int×List Se)(l:List Mi):List Int×List Se:=l.foldl (fun s m=>(doE m s.1 s.2,doQ m s.2)) s
theorem zsv(s:List Int×List Se)(l l':List Mi):runE s (l++l')=runE (runE s l) l':=by unfold runE;rw[List.foldl_append]
theorem zjv:∀ (l:List Mi) (s:List Int×List Se),(∀ m∈l,StOK m)->runE s l=s
 | [],s,_=>rfl
 | m::l,s,h=>by
  have k:=(h m List.mem_cons_self).2
  show runE (doE m s.1 s.2,doQ m s.2) l=s
  rw[zjv l _ (fun q hq=>h q (List.mem_cons_of_mem _ hq))];unfold doE doQ;rw[if_neg (by omega),if_neg (by omega),if_neg (by omega)]
theorem ybaa{m:Mi}(h:miB m=true):m.kind=1\/m.kind=2\/m.kind=3\/m.kind=4\/m.kind=5:=by
 have:=(zol m.kind m.at_ m.val).1 h;omega
theorem yaws:∀ (l:List Mi) (ws:List Int) (ps:List St) (es:List Int) (qs:List Se),(∀ m∈l,miB m=true)->ps.length+l.length<=400->qs.length+l.length<=400->mr l ws ps es qs=⟨0,(zrs (ws,ps) l).1,(zrs (ws,ps) l).2,(runE (es,qs) l).1,(runE (es,qs) l).2⟩
 | [],ws,ps,es,qs,_,_,_=>rfl
 | m::l,ws,ps,es,qs,hk,hl,hq=>by
   have h1:=ybaa (hk m List.mem_cons_self);simp only[List.length_cons]at hl hq;have hf:zti m ps qs=false:=decide_eq_false (fun h=>by omega)
   have e:zwk (ws,ps) m=(doW m ws ps,doP m ps):=by
    unfold zwk doW doP
    rcases h1 with h | h | h | h | h
    ·rw[if_pos h,if_pos h,if_neg (by omega)]
    ·rw[if_neg (by omega),if_pos h,if_neg (by omega),if_neg (by omega),if_pos h]
    ·rw[if_neg (by omega),if_neg (by omega),if_pos h,if_pos h,if_neg (by omega),if_neg (by omega),if_pos h]
    ·rw[if_neg (by omega),if_neg (by omega),if_neg (by omega),if_neg (by omega),if_neg (by omega),if_neg (by omega),if_neg (by omega)]
    ·rw[if_neg (by omega),if_neg (by omega),if_neg (by omega),if_neg (by omega),if_neg (by omega),if_neg (by omega),if_neg (by omega)]
   have hp:(doP m ps).length<=ps.length+1:=by
    unfold doP
    split
    ·simp
    ·split
     ·simp
     ·split
      ·exact Nat.le_trans (List.length_filter_le _ _) (by omega)
      ·omega
   have hq':(doQ m qs).length<=qs.length+1:=by
    unfold doQ
    split
    ·simp
    ·split
     ·simp
     ·omega
   rw[zlu,e,show runE (es,qs) (m::l)=runE (doE m es qs,doQ m qs) l from rfl];simp only[mr,hf];exact yaws l _ _ _ _ (fun q hq=>hk q (List.mem_cons_of_mem _ hq)) (by omega) (by omega)
theorem ybbu{us:List Se}(ui:UpIn us)(wv:Wv us):∀ p∈zdj us,(48<=p.at_/\p.at_<336)/\0<=p.val/\p.val<1099511627776:=by
 intro p hp;obtain⟨u,hu,rfl⟩:=List.mem_map.1 (show p∈us.map (fun s=>up s.at_ s.val)from hp);have:=ui u hu;have:=wv u hu;exact⟨⟨by show 48<=u.at_;omega,by show u.at_<336;omega⟩,by show 0<=u.val;omega,by show u.val<_;omega⟩
theorem zws{us:List Se}(ui:UpIn us)(wv:Wv us)(hl:us.length<=16):∀ m∈zct (zdj us),StOK m:=by
 intro m hm;have A:=ybbu ui wv;unfold zct ziw at hm
 split at hm
 ·cases hm
 ·rcases List.mem_append.1 hm with hm | hm
  ·rcases List.mem_append.1 hm with hm | hm
   ·refine yaae (fun p hp=>?_) m hm;have h1:=yanw (zdj us) 0 p hp;have h2:=yaoh (zdj us) 0 A p hp;rw[zbt]at h1;omega
   ·refine yaae (yawi _ ?_) m hm;rw[zbt];omega
  ·rcases List.mem_append.1 hm with hm | hm
   ·exact yaae (fun p hp=>by have:=A p hp;omega) m hm
   ·exact yaae (yawi 0 (by omega)) m hm
structure Idle(ws es:List Int)(ns:List Ino)(ds:List Den):Prop where
 wi:Wi ws ns ds
 c0:wdI ws 8=0
 pm:pmB ws []=true
 bk:zfp es []=true
theorem Idle.img{ws es:List Int}{ns:List Ino}{ds:List Den}(h:Idle ws es ns ds):zbg ns ds=true:=zbs.2 h.wi.img
theorem znu{ws es:List Int}{ns:List Ino}{ds:List Den}(h:Idle ws es ns ds){l:List Mi}{ws':List Int}{ns':List Ino}{ds':List Den}(r:zrs (ws,[]) l=(ws',[]))(c:wdI ws' 8=0)(w:Wi ws' ns' ds')(hm:∀ m∈l,miB m=true)(hl:l.length<=200)(q:(runE (es,[]) l).2=[]) :
  ∃ es',mr l ws [] es []=⟨0,ws',[],es',[]⟩/\Idle ws' es' ns' ds':=by
 have e:=yaws l ws [] es [] hm (by simp;omega) (by simp;omega);rw[r,q]at e;have k:=yazq l ws [] es [] h.pm h.bk hm;rw[e]at k;exact⟨_,e,w,c,k.1,k.2⟩
theorem zyj{ws es:List Int}{ns:List Ino}{ds:List Den}(h:Idle ws es ns ds):∃ ws' es' ns' ds',mr [] ws [] es []=⟨0,ws',[],es',[]⟩/\Idle ws' es' ns' ds':=⟨ws,es,ns,ds,rfl,h⟩
theorem yany{ws es:List Int}{ns:List Ino}{ds:List Den}(h:Idle ws es ns ds){us:List Se}(ui:UpIn us)(hl:us.length<=16)(wv:Wv us){ns':List Ino}{ds':List Den}(q:Wi (zdh ws us) ns' ds') :
  ∃ ws' es' ns' ds',mr (zct (zdj us)) ws [] es []=⟨0,ws',[],es',[]⟩/\Idle ws' es' ns' ds':=by
 obtain⟨ls',r,c,w⟩:=yatz h.wi h.c0 ⟨ui,hl⟩ q;have ok:=zws ui wv hl;have pl:=zjs us;obtain⟨es',e,k⟩:=znu h r c w (fun m hm=>(ok m hm).1) (by omega) (by rw[zjv _ _ ok]);exact⟨ls',es',ns',ds',e,k⟩
theorem yazv(a x:Int):(⟨1,a,x⟩::zbe [a]:List Mi)=seg [up a x]:=rfl
theorem yaki{a x:Int}(ha:0<=a/\a<336)(hx:0<=x/\x<1099511627776):∀ m∈(⟨1,a,x⟩::zbe [a]:List Mi),StOK m:=by
 rw[yazv];refine yaae (fun p hp=>?_);rw[List.mem_singleton.1 hp];exact⟨ha,hx⟩
theorem yaci{x:Int}(h:zbd x=true):0<=x/\x<1099511627776:=of_decide_eq_true h
theorem yaok(a x:Int):(⟨1,a,x⟩::zbe [a]:List Mi).length<=3:=by
 have:=zbo [a];simp only[List.length_cons,List.length_nil]at this ⊢;omega
theorem yawm{k x:Int}(hk:0<=k/\k<32)(hx:0<=x/\x<1099511627776):∀ m∈([⟨4,k,x⟩,⟨5,0,0⟩]:List Mi),miB m=true:=by
 intro m hm
 rcases List.mem_cons.1 hm with rfl | hm
 ·exact(zol _ _ _).2 (.inr (.inr (.inl ⟨rfl,hk,hx⟩)))
 ·rw[List.mem_singleton.1 hm];exact(zol _ _ _).2 (.inr (.inr (.inr ⟨.inr rfl,rfl,rfl⟩)))
theorem yafl(es:List Int)(k x:Int):(runE (es,[]) [⟨4,k,x⟩,⟨5,0,0⟩]).2=[]:=rfl
theorem yajn{ws es:List Int}{ns:List Ino}{ds:List Den}(h:Idle ws es ns ds){s:ByteArray}{page x:Int}(e:(wrI ns ds s page x).2=0) :
  (∃ ws' es' ns' ds',mr (wrI ns ds s page x).1 ws [] es []=⟨0,ws',[],es',[]⟩/\Idle ws' es' ns' ds')/\(∀ m∈(wrI ns ds s page x).1,miB m=true)/\(wrI ns ds s page x).1.length<=200/\0<=page/\page<8:=by
 obtain⟨i,p,ls',hi,hp,ei,ep,r,c,w⟩:=yaun h.wi h.c0 (show wrI ns ds s page x=((wrI ns ds s page x).1,0) by rw[<- e]);subst ep
 have f0:(flI ns ds s).2=0:=by
  unfold wrI at e
  split at e
  ·assumption
  ·assumption
 have form:∃ n:¬ (fpI ns<0/\fsI ns<0),zbd x=true/\(wrI ns ds s (p:Int) x).1=wrS ns x++zct (zdj (wrU (i:Int) (p:Int) (zel ns (i:Int)) (wrE ns))):=by
  unfold wrI at e ⊢;rw[if_pos f0,ei]at e ⊢;unfold wrF at e ⊢
  by_cases d:(0<=(p:Int)/\(p:Int)<8)/\zbd x=true
  ·rw[if_pos d]at e ⊢
   by_cases f:fpI ns<0/\fsI ns<0
   ·rw[if_pos f]at e
    cases e
   ·rw[if_neg f];exact⟨f,d.2,rfl⟩
  ·rw[if_neg d]at e
   cases e
 obtain⟨nf,wx,F⟩:=form;have X:=yaci wx
 have k:=(zgm h.wi.img f0)
 obtain⟨i',hi',ei',k1⟩:=k
 have e':i'=i:=by rw[ei]at ei';omega
 subst e';obtain⟨te,he,new⟩:=yakj nf
 have sz:zel ns (i':Int)=(zan ns i').size:=by unfold zel;rw[Int.toNat_natCast]
 have ww:=zwo h.wi hi k1 hp te he new
 have wv:Wv (wrU (i':Int) (p:Int) (zan ns i').size (wrE ns)):=by
  have:=zeq te;unfold wrU;refine Wv.cons (by omega) ?_
  split
  ·exact Wv.one (by omega)
  ·intro u hu;cases hu
 have ul:(wrU (i':Int) (p:Int) (zan ns i').size (wrE ns)).length<=2:=by unfold wrU;split<;>simp
 have ok2:=zws ww.1 wv (by omega);have pl:=zjs (wrU (i':Int) (p:Int) (zan ns i').size (wrE ns));rw[sz]at F
 have b1:fpI ns<24:=by
  have:=(zdb (fun i=>!zfa (zay (zam ns) 1) (i:Int)) 24).2;unfold fpI;omega
 have b2:fsI ns<32:=by
  have:=(zdb (fun i=>!zfa (zay (zam ns) 2) (i:Int)) 32).2;unfold fsI;omega
 have okS:(∀ m∈wrS ns x,miB m=true)/\(wrS ns x).length<=3/\(runE (es,[]) (wrS ns x)).2=[]:=by
  unfold wrS
  by_cases q:0<=fpI ns
  ·rw[if_pos q];have o:=yaki (a:=312+fpI ns) (x:=x) (by omega) X;exact⟨fun m hm=>(o m hm).1,yaok _ _,by rw[zjv _ _ o]⟩
  ·rw[if_neg q];exact⟨yawm (by omega) X,by simp,yafl _ _ _⟩
 have ALL:∀ m∈(wrI ns ds s (p:Int) x).1,miB m=true:=by
  rw[F];intro m hm
  rcases List.mem_append.1 hm with hm | hm
  ·exact okS.1 m hm
  ·exact(ok2 m hm).1
 have LEN:(wrI ns ds s (p:Int) x).1.length<=200:=by
  rw[F,List.length_append];have:=okS.2.1;omega
 obtain⟨es',e2,k2⟩:=znu h r c w ALL LEN (by
  rw[F,zsv];rw[zjv _ _ ok2]
  exact okS.2.2)
 exact⟨⟨_,_,_,_,e2,k2⟩,ALL,LEN,by omega,by omega⟩
def opB(k:Int)(p t:ByteArray)(g x:Int):Bool:=decide ((1<=k/\k<=10)/\p.size<=65536/\t.size<=65536/\(k=4\/k=5\/t.size=0)/\(k=6\/x=0)/\((6<=k/\k<=8)\/g=0))
theorem yaaq(k:Int)(p t:ByteArray)(g x:Int)(w:World) :
  zC 30 #[.agg #[.I k,.string p,.string t,.I g,.I x]] w fun e w'=>e=.returned (.bool (opB k p t g x))/\zB w w':=by
 have BW:=zaa ((Below.refl w.heap.size w).alloc zL (.cells #[.I k,.string p,.string t,.I g,.I x] 40));have ET:=zaa (zqa t);have NO:=zaa (fun h=>show opB k p t g x=false from decide_eq_false h);have YES:=zaa (fun h=>show opB k p t g x=true from decide_eq_true h)
 obtain⟨W,hW⟩:=zE (w.alloc (.cells #[.I k,.string p,.string t,.I g,.I x] 40))
 rw[<- hW]at BW
 have CB:Hid (W.heap[w.heap.size]?=some (.cells #[.I k,.string p,.string t,.I g,.I x] 40 (0,0))):=by rw[hW];exact zaf rfl
 have x0:W.cell? ⟨w.heap.size,0,none⟩=some (.I k):=by rw[hW];simp[go_sem]
 have x1:W.cell? ⟨w.heap.size,1,none⟩=some (.string p):=by rw[hW];simp[go_sem]
 have x2:W.cell? ⟨w.heap.size,2,none⟩=some (.string t):=by rw[hW];simp[go_sem]
 have x3:W.cell? ⟨w.heap.size,3,none⟩=some (.I g):=by rw[hW];simp[go_sem]
 have x4:W.cell? ⟨w.heap.size,4,none⟩=some (.I x):=by rw[hW];simp[go_sem]
 clear CB
 by_cases c1:1<=k/\k<=10
 case neg =>
  rw[NO.o (fun h=>c1 h.1)];go_enter Tryz.func30,Tryz.ntmps30;go_wp2_with fail;rw[<- hW];clear hW;refine(zdd _ _ _ _ c1).mono ?_;rintro e w' ⟨rfl,hw'⟩;subst w';go_wp2;go_ret;exact⟨rfl,BW.o⟩
 by_cases c2:(65536:Int)<(p.size:Int)
 case pos =>
  rw[NO.o (fun h=>by have:=h.2.1;omega)];go_enter Tryz.func30,Tryz.ntmps30;go_wp2_with fail;rw[<- hW];clear hW;refine(zaw _ _ _ _ c1).mono ?_;rintro e w' ⟨rfl,hw'⟩;subst w';go_wp2;go_ret;exact⟨rfl,BW.o⟩
 by_cases c3:(65536:Int)<(t.size:Int)
 case pos =>
  rw[NO.o (fun h=>by have:=h.2.2.1;omega)];go_enter Tryz.func30,Tryz.ntmps30;go_wp2_with fail;rw[<- hW];clear hW;refine(zaw _ _ _ _ c1).mono ?_;rintro e w' ⟨rfl,hw'⟩;subst w';go_wp2;go_ret;exact⟨rfl,BW.o⟩
 by_cases d4:k=4
 case pos =>
  subst d4
  by_cases c8:x=0
  case neg =>
   rw[NO.o (fun h=>by have:=h.2.2.2.2.1;omega)]
   have q8:(x != 0)=true:=by rw[bne_iff_ne];exact c8
   go_enter Tryz.func30,Tryz.ntmps30;go_wp2_with fail;rw[<- hW];clear hW;refine(zaw _ _ _ _ c1).mono ?_;rintro e w' ⟨rfl,hw'⟩;subst w';go_wp2;go_ret;exact⟨rfl,BW.o⟩
  subst c8
  by_cases c9:g=0
  ·rw[YES.o ⟨by omega,by omega,by omega,by omega,by omega,by omega⟩];subst c9;go_enter Tryz.func30,Tryz.ntmps30;go_wp2_with fail;rw[<- hW];clear hW;refine(zaw _ _ _ _ c1).mono ?_;rintro e w' ⟨rfl,hw'⟩;subst w';go_wp2_with fail;refine(zdd _ _ _ _ (by omega)).mono ?_;rintro e w' ⟨rfl,hw'⟩;subst w';go_wp2;go_ret;exact⟨rfl,BW.o⟩
  ·rw[NO.o (fun h=>by have:=h.2.2.2.2.2;omega)]
   have q9:(g == 0)=false:=by rw[beq_eq_false_iff_ne];exact c9
   go_enter Tryz.func30,Tryz.ntmps30;go_wp2_with fail;rw[<- hW];clear hW;refine(zaw _ _ _ _ c1).mono ?_;rintro e w' ⟨rfl,hw'⟩;subst w';go_wp2_with fail;refine(zdd _ _ _ _ (by omega)).mono ?_;rintro e w' ⟨rfl,hw'⟩;subst w';go_wp2;go_ret;exact⟨rfl,BW.o⟩
 by_cases d5:k=5
 case pos =>
  subst d5
  by_cases c8:x=0
  case neg =>
   rw[NO.o (fun h=>by have:=h.2.2.2.2.1;omega)]
   have q8:(x != 0)=true:=by rw[bne_iff_ne];exact c8
   go_enter Tryz.func30,Tryz.ntmps30;go_wp2_with fail;rw[<- hW];clear hW;refine(zaw _ _ _ _ c1).mono ?_;rintro e w' ⟨rfl,hw'⟩;subst w';go_wp2;go_ret;exact⟨rfl,BW.o⟩
  subst c8
  by_cases c9:g=0
  ·rw[YES.o ⟨by omega,by omega,by omega,by omega,by omega,by omega⟩];subst c9;go_enter Tryz.func30,Tryz.ntmps30;go_wp2_with fail;rw[<- hW];clear hW;refine(zaw _ _ _ _ c1).mono ?_;rintro e w' ⟨rfl,hw'⟩;subst w';go_wp2_with fail;refine(zdd _ _ _ _ (by omega)).mono ?_;rintro e w' ⟨rfl,hw'⟩;subst w';go_wp2;go_ret;exact⟨rfl,BW.o⟩
  ·rw[NO.o (fun h=>by have:=h.2.2.2.2.2;omega)]
   have q9:(g == 0)=false:=by rw[beq_eq_false_iff_ne];exact c9
   go_enter Tryz.func30,Tryz.ntmps30;go_wp2_with fail;rw[<- hW];clear hW;refine(zaw _ _ _ _ c1).mono ?_;rintro e w' ⟨rfl,hw'⟩;subst w';go_wp2_with fail;refine(zdd _ _ _ _ (by omega)).mono ?_;rintro e w' ⟨rfl,hw'⟩;subst w';go_wp2;go_ret;exact⟨rfl,BW.o⟩
 have q4:(k != 4)=true:=by rw[bne_iff_ne];exact d4
 have q5:(k != 5)=true:=by rw[bne_iff_ne];exact d5
 by_cases c6:t.toList=[]
 case neg =>
  rw[NO.o (fun h=>by rcases h.2.2.2.1 with a | a | a;exact d4 a;exact d5 a;exact c6 (ET.o.2 a))]
  have qe:t.toList.isEmpty=false:=by rw[List.isEmpty_eq_false_iff];exact c6
  go_enter Tryz.func30,Tryz.ntmps30;go_wp2_with fail;rw[<- hW];clear hW;refine(zaw _ _ _ _ c1).mono ?_;rintro e w' ⟨rfl,hw'⟩;subst w';go_wp2;go_ret;exact⟨rfl,BW.o⟩
 have t0:=ET.o.1 c6
 by_cases d6:k=6
 case pos =>
  subst d6;rw[YES.o ⟨by omega,by omega,by omega,by omega,by omega,by omega⟩];go_enter Tryz.func30,Tryz.ntmps30;go_wp2_with fail;rw[<- hW];clear hW;refine(zaw _ _ _ _ c1).mono ?_;rintro e w' ⟨rfl,hw'⟩;subst w';go_wp2_with fail;refine(zaw _ _ _ _ (by omega)).mono ?_;rintro e w' ⟨rfl,hw'⟩;subst w';go_wp2;go_ret;exact⟨rfl,BW.o⟩
 have q6:(k != 6)=true:=by rw[bne_iff_ne];exact d6
 by_cases c8:x=0
 case neg =>
  rw[NO.o (fun h=>by have:=h.2.2.2.2.1;omega)]
  have q8:(x != 0)=true:=by rw[bne_iff_ne];exact c8
  go_enter Tryz.func30,Tryz.ntmps30;go_wp2_with fail;rw[<- hW];clear hW;refine(zaw _ _ _ _ c1).mono ?_;rintro e w' ⟨rfl,hw'⟩;subst w';go_wp2;go_ret;exact⟨rfl,BW.o⟩
 subst c8
 by_cases d7:6<=k/\k<=8
 case pos =>
  rw[YES.o ⟨by omega,by omega,by omega,by omega,by omega,by omega⟩];go_enter Tryz.func30,Tryz.ntmps30;go_wp2_with fail;rw[<- hW];clear hW;refine(zaw _ _ _ _ c1).mono ?_;rintro e w' ⟨rfl,hw'⟩;subst w';go_wp2_with fail;refine(zaw _ _ _ _ (by omega)).mono ?_;rintro e w' ⟨rfl,hw'⟩;subst w';go_wp2;go_ret;exact⟨rfl,BW.o⟩
 by_cases c9:g=0
 ·rw[YES.o ⟨by omega,by omega,by omega,by omega,by omega,by omega⟩];subst c9;go_enter Tryz.func30,Tryz.ntmps30;go_wp2_with fail;rw[<- hW];clear hW;refine(zaw _ _ _ _ c1).mono ?_;rintro e w' ⟨rfl,hw'⟩;subst w';go_wp2_with fail;refine(zdd _ _ _ _ (by omega)).mono ?_;rintro e w' ⟨rfl,hw'⟩;subst w';go_wp2;go_ret;exact⟨rfl,BW.o⟩
 ·rw[NO.o (fun h=>by have:=h.2.2.2.2.2;omega)]
  have q9:(g == 0)=false:=by rw[beq_eq_false_iff_ne];exact c9
  go_enter Tryz.func30,Tryz.ntmps30;go_wp2_with fail;rw[<- hW];clear hW;refine(zaw _ _ _ _ c1).mono ?_;rintro e w' ⟨rfl,hw'⟩;subst w';go_wp2_with fail;refine(zdd _ _ _ _ (by omega)).mono ?_;rintro e w' ⟨rfl,hw'⟩;subst w';go_wp2;go_ret;exact⟨rfl,BW.o⟩
end Go.Proofs.YtogcbbkhnpmgeaaGreatDoor
