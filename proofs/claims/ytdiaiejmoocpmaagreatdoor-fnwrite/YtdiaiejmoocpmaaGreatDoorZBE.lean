import Derived.Test.YtdiaiejmoocpmaaGreatDoorZBD
set_option maxRecDepth 100000
set_option maxHeartbeats 8000000
namespace Go.Proofs.YtdiaiejmoocpmaaGreatDoor
open Go.RowKit
def StOK(m:Mi):Prop:=miB m=true/\(m.kind=1\/m.kind=2\/m.kind=3)
theorem yapv(ks:List Int):∀ i,i<=ks.length->∀ m∈nl ks i,∃ k,k<ks.length/\m.at_=ks[k]?.getD 0
 | 0,_,m,h=>by cases h
 | i+1,hi,m,h=>by
  rw[nl]at h
  split at h
  ·exact yapv ks i (by omega) m h
  ·rcases List.mem_append.1 h with h | h
   ·exact yapv ks i (by omega) m h
   ·rw[List.mem_singleton.1 h];exact⟨i,by omega,rfl⟩
theorem zud{S:List St}(h:∀ p∈S,(0<=p.at_/\p.at_<336)/\0<=p.val/\p.val<1099511627776):∀ m∈seg S,StOK m:=by
 intro m hm;unfold seg zbb at hm
 rcases List.mem_append.1 hm with hm | hm
 ·obtain⟨p,hp,rfl⟩:=List.mem_map.1 hm;have:=h p hp;exact⟨(zjk 1 p.at_ p.val).2 (.inl ⟨rfl,this⟩),.inl rfl⟩
 ·rcases List.mem_append.1 hm with hm | hm
  ·have e:=zvi _ _ m hm;obtain⟨k,hk,ek⟩:=yapv _ _ zL m hm
   have:∃ p∈S,m.at_=p.at_:=by
    rw[List.length_map]at hk;exact⟨S[k],List.getElem_mem hk,by rw[ek,List.getElem?_map,List.getElem?_eq_getElem hk];rfl⟩
   obtain⟨p,hp,ep⟩:=this;rw[e];have:=h p hp;exact⟨(zjk 2 m.at_ 0).2 (.inr (.inl ⟨rfl,by rw[ep];exact this.1,rfl⟩)),.inr (.inl rfl)⟩
  ·rw[List.mem_singleton.1 hm];exact⟨(zjk 3 0 0).2 (.inr (.inr (.inr ⟨.inl rfl,rfl,rfl⟩))),.inr (.inr rfl)⟩
theorem yaoa:∀ (us:List St) (i:Nat),(∀ p∈us,(48<=p.at_/\p.at_<336)/\0<=p.val/\p.val<1099511627776)->∀ p∈jrn i us,0<=p.val/\p.val<1099511627776
 | [],_,_,p,h=>by cases h
 | u::us,i,hu,p,h=>by
  rw[jrn]at h;have h0:=hu u List.mem_cons_self
  rcases List.mem_cons.1 h with rfl | h
  ·exact⟨by show 0<=u.at_;omega,by show u.at_<_;omega⟩
  ·rcases List.mem_cons.1 h with rfl | h
   ·exact⟨by show 0<=u.val;omega,by show u.val<_;omega⟩
   ·exact yaoa us (i+1) (fun q hq=>hu q (List.mem_cons_of_mem _ hq)) p h
theorem yavr(n:Int)(h:0<=n/\n<1099511627776):∀ p∈cnt n,(0<=p.at_/\p.at_<336)/\0<=p.val/\p.val<1099511627776:=by
 intro p hp;rw[List.mem_singleton.1 hp];exact⟨⟨by show(0:Int)<=8;omega,by show(8:Int)<336;omega⟩,h⟩
def zle(hs:List Int):Bool:=decide (hs.length=128/\∀ k (h:k<hs.length),0<=hs[k]/\hs[k]<=64)
def zxi(n:Nat):List Int:=List.replicate n 1
theorem yamx(n:Nat):zxi (n+1)=zxi n++[1]:=by unfold zxi;rw[List.replicate_succ',]
theorem zxg(n:Nat):(zxi n).length=n:=by simp[zxi]
theorem yagt(w:World):zC 85 #[] w fun e w'=>∃ v',e=.returned v'/\Row w' 3 1 w.heap.size w'.heap.size v' (zxi 128).length (zcl (zxi 128))/\zB w w':=by
 have START:Hid (InI w (w.alloc (.cells #[] 3)) (.slice (some ⟨w.heap.size,0,none⟩) 0 0) (zxi 0)):=⟨World.ownsRow_lit w #[] 0 zL (by simp[maxLen]) (by simp),zR.alloc zL _⟩
 go_enter Tryz.func85,Tryz.ntmps85;go_wp2
 go_loopw [1,2] (fun vL i wr=>∃ m:Nat,m<=128/\i=.I (m:Int)/\Hid (InI w wr vL (zxi m))) (fun _ i _=>128-(intOf i).toNat)
 case atStart=>exact⟨0,by omega,rfl,START⟩
 case round =>
  obtain⟨m,hm,rfl,J⟩:=hrel;clear START
  have m0:(0:Int)<=(m:Int):=by omega
  by_cases hlt:m<128
  ·have m1:(m:Int)<128:=by omega
   have EM:=zaa (yamx m)
   have l2:(zxi m).length<=128:=by rw[zxg];omega
   have JB:Hid (InI w (wr.alloc (.cells #[.I 1] 3)) u1 (zxi m)):=J.o.below (zR.alloc zL _);have RB:=zaa (zxv wr 1);have hzb:=JB.o.z;clear J;go_wp2_with (at_builtin;refine zae _ rfl (.tmp 8) (.tmp 9) 23 rfl w.heap.size 3 (.I 0) 1 8 Tryz.underlying23 zim rfl (by decide) _ _ _ rfl JB.o.l _ 1 _ rfl RB.o (zsg _) (by first | omega | (simp[maxLen];omega)) (by first | omega | (simp;omega)) hzb ?_);intro vN wN hownN hgrN;have G:=zaa (JB.o.grow 1 hownN hgrN);rw[<- EM.o]at G;clear hownN hgrN JB RB;go_wp2
   go_roundw
   case rel=>exact⟨m+1,by omega,by go_num,G⟩
   case measure=>simp[intOf];omega
  ·obtain rfl:m=128:=by omega
   obtain⟨-,aN,cN,hvN,-⟩:=(zad J.o.l).rd;subst hvN;go_wp2;go_ret;exact⟨_,rfl,zad J.o.l,J.o.b⟩
def pgE(ns:List Ino)(i:Nat):Int:=(zan ns (i/8)).map.getD (i%8) 0
def pkS(ns:List Ino)(hs:List Int)(t:Int)(hot:Bool)(b:Int)(i:Nat):Int:=if pgE ns i=0\/¬ pgE ns i%4=t then b else if b<0\/(hot=true/\hs.getD b.toNat 0<hs.getD i 0)\/(hot=false/\hs.getD i 0<hs.getD b.toNat 0) then(i:Int)else b
def pkN(ns:List Ino)(hs:List Int)(t:Int)(hot:Bool):Nat->Int
 | 0=>-1
 | n+1=>pkS ns hs t hot (pkN ns hs t hot n) n
theorem zzx(ns:List Ino)(hs:List Int)(t:Int)(hot:Bool)(n:Nat):-1<=pkN ns hs t hot n/\pkN ns hs t hot n<(n:Int):=by
 induction n with
 | zero=>exact⟨Int.le_refl (-1),show(-1:Int)<0 by decide⟩
 | succ n ih =>
  have e:pkN ns hs t hot (n+1)=pkS ns hs t hot (pkN ns hs t hot n) n:=rfl;rw[e];unfold pkS
  split
  ·omega
  ·split<;>omega
theorem yaly{ns:List Ino}{ds:List Den}(h:zck ns ds=true){k:Nat}(hk:k<16)(j:Nat):zeo ((zan ns k).map.getD j 0)=true:=by
 have t:=(zfj ((zbu.1 h).ok k hk)).1;rw[List.getD_eq_getElem?_getD]
 rcases Nat.lt_or_ge j (zan ns k).map.length with q | q
 ·rw[List.getElem?_eq_getElem q];exact t _ (List.getElem_mem q)
 ·rw[List.getElem?_eq_none q];exact zzy
def swL(i p e:Int):List Mi:=⟨1,48+12*i+(3+p),e⟩::zbb [48+12*i+(3+p)]
def deS(ns:List Ino)(x:Int):List Mi:=[⟨4,fsI ns,x⟩,⟨5,0,0⟩]
def prS(ns:List Ino)(x:Int):List Mi:=⟨1,312+fpI ns,x⟩::zbb [312+fpI ns]
def deF(ns:List Ino)(e x i p:Int):List Mi×Int:=if e=0\/¬ e%4=1 then([],5)else if fsI ns<0 then([],7) else(deS ns x++swL i p (4*fsI ns+2),0)
def prF(ns:List Ino)(e x i p:Int):List Mi×Int:=if e=0\/¬ e%4=2 then([],5)else if fpI ns<0 then([],7) else(prS ns x++swL i p (4*fpI ns+1),0)
def enI(ns:List Ino)(i p:Int):Int:=(zan ns i.toNat).map.getD p.toNat 0
theorem yabz(i p e:Int):(swL i p e).length<=3:=by
 have:=zbi [48+12*i+(3+p)];unfold swL;simp only[List.length_cons,List.length_nil]at this ⊢;omega
theorem zof(i p e:Int)(w:World)(hi:0<=i/\i<16)(hp:0<=p/\p<8) :
  zC 131 #[.I i,.I p,.I e] w fun r w'=>∃ v',r=.returned v'/\Row w' 84 3 w.heap.size w'.heap.size v' (swL i p e).length (mis (swL i p e))/\zB w w':=by
 have wp:IntKind.i64.wrap (3+p)=3+p:=by rw[IntKind.wrap_i64];omega
 have EX:=zaa (show swL i p e=[⟨1,48+12*i+(3+p),e⟩]++zbb [48+12*i+(3+p)]from rfl);rw[EX.o]
 have pr:0<=3+p/\3+p<11:=by omega
 have ar:0<=48+12*i+(3+p)/\48+12*i+(3+p)<336:=by omega
 have LN:=zaa (fun w1=>zbf i (3+p) w1 hi pr);have l7:(zbb [48+12*i+(3+p)]).length<=2:=zbi [48+12*i+(3+p)];clear EX;generalize 48+12*i+(3+p)=a at *;have LF:=zaa (fun v w1 h=>zdw v [a] w1 h (by simp) (by intro j h;simp at h;subst h;simpa using ar));generalize zbb [a]=FL at *;go_enter Tryz.func131,Tryz.ntmps131;go_wp2_with fail;refine(LN.o _).mono ?_;rintro e w' ⟨rfl,hw'⟩;subst w';go_wp2_with fail;refine(zds _ _ _).mono ?_;rintro r w4 ⟨rfl,hb4⟩
 have M4:Hid (MiI w (w4.alloc (.cells #[.I 1,.I a,.I e] 84)) (.slice (some ⟨w4.heap.size,0,none⟩) 1 1) [⟨1,a,e⟩]):=⟨World.ownsRow_lit w4 _ 1 hb4.size (by simp[maxLen]) rfl,hb4.alloc hb4.size _⟩
 have M6:=zaa (M4.o.below (zR.alloc zL (.cells #[.I a] 3)));have R6:=zaa (zkv (w4.alloc (.cells #[.I 1,.I a,.I e] 84)) a);simp only[World.size_alloc]at R6;clear hb4 M4;go_wp2_with fail;refine(LF.o _ _ R6.o).mono ?_;rintro r w7 ⟨v7,rfl,hr7,hb7⟩;have M7:=zaa (M6.o.below hb7);have R7:=zaa hr7.rd;have hz7:=M7.o.z;clear hr7 hb7 M6 R6;go_wp2_with (at_builtin;refine zae _ rfl (.tmp 15) (.tmp 18) 32 rfl w.heap.size 84 (.agg #[.I 0,.I 0,.I 0]) 3 24 Tryz.underlying32 zbj rfl (by decide) _ _ _ rfl M7.o.l _ _ _ rfl R7.o (zcg _) (by first | omega | (simp[maxLen];done) | (simp[maxLen];omega)) (by first | omega | (simp;done) | (simp;omega)) hz7 ?_);intro vT wT hownT hgrT;have M:=zaa (M7.o.grow FL hownT hgrT);obtain⟨-,aT,cT,hvT,-⟩:=(zad hownT).rd;subst hvT;clear hownT hgrT M7 R7;go_wp2;go_ret;exact⟨_,rfl,zad M.o.l,M.o.b⟩
def zxj(s:List Int×List Se)(l:List Mi):List Int×List Se:=l.foldl (fun s m=>(doE m s.1 s.2,doQ m s.2)) s
theorem zhz(s:List Int×List Se)(l l':List Mi):zxj s (l++l')=zxj (zxj s l) l':=by unfold zxj;rw[List.foldl_append]
theorem zfv:∀ (l:List Mi) (s:List Int×List Se),(∀ m∈l,StOK m)->zxj s l=s
 | [],s,_=>rfl
 | m::l,s,h=>by
  have k:=(h m List.mem_cons_self).2
  show zxj (doE m s.1 s.2,doQ m s.2) l=s
  rw[zfv l _ (fun q hq=>h q (List.mem_cons_of_mem _ hq))];unfold doE doQ;rw[if_neg (by omega),if_neg (by omega),if_neg (by omega)]
theorem yayq{m:Mi}(h:miB m=true):m.kind=1\/m.kind=2\/m.kind=3\/m.kind=4\/m.kind=5:=by
 have:=(zjk m.kind m.at_ m.val).1 h;omega
theorem yanf:∀ (l:List Mi) (ws:List Int) (ps:List St) (es:List Int) (qs:List Se),(∀ m∈l,miB m=true)->ps.length+l.length<=400->qs.length+l.length<=400->mr l ws ps es qs=⟨0,(zot (ws,ps) l).1,(zot (ws,ps) l).2,(zxj (es,qs) l).1,(zxj (es,qs) l).2⟩
 | [],ws,ps,es,qs,_,_,_=>rfl
 | m::l,ws,ps,es,qs,hk,hl,hq=>by
   have h1:=yayq (hk m List.mem_cons_self);simp only[List.length_cons]at hl hq;have hf:zhb m ps qs=false:=decide_eq_false (fun h=>by omega)
   have e:zvw (ws,ps) m=(doW m ws ps,doP m ps):=by
    unfold zvw doW doP
    rcases h1 with h | h | h | h | h
    ·rw[if_pos h,if_pos h,if_neg (by omega)]
    ·rw[if_neg (by omega),if_pos h,if_neg (by omega),if_neg (by omega),if_pos h]
    ·rw[if_neg (by omega),if_neg (by omega),if_pos h,if_pos h,if_neg (by omega),if_neg (by omega),if_pos h]
    ·rw[if_neg (by omega),if_neg (by omega),if_neg (by omega),if_neg (by omega),if_neg (by omega),if_neg (by omega),if_neg (by omega)]
    ·rw[if_neg (by omega),if_neg (by omega),if_neg (by omega),if_neg (by omega),if_neg (by omega),if_neg (by omega),if_neg (by omega)]
   have hp:(doP m ps).length<=ps.length+1:=by
    unfold doP
    split
    ·simp
    ·split
     ·simp
     ·split
      ·exact Nat.le_trans (List.length_filter_le _ _) (by omega)
      ·omega
   have hq':(doQ m qs).length<=qs.length+1:=by
    unfold doQ
    split
    ·simp
    ·split
     ·simp
     ·omega
   rw[zly,e,show zxj (es,qs) (m::l)=zxj (doE m es qs,doQ m qs) l from rfl];simp only[mr,hf];exact yanf l _ _ _ _ (fun q hq=>hk q (List.mem_cons_of_mem _ hq)) (by omega) (by omega)
theorem ybas{us:List Se}(ui:UpIn us)(wv:Wv us):∀ p∈zdt us,(48<=p.at_/\p.at_<336)/\0<=p.val/\p.val<1099511627776:=by
 intro p hp;obtain⟨u,hu,rfl⟩:=List.mem_map.1 (show p∈us.map (fun s=>up s.at_ s.val)from hp);have:=ui u hu;have:=wv u hu;exact⟨⟨by show 48<=u.at_;omega,by show u.at_<336;omega⟩,by show 0<=u.val;omega,by show u.val<_;omega⟩
theorem zpt{us:List Se}(ui:UpIn us)(wv:Wv us)(hl:us.length<=16):∀ m∈zdc (zdt us),StOK m:=by
 intro m hm;have A:=ybas ui wv;unfold zdc zis at hm
 split at hm
 ·cases hm
 ·rcases List.mem_append.1 hm with hm | hm
  ·rcases List.mem_append.1 hm with hm | hm
   ·refine zud (fun p hp=>?_) m hm;have h1:=yapd (zdt us) 0 p hp;have h2:=yaoa (zdt us) 0 A p hp;rw[zbo]at h1;omega
   ·refine zud (yavr _ ?_) m hm;rw[zbo];omega
  ·rcases List.mem_append.1 hm with hm | hm
   ·exact zud (fun p hp=>by have:=A p hp;omega) m hm
   ·exact zud (yavr 0 (by omega)) m hm
structure Idle(ws es:List Int)(ns:List Ino)(ds:List Den):Prop where
 wi:Wi ws ns ds
 c0:wdI ws 8=0
 pm:pmB ws []=true
 bk:zdk es []=true
theorem Idle.img{ws es:List Int}{ns:List Ino}{ds:List Den}(h:Idle ws es ns ds):zck ns ds=true:=zbu.2 h.wi.img
theorem zjs{ws es:List Int}{ns:List Ino}{ds:List Den}(h:Idle ws es ns ds){l:List Mi}{ws':List Int}{ns':List Ino}{ds':List Den}(r:zot (ws,[]) l=(ws',[]))(c:wdI ws' 8=0)(w:Wi ws' ns' ds')(hm:∀ m∈l,miB m=true)(hl:l.length<=200)(q:(zxj (es,[]) l).2=[]) :
  ∃ es',mr l ws [] es []=⟨0,ws',[],es',[]⟩/\Idle ws' es' ns' ds':=by
 have e:=yanf l ws [] es [] hm (by simp;omega) (by simp;omega);rw[r,q]at e;have k:=yaul l ws [] es [] h.pm h.bk hm;rw[e]at k;exact⟨_,e,w,c,k.1,k.2⟩
theorem zyg{ws es:List Int}{ns:List Ino}{ds:List Den}(h:Idle ws es ns ds):∃ ws' es' ns' ds',mr [] ws [] es []=⟨0,ws',[],es',[]⟩/\Idle ws' es' ns' ds':=⟨ws,es,ns,ds,rfl,h⟩
theorem yakj{ws es:List Int}{ns:List Ino}{ds:List Den}(h:Idle ws es ns ds){us:List Se}(ui:UpIn us)(hl:us.length<=16)(wv:Wv us){ns':List Ino}{ds':List Den}(q:Wi (zdl ws us) ns' ds') :
  ∃ ws' es' ns' ds',mr (zdc (zdt us)) ws [] es []=⟨0,ws',[],es',[]⟩/\Idle ws' es' ns' ds':=by
 obtain⟨ls',r,c,w⟩:=yary h.wi h.c0 ⟨ui,hl⟩ q;have ok:=zpt ui wv hl;have pl:=ziq us;obtain⟨es',e,k⟩:=zjs h r c w (fun m hm=>(ok m hm).1) (by omega) (by rw[zfv _ _ ok]);exact⟨ls',es',ns',ds',e,k⟩
theorem yawi(a x:Int):(⟨1,a,x⟩::zbb [a]:List Mi)=seg [up a x]:=rfl
theorem yake{a x:Int}(ha:0<=a/\a<336)(hx:0<=x/\x<1099511627776):∀ m∈(⟨1,a,x⟩::zbb [a]:List Mi),StOK m:=by
 rw[yawi];refine zud (fun p hp=>?_);rw[List.mem_singleton.1 hp];exact⟨ha,hx⟩
theorem zxf{x:Int}(h:zat x=true):0<=x/\x<1099511627776:=of_decide_eq_true h
theorem yaqc(a x:Int):(⟨1,a,x⟩::zbb [a]:List Mi).length<=3:=by
 have:=zbi [a];simp only[List.length_cons,List.length_nil]at this ⊢;omega
theorem yavd{k x:Int}(hk:0<=k/\k<32)(hx:0<=x/\x<1099511627776):∀ m∈([⟨4,k,x⟩,⟨5,0,0⟩]:List Mi),miB m=true:=by
 intro m hm
 rcases List.mem_cons.1 hm with rfl | hm
 ·exact(zjk _ _ _).2 (.inr (.inr (.inl ⟨rfl,hk,hx⟩)))
 ·rw[List.mem_singleton.1 hm];exact(zjk _ _ _).2 (.inr (.inr (.inr ⟨.inr rfl,rfl,rfl⟩)))
theorem yaem(es:List Int)(k x:Int):(zxj (es,[]) [⟨4,k,x⟩,⟨5,0,0⟩]).2=[]:=rfl
theorem ztw{ws es:List Int}{ns:List Ino}{ds:List Den}(h:Idle ws es ns ds){s:ByteArray}{page x:Int}(e:(wrI ns ds s page x).2=0) :
  (∃ ws' es' ns' ds',mr (wrI ns ds s page x).1 ws [] es []=⟨0,ws',[],es',[]⟩/\Idle ws' es' ns' ds')/\(∀ m∈(wrI ns ds s page x).1,miB m=true)/\(wrI ns ds s page x).1.length<=200/\0<=page/\page<8:=by
 obtain⟨i,p,ls',hi,hp,ei,ep,r,c,w⟩:=yaev h.wi h.c0 (show wrI ns ds s page x=((wrI ns ds s page x).1,0) by rw[<- e]);subst ep
 have f0:(flI ns ds s).2=0:=by
  unfold wrI at e
  split at e
  ·assumption
  ·assumption
 have form:∃ n:¬ (fpI ns<0/\fsI ns<0),zat x=true/\(wrI ns ds s (p:Int) x).1=wrS ns x++zdc (zdt (wrU (i:Int) (p:Int) (zcx ns (i:Int)) (wrE ns))):=by
  unfold wrI at e ⊢;rw[if_pos f0,ei]at e ⊢;unfold wrF at e ⊢
  by_cases d:(0<=(p:Int)/\(p:Int)<8)/\zat x=true
  ·rw[if_pos d]at e ⊢
   by_cases f:fpI ns<0/\fsI ns<0
   ·rw[if_pos f]at e
    cases e
   ·rw[if_neg f];exact⟨f,d.2,rfl⟩
  ·rw[if_neg d]at e
   cases e
 obtain⟨nf,wx,F⟩:=form;have X:=zxf wx
 have k:=(zgl h.wi.img f0)
 obtain⟨i',hi',ei',k1⟩:=k
 have e':i'=i:=by rw[ei]at ei';omega
 subst e';obtain⟨te,he,new⟩:=yadv nf
 have sz:zcx ns (i':Int)=(zan ns i').size:=by unfold zcx;rw[Int.toNat_natCast]
 have ww:=zpp h.wi hi k1 hp te he new
 have wv:Wv (wrU (i':Int) (p:Int) (zan ns i').size (wrE ns)):=by
  have:=zcw te;unfold wrU;refine Wv.cons (by omega) ?_
  split
  ·exact Wv.one (by omega)
  ·intro u hu;cases hu
 have ul:(wrU (i':Int) (p:Int) (zan ns i').size (wrE ns)).length<=2:=by unfold wrU;split<;>simp
 have ok2:=zpt ww.1 wv (by omega);have pl:=ziq (wrU (i':Int) (p:Int) (zan ns i').size (wrE ns));rw[sz]at F
 have b1:fpI ns<24:=by
  have:=(zcs (fun i=>!zey (zaw (zao ns) 1) (i:Int)) 24).2;unfold fpI;omega
 have b2:fsI ns<32:=by
  have:=(zcs (fun i=>!zey (zaw (zao ns) 2) (i:Int)) 32).2;unfold fsI;omega
 have okS:(∀ m∈wrS ns x,miB m=true)/\(wrS ns x).length<=3/\(zxj (es,[]) (wrS ns x)).2=[]:=by
  unfold wrS
  by_cases q:0<=fpI ns
  ·rw[if_pos q];have o:=yake (a:=312+fpI ns) (x:=x) (by omega) X;exact⟨fun m hm=>(o m hm).1,yaqc _ _,by rw[zfv _ _ o]⟩
  ·rw[if_neg q];exact⟨yavd (by omega) X,by simp,yaem _ _ _⟩
 have ALL:∀ m∈(wrI ns ds s (p:Int) x).1,miB m=true:=by
  rw[F];intro m hm
  rcases List.mem_append.1 hm with hm | hm
  ·exact okS.1 m hm
  ·exact(ok2 m hm).1
 have LEN:(wrI ns ds s (p:Int) x).1.length<=200:=by
  rw[F,List.length_append];have:=okS.2.1;omega
 obtain⟨es',e2,k2⟩:=zjs h r c w ALL LEN (by
  rw[F,zhz];rw[zfv _ _ ok2]
  exact okS.2.2)
 exact⟨⟨_,_,_,_,e2,k2⟩,ALL,LEN,by omega,by omega⟩
def touH(hs:List Int)(k:Nat):List Int:=hs.set k (min 64 (hs.getD k 0+8))
theorem zbx{hs:List Int}(h:zle hs=true):hs.length=128/\∀ k (h:k<hs.length),0<=hs[k]/\hs[k]<=64:=of_decide_eq_true h
theorem yaxo{w:World}{base:Nat}{e:TypeId}{size:Nat}{v:Value}{n:Nat}{xs:List Value}(h:w.ownsRow base e size v n xs)(hn:0<n):∃ b c,v=.slice (some ⟨b,0,none⟩) n c/\n<=c:=by
 rcases(zad h).shape with ⟨_,e,_⟩ | ⟨b,c,rfl,hc,_⟩
 ·omega
 ·exact⟨b,c,rfl,hc⟩
theorem zzl(v:Value)(hs:List Int)(i p:Nat)(w:World)(h:RdI w v hs)(hn:hs.length=128)(hr:∀ k (h:k<hs.length),0<=hs[k]/\hs[k]<=64)(hi:i<16)(hp:p<8) :
  zC 127 #[v,.I (i:Int),.I (p:Int)] w fun e w'=>∃ v',e=.returned v'/\Row w' 3 1 w.heap.size w'.heap.size v' (touH hs (8*i+p)).length (zcl (touH hs (8*i+p)))/\zB w w':=by
 obtain⟨ao,cap,rfl,hcap,-⟩:=h.shape;have HR:Hid (Rd (w.alloc (.cells #[] 3)) 1 (.slice ao hs.length cap) hs.length (zcl hs)):=Rd.below h (zR.alloc zL _)
 have ST:Hid (InI w (w.alloc (.cells #[] 3)) (.slice (some ⟨w.heap.size,0,none⟩) 0 0) []):=⟨World.ownsRow_lit w #[] 0 zL (by simp[maxLen]) (by simp),zR.alloc zL _⟩
 have hz:w.heap.size<=(w.alloc (.cells #[] 3)).heap.size:=ST.o.z
 obtain⟨k,hk⟩:∃ k:Nat,k=8*i+p:=⟨_,rfl⟩
 have k128:k<hs.length:=by omega
 have KL:=zaa k128;obtain⟨z0,z64⟩:=hr k k128
 have EG:Hid (hs.getD k 0=hs[k]):=by unfold Hid;rw[List.getD_eq_getElem?_getD,List.getElem?_eq_getElem k128];rfl
 have ET:Hid (touH hs k=hs.set k (min 64 (hs[k]+8))):=by unfold Hid touH;rw[EG.o]
 have kk:(8*(i:Int)+(p:Int))=(k:Int):=by omega
 have w1f:IntKind.i64.wrap (8*(i:Int))=8*(i:Int):=by rw[IntKind.wrap_i64];omega
 have w2f:IntKind.i64.wrap (8*(i:Int)+(p:Int))=(k:Int):=by rw[IntKind.wrap_i64];omega
 have w3f:IntKind.i64.wrap (hs[k]+8)=hs[k]+8:=by rw[IntKind.wrap_i64];omega
 rw[<- hk,ET.o];have CL:Hid ((zcl hs)[k]?=some (.I hs[k])):=zde hs k k128
 have hl1:hs.length<=128:=by omega
 clear hn hr;generalize hs[k]=z at *
 obtain⟨mm,em,cm⟩:∃ mm:Int,min 64 (z+8)=mm/\((z+8<64/\mm=z+8)\/(¬ z+8<64/\mm=64)):=⟨min 64 (z+8),rfl,by omega⟩
 rw[em];have CM:=zaa cm;clear em cm;go_enter Tryz.func127,Tryz.ntmps127;go_wp2_with (at_builtin;refine zae _ rfl (.tmp 8) (.tmp 9) 23 rfl w.heap.size 3 (.I 0) 1 8 Tryz.underlying23 zim rfl (by decide) _ _ _ rfl ST.o.l _ hs.length (zcl hs) rfl HR.o (zeg _) (by first | omega | (simp[maxLen];omega)) (by first | omega | (simp;omega)) hz ?_);intro vN wN hownN hgrN
 have G:Hid (Row wN 3 1 w.heap.size wN.heap.size vN hs.length (zcl hs)):=by
  have q:=zad hownN;exact q
 have BN:Hid (zB w wN):=ST.o.b.grown hgrN hz (fun q hq=>(ST.o.l.lt q hq).1);obtain⟨b,c,rfl,hcb⟩:=yaxo G.o.1 (by omega)
 obtain⟨_,_,_,hbl,hfr,hcl⟩:=G.o.at
 have e0:wN.cell? ⟨b,k,none⟩=some (.I z):=(hcl k (by omega)).trans CL.o;have f0:wN.frozen? ⟨b,k,none⟩=false:=hfr k
 have k0:(0:Int)<=(k:Int):=by omega
 have k1:(k:Int)<(hs.length:Int):=by omega
 have hwb:w.heap.size<=b:=(G.o.1.lt b rfl).1
 have R2:Hid (Row (wN.setCell ⟨b,k,none⟩ (.I mm)) 3 1 w.heap.size (wN.setCell ⟨b,k,none⟩ (.I mm)).heap.size (.slice (some ⟨b,0,none⟩) hs.length c) hs.length (zcl (hs.set k mm))):=by
  have q:=G.o.stored k (.I mm);rw[zic]at q;exact q.wide zL (by simp[World.setCell])
 have B2:Hid (zB w (wN.setCell ⟨b,k,none⟩ (.I mm))):=BN.o.setCell hwb _;clear hownN hgrN G BN HR ST hcl hfr kk hk
 rcases CM.o with ⟨c1,rfl⟩ | ⟨c1,rfl⟩
 ·have mn:min 64 (z+8)=z+8:=by omega
  go_wp2;go_ret;exact⟨_,rfl,R2.o,B2.o⟩
 ·have mn:min 64 (z+8)=64:=by omega
  go_wp2;go_ret;exact⟨_,rfl,R2.o,B2.o⟩
theorem yayk{hs:List Int}(h:hs.length=128)(k:∀ k (h:k<hs.length),0<=hs[k]/\hs[k]<=64):zle hs=true:=decide_eq_true ⟨h,k⟩
theorem yapc:zle (zxi 128)=true:=yayk (zxg 128) (fun k h=>by
 have e:(zxi 128)[k]=1:=List.eq_of_mem_replicate (List.getElem_mem h);rw[e]
 omega)
theorem zhw(n:Int)(hn:2<=n/\n<=1000)(w0 w:World)(b k:Nat)(vC:Value)(bs:List Int)(h:Src w0 w b vC bs k)(hk:k<=900000) :
  zC 40 #[.pointer (some ⟨b,0,none⟩),.I n] w fun e w'=>∃ r:Bool,e=.returned (.bool r)/\Src w0 w' b vC bs (k+3)/\Outside b (b+1) w w'/\w'.heap.size=w.heap.size:=by
 have HS:=zaa h
 have wn:IntKind.i64.wrap (n-1)=n-1:=by rw[IntKind.wrap_i64];omega
 clear h;go_enter Tryz.func40,Tryz.ntmps40;go_wp2_with fail;refine(zbz n hn w0 w b k vC bs HS.o hk).mono ?_;rintro e w1 ⟨r,rfl,r0,r1,hs,ho,hz⟩;have S1:=zaa hs;have O1:=zaa ho;clear hs ho;go_wp2;go_ret;exact⟨_,rfl,S1.o,O1.o,hz⟩
def isIB:Value->Bool
 | .int _ _=>true
 | _=>false
def isSB:Value->Bool
 | .string _=>true
 | _=>false
def znx:List Value->Bool
 | []=>true
 | [a]=>!isSB a
 | [a,b]=>!isSB a&&!isSB b
 | a::b::c::t=>!isSB a&&!(isIB a&&isIB b&&isIB c)&&znx (b::c::t)
theorem zsh{a:Value}{l:List Value}(h:znx (a::l)=true):isSB a=false/\znx l=true:=by
 match l with
 | []=>simp[znx]at h;exact⟨h,rfl⟩
 | [b]=>simp[znx]at h;exact⟨h.1,by simp[znx,h.2]⟩
 | b::c::t =>
  simp only[znx,Bool.and_eq_true,Bool.not_eq_true']at h;exact⟨h.1.1,h.2⟩
theorem zyu:∀ {l:List Value},znx l=true->∀ (j:Nat) (v:Value),l[j]?=some v->isSB v=false
 | [],_,j,v,e=>by cases e
 | a::l,h,0,v,e=>by
  simp only[List.getElem?_cons_zero,Option.some.injEq]at e;rw[<- e];exact(zsh h).1
 | a::l,h,j+1,v,e=>zyu (zsh h).2 j v (by simpa using e)
theorem zuf:∀ {l:List Value},znx l=true->∀ (j:Nat) (a b c:Value),l[j]?=some a->l[j+1]?=some b->l[j+2]?=some c->¬ (isIB a=true/\isIB b=true/\isIB c=true)
 | [],_,j,_,_,_,e,_,_=>by cases e
 | x::l,h,0,a,b,c,e1,e2,e3=>by
  match l,h,e2,e3 with
  | [],_,e2,_=>simp at e2
  | [y],_,_,e3=>simp at e3
  | y::z::t,h,e2,e3 =>
   simp only[List.getElem?_cons_zero,List.getElem?_cons_succ,Option.some.injEq]at e1 e2 e3;subst e1 e2 e3;simp only[znx,Bool.and_eq_true,Bool.not_eq_true']at h;intro q;have:=h.1.2;rw[q.1,q.2.1,q.2.2]at this
   cases this
 | x::l,h,j+1,a,b,c,e1,e2,e3=>zuf (zsh h).2 j a b c (by simpa using e1) (by simpa using e2) (by simpa using e3)
def Hard(xs:List Value):Prop:=(∃ (j:Nat) (v:Value),xs[j]?=some v/\isSB v=true)\/∃ (j:Nat) (a b c:Value),xs[j]?=some a/\xs[j+1]?=some b/\xs[j+2]?=some c/\isIB a=true/\isIB b=true/\isIB c=true
structure Soft(w w':World):Prop where
 size:w.heap.size<=w'.heap.size
 blk:∀ j,j<w.heap.size->w'.heap[j]?=w.heap[j]?\/∃ cs t fr,w.heap[j]?=some (.cells cs t fr)/\znx cs.toList=true
theorem Soft.refl(w:World):Soft w w:=⟨Nat.le_refl _,fun _ _=>.inl rfl⟩
theorem Soft.trans{a b c:World}(h:Soft a b)(k:Soft b c):Soft a c :=
 ⟨Nat.le_trans h.size k.size,fun j hj=>by
  rcases h.blk j hj with e | e
  ·rcases k.blk j (Nat.lt_of_lt_of_le hj h.size)with f | f
   ·exact .inl (f.trans e)
   ·rw[e]at f;exact .inr f
  ·exact .inr e⟩
theorem Soft.of_below{w w':World}(h:zB w w'):Soft w w':=⟨h.size,fun j hj=>.inl (h.block j hj)⟩
theorem Soft.alloc{a w:World}(h:Soft a w)(o:Obj):Soft a (w.alloc o):=h.trans (.of_below (zR.alloc zL _))
theorem Soft.drew{a w:World}(h:Soft a w):Soft a w.drew:=h.trans (.of_below zR.drew)
theorem Soft.set{a w:World}(h:Soft a w){b:Nat}{cs:Array Value}{t:TypeId}{fr:Nat×Nat}(hb:w.heap[b]?=some (.cells cs t fr))(hs:znx cs.toList=true)(j:Nat)(u:Value):Soft a (w.setCell ⟨b,j,none⟩ u) :=
 h.trans ⟨by simp[World.setCell],fun k _=>by
  by_cases e:k=b
  ·subst e;exact .inr ⟨cs,t,fr,hb,hs⟩
  ·exact .inl (Below.heap_setCell _ _ _ _ e)⟩
theorem Soft.outside{w w':World}{b:Nat}{cs:Array Value}{t:TypeId}{fr:Nat×Nat}(h:Outside b (b+1) w w')(hb:w.heap[b]?=some (.cells cs t fr))(hs:znx cs.toList=true):Soft w w' :=
 ⟨h.size,fun k hk=>by
  by_cases e:k=b
  ·subst e;exact .inr ⟨cs,t,fr,hb,hs⟩
  ·exact .inl (h.block k hk (by omega))⟩
theorem Rd.soft{w w':World}{size:Nat}{v:Value}{n:Nat}{xs:List Value}(h:Rd w size v n xs)(hs:Soft w w')(hd:0<n*size->Hard xs):Rd w' size v n xs:=by
 by_cases hn:0<n*size
 ·refine h.same hs.size (fun j hj he=>?_)
  rcases hs.blk j hj with e | ⟨cs,t,fr,hb,sf⟩
  ·exact e
  ·exfalso;obtain⟨hl,ao,cap,rfl,_,hc⟩:=h
   have hn':0<n:=by
    rcases Nat.eq_zero_or_pos n with e | e
    ·subst e;simp at hn
    ·exact e
   obtain⟨b',o,rfl,_,hc⟩:=hc hn';simp only[Value.ownBlock,Option.some.injEq]at he;subst he
   have C:∀ k u,xs[k]?=some u->cs.toList[o+k]?=some u:=fun k u e=>by
    have hk:k<n*size:=by
     have:=(List.getElem?_eq_some_iff.1 e).1;omega
    have:=hc k hk;rw[e]at this;simp only[World.cell?,hb]at this;simpa using this
   rcases hd hn with ⟨k,u,e,f⟩ | ⟨k,a,b,c,e1,e2,e3,f1,f2,f3⟩
   ·have:=zyu sf _ _ (C k u e);rw[f]at this
    cases this
   ·exact zuf sf (o+k) a b c (C k a e1) (C (k+1) b e2) (C (k+2) c e3) ⟨f1,f2,f3⟩
 ·obtain⟨h3,ao,cap,rfl,h4,h5⟩:=h;refine⟨h3,ao,cap,rfl,h4,fun hp=>?_⟩;obtain⟨b',o,e,hlt,hc⟩:=h5 hp;exact⟨b',o,e,Nat.lt_of_lt_of_le hlt hs.size,fun j hj=>absurd (Nat.lt_of_le_of_lt (Nat.zero_le _) hj) hn⟩
theorem yamk{zs:List Int}(h:3<=zs.length):Hard (zcl zs):=.inr ⟨0,_,_,_,zde zs 0 (by omega),zde zs 1 (by omega),zde zs 2 (by omega),rfl,rfl,rfl⟩
theorem RdI.soft{w w':World}{v:Value}{zs:List Int}(h:RdI w v zs)(hs:Soft w w')(h3:3<=zs.length):RdI w' v zs:=Rd.soft h hs (fun _=>yamk h3)
theorem yauc{l:List Mi}(h:0<l.length):Hard (mis l):=by
 have a:=yamd l 0 h;have b:=yajr l 0 h;have c:=yanw l 0 h;rw[Nat.zero_mul]at a b c;exact .inr ⟨0,_,_,_,a,b,c,rfl,rfl,rfl⟩
theorem RdM.soft{w w':World}{v:Value}{l:List Mi}(h:RdM w v l)(hs:Soft w w'):RdM w' v l:=Rd.soft h hs (fun hn=>yauc (by omega))
theorem yani{l:List ByteArray}(h:0<l.length):Hard (zfl l):=.inl ⟨0,.string l[0],by simp[zfl,h],rfl⟩
theorem RdT.soft{w w':World}{v:Value}{l:List ByteArray}(h:RdT w v l)(hs:Soft w w'):RdT w' v l:=Rd.soft h hs (fun hn=>yani (by omega))
theorem Rd.softNil{w w':World}{size:Nat}{v:Value}(h:Rd w size v 0 [])(hs:Soft w w'):Rd w' size v 0 []:=Rd.soft h hs (fun hn=>by simp at hn)
theorem RdDev.soft{w w':World}{v:Value}{ws es:List Int}(h:RdDev w v ws [] es [])(hs:Soft w w')(h1:3<=ws.length)(h2:3<=es.length):RdDev w' v ws [] es []:=by
 obtain⟨vW,vP,vS,vQ,rfl,⟨_,_,e1,a,b⟩,⟨_,_,e2,c,d⟩⟩:=h
 cases e1
 cases e2
 exact⟨_,_,_,_,rfl,⟨_,_,rfl,RdI.soft a hs h1,Rd.softNil b hs⟩,⟨_,_,rfl,RdI.soft c hs h2,Rd.softNil d hs⟩⟩
end Go.Proofs.YtdiaiejmoocpmaaGreatDoor
