import Derived.Test.YtfagbapgnocjiaaGreatDoorZBL
set_option maxRecDepth 100000
set_option maxHeartbeats 16000000
namespace Go.Proofs.YtfagbapgnocjiaaGreatDoor
open Go.RowKit
def swL(i p e:Int):List Mi:=⟨1,48+12*i+(3+p),e⟩::zbg [48+12*i+(3+p)]
def deS(ns:List Ino)(x:Int):List Mi:=[⟨4,fsI ns,x⟩,⟨5,0,0⟩]
def prS(ns:List Ino)(x:Int):List Mi:=⟨1,312+fpI ns,x⟩::zbg [312+fpI ns]
def deF(ns:List Ino)(e x i p:Int):List Mi×Int:=if e=0\/¬ e%4=1 then([],5)else if fsI ns<0 then([],7) else(deS ns x++swL i p (4*fsI ns+2),0)
def prF(ns:List Ino)(e x i p:Int):List Mi×Int:=if e=0\/¬ e%4=2 then([],5)else if fpI ns<0 then([],7) else(prS ns x++swL i p (4*fpI ns+1),0)
def enI(ns:List Ino)(i p:Int):Int:=(zal ns i.toNat).map.getD p.toNat 0
theorem zxd(i p e:Int):(swL i p e).length<=3:=by
 have:=zbp [48+12*i+(3+p)];unfold swL;simp only[List.length_cons,List.length_nil]at this ⊢;omega
theorem zku(i p e:Int)(w:World)(hi:0<=i/\i<16)(hp:0<=p/\p<8) :
  zC 145 #[.I i,.I p,.I e] w fun r w'=>∃ v',r=.returned v'/\Row w' 173 3 w.heap.size w'.heap.size v' (swL i p e).length (mis (swL i p e))/\zB w w':=by
 have wp:IntKind.i64.wrap (3+p)=3+p:=by rw[IntKind.wrap_i64];omega
 have EX:=zaa (show swL i p e=[⟨1,48+12*i+(3+p),e⟩]++zbg [48+12*i+(3+p)]from rfl);rw[EX.o]
 have pr:0<=3+p/\3+p<11:=by omega
 have ar:0<=48+12*i+(3+p)/\48+12*i+(3+p)<336:=by omega
 have LN:=zaa (fun w1=>zay i (3+p) w1 hi pr);have l7:(zbg [48+12*i+(3+p)]).length<=2:=zbp [48+12*i+(3+p)];clear EX;generalize 48+12*i+(3+p)=a at *;have LF:=zaa (fun v w1 h=>zcu v [a] w1 h (by simp) (by intro j h;simp at h;subst h;simpa using ar));generalize zbg [a]=FL at *;go_enter Tryz.func145,Tryz.ntmps145;go_wp2_with fail;refine(LN.o _).mono ?_;rintro e w' ⟨rfl,hw'⟩;subst w';go_wp2_with fail;refine(zcv _ _ _).mono ?_;rintro r w4 ⟨rfl,hb4⟩
 have M4:Hid (MiI w (w4.alloc (.cells #[.I 1,.I a,.I e] 173)) (.slice (some ⟨w4.heap.size,0,none⟩) 1 1) [⟨1,a,e⟩]):=⟨World.ownsRow_lit w4 _ 1 hb4.size (by simp[maxLen]) rfl,hb4.alloc hb4.size _⟩
 have M6:=zaa (M4.o.below (zR.alloc zL (.cells #[.I a] 3)));have R6:=zaa (zkg (w4.alloc (.cells #[.I 1,.I a,.I e] 173)) a);simp only[World.size_alloc]at R6;clear hb4 M4;go_wp2_with fail;refine(LF.o _ _ R6.o).mono ?_;rintro r w7 ⟨v7,rfl,hr7,hb7⟩;have M7:=zaa (M6.o.below hb7);have R7:=zaa hr7.rd;have hz7:=M7.o.z;clear hr7 hb7 M6 R6;go_wp2_with (at_builtin;refine zaf _ rfl (.tmp 15) (.tmp 18) 79 rfl w.heap.size 173 (.agg #[.I 0,.I 0,.I 0]) 3 24 Tryz.underlying79 zbr rfl (by decide) _ _ _ rfl M7.o.l _ _ _ rfl R7.o (zct _) (by first | omega | (simp[maxLen];done) | (simp[maxLen];omega)) (by first | omega | (simp;done) | (simp;omega)) hz7 ?_);intro vT wT hownT hgrT;have M:=zaa (M7.o.grow FL hownT hgrT);obtain⟨-,aT,cT,hvT,-⟩:=(zac hownT).rd;subst hvT;clear hownT hgrT M7 R7;go_wp2;go_ret;exact⟨_,rfl,zac M.o.l,M.o.b⟩
def zwc(s:List Int×List Se)(l:List Mi):List Int×List Se:=l.foldl (fun s m=>(doE m s.1 s.2,doQ m s.2)) s
theorem znx(s:List Int×List Se)(l l':List Mi):zwc s (l++l')=zwc (zwc s l) l':=by unfold zwc;rw[List.foldl_append]
theorem zhm:∀ (l:List Mi) (s:List Int×List Se),(∀ m∈l,StOK m)->zwc s l=s
 | [],s,_=>rfl
 | m::l,s,h=>by
  have k:=(h m List.mem_cons_self).2
  show zwc (doE m s.1 s.2,doQ m s.2) l=s
  rw[zhm l _ (fun q hq=>h q (List.mem_cons_of_mem _ hq))];unfold doE doQ;rw[if_neg (by omega),if_neg (by omega),if_neg (by omega)]
theorem yaqj{m:Mi}(h:miB m=true):m.kind=1\/m.kind=2\/m.kind=3\/m.kind=4\/m.kind=5:=by
 have:=(zkp m.kind m.at_ m.val).1 h;omega
theorem yany:∀ (l:List Mi) (ws:List Int) (ps:List St) (es:List Int) (qs:List Se),(∀ m∈l,miB m=true)->ps.length+l.length<=400->qs.length+l.length<=400->mr l ws ps es qs=⟨0,(zon (ws,ps) l).1,(zon (ws,ps) l).2,(zwc (es,qs) l).1,(zwc (es,qs) l).2⟩
 | [],ws,ps,es,qs,_,_,_=>rfl
 | m::l,ws,ps,es,qs,hk,hl,hq=>by
   have h1:=yaqj (hk m List.mem_cons_self);simp only[List.length_cons]at hl hq;have hf:zpf m ps qs=false:=decide_eq_false (fun h=>by omega)
   have e:zqv (ws,ps) m=(doW m ws ps,doP m ps):=by
    unfold zqv doW doP
    rcases h1 with h | h | h | h | h
    ·rw[if_pos h,if_pos h,if_neg (by omega)]
    ·rw[if_neg (by omega),if_pos h,if_neg (by omega),if_neg (by omega),if_pos h]
    ·rw[if_neg (by omega),if_neg (by omega),if_pos h,if_pos h,if_neg (by omega),if_neg (by omega),if_pos h]
    ·rw[if_neg (by omega),if_neg (by omega),if_neg (by omega),if_neg (by omega),if_neg (by omega),if_neg (by omega),if_neg (by omega)]
    ·rw[if_neg (by omega),if_neg (by omega),if_neg (by omega),if_neg (by omega),if_neg (by omega),if_neg (by omega),if_neg (by omega)]
   have hp:(doP m ps).length<=ps.length+1:=by
    unfold doP
    split
    ·simp
    ·split
     ·simp
     ·split
      ·exact Nat.le_trans (List.length_filter_le _ _) (by omega)
      ·omega
   have hq':(doQ m qs).length<=qs.length+1:=by
    unfold doQ
    split
    ·simp
    ·split
     ·simp
     ·omega
   rw[zjc,e,show zwc (es,qs) (m::l)=zwc (doE m es qs,doQ m qs) l from rfl];simp only[mr,hf];exact yany l _ _ _ _ (fun q hq=>hk q (List.mem_cons_of_mem _ hq)) (by omega) (by omega)
theorem yasm{us:List Se}(ui:UpIn us)(wv:Wv us):∀ p∈zdq us,(48<=p.at_/\p.at_<336)/\0<=p.val/\p.val<1099511627776:=by
 intro p hp;obtain⟨u,hu,rfl⟩:=List.mem_map.1 (show p∈us.map (fun s=>up s.at_ s.val)from hp);have:=ui u hu;have:=wv u hu;exact⟨⟨by show 48<=u.at_;omega,by show u.at_<336;omega⟩,by show 0<=u.val;omega,by show u.val<_;omega⟩
theorem zsd{us:List Se}(ui:UpIn us)(wv:Wv us)(hl:us.length<=16):∀ m∈zdh (zdq us),StOK m:=by
 intro m hm;have A:=yasm ui wv;unfold zdh zht at hm
 split at hm
 ·cases hm
 ·rcases List.mem_append.1 hm with hm | hm
  ·rcases List.mem_append.1 hm with hm | hm
   ·refine ztv (fun p hp=>?_) m hm;have h1:=yafw (zdq us) 0 p hp;have h2:=yagl (zdq us) 0 A p hp;rw[zca]at h1;omega
   ·refine ztv (yanu _ ?_) m hm;rw[zca];omega
  ·rcases List.mem_append.1 hm with hm | hm
   ·exact ztv (fun p hp=>by have:=A p hp;omega) m hm
   ·exact ztv (yanu 0 (by omega)) m hm
structure Idle(ws es:List Int)(ns:List Ino)(ds:List Den):Prop where
 wi:Wi ws ns ds
 c0:wdI ws 8=0
 pm:pmB ws []=true
 bk:zpe es []=true
theorem Idle.img{ws es:List Int}{ns:List Ino}{ds:List Den}(h:Idle ws es ns ds):zbo ns ds=true:=zbv.2 h.wi.img
theorem zkk{ws es:List Int}{ns:List Ino}{ds:List Den}(h:Idle ws es ns ds){l:List Mi}{ws':List Int}{ns':List Ino}{ds':List Den}(r:zon (ws,[]) l=(ws',[]))(c:wdI ws' 8=0)(w:Wi ws' ns' ds')(hm:∀ m∈l,miB m=true)(hl:l.length<=200)(q:(zwc (es,[]) l).2=[]) :
  ∃ es',mr l ws [] es []=⟨0,ws',[],es',[]⟩/\Idle ws' es' ns' ds':=by
 have e:=yany l ws [] es [] hm (by simp;omega) (by simp;omega);rw[r,q]at e;have k:=yaqh l ws [] es [] h.pm h.bk hm;rw[e]at k;exact⟨_,e,w,c,k.1,k.2⟩
theorem zuv{ws es:List Int}{ns:List Ino}{ds:List Den}(h:Idle ws es ns ds):∃ ws' es' ns' ds',mr [] ws [] es []=⟨0,ws',[],es',[]⟩/\Idle ws' es' ns' ds':=⟨ws,es,ns,ds,rfl,h⟩
theorem yadk{ws es:List Int}{ns:List Ino}{ds:List Den}(h:Idle ws es ns ds){us:List Se}(ui:UpIn us)(hl:us.length<=16)(wv:Wv us){ns':List Ino}{ds':List Den}(q:Wi (zco ws us) ns' ds') :
  ∃ ws' es' ns' ds',mr (zdh (zdq us)) ws [] es []=⟨0,ws',[],es',[]⟩/\Idle ws' es' ns' ds':=by
 obtain⟨ls',r,c,w⟩:=yamd h.wi h.c0 ⟨ui,hl⟩ q;have ok:=zsd ui wv hl;have pl:=zjb us;obtain⟨es',e,k⟩:=zkk h r c w (fun m hm=>(ok m hm).1) (by omega) (by rw[zhm _ _ ok]);exact⟨ls',es',ns',ds',e,k⟩
theorem yaoe(a x:Int):(⟨1,a,x⟩::zbg [a]:List Mi)=seg [up a x]:=rfl
theorem yadt{a x:Int}(ha:0<=a/\a<336)(hx:0<=x/\x<1099511627776):∀ m∈(⟨1,a,x⟩::zbg [a]:List Mi),StOK m:=by
 rw[yaoe];refine ztv (fun p hp=>?_);rw[List.mem_singleton.1 hp];exact⟨ha,hx⟩
theorem zye{x:Int}(h:zbz x=true):0<=x/\x<1099511627776:=of_decide_eq_true h
theorem yadh(a x:Int):(⟨1,a,x⟩::zbg [a]:List Mi).length<=3:=by
 have:=zbp [a];simp only[List.length_cons,List.length_nil]at this ⊢;omega
theorem yano{k x:Int}(hk:0<=k/\k<32)(hx:0<=x/\x<1099511627776):∀ m∈([⟨4,k,x⟩,⟨5,0,0⟩]:List Mi),miB m=true:=by
 intro m hm
 rcases List.mem_cons.1 hm with rfl | hm
 ·exact(zkp _ _ _).2 (.inr (.inr (.inl ⟨rfl,hk,hx⟩)))
 ·rw[List.mem_singleton.1 hm];exact(zkp _ _ _).2 (.inr (.inr (.inr ⟨.inr rfl,rfl,rfl⟩)))
theorem zzj(es:List Int)(k x:Int):(zwc (es,[]) [⟨4,k,x⟩,⟨5,0,0⟩]).2=[]:=rfl
theorem yabo{ws es:List Int}{ns:List Ino}{ds:List Den}(h:Idle ws es ns ds){s:ByteArray}{page x:Int}(e:(wrI ns ds s page x).2=0) :
  (∃ ws' es' ns' ds',mr (wrI ns ds s page x).1 ws [] es []=⟨0,ws',[],es',[]⟩/\Idle ws' es' ns' ds')/\(∀ m∈(wrI ns ds s page x).1,miB m=true)/\(wrI ns ds s page x).1.length<=200/\0<=page/\page<8:=by
 obtain⟨i,p,ls',hi,hp,ei,ep,r,c,w⟩:=yakh h.wi h.c0 (show wrI ns ds s page x=((wrI ns ds s page x).1,0) by rw[<- e]);subst ep
 have f0:(flI ns ds s).2=0:=by
  unfold wrI at e
  split at e
  ·assumption
  ·assumption
 have form:∃ n:¬ (fpI ns<0/\fsI ns<0),zbz x=true/\(wrI ns ds s (p:Int) x).1=wrS ns x++zdh (zdq (wrU (i:Int) (p:Int) (zdl ns (i:Int)) (wrE ns))):=by
  unfold wrI at e ⊢;rw[if_pos f0,ei]at e ⊢;unfold wrF at e ⊢
  by_cases d:(0<=(p:Int)/\(p:Int)<8)/\zbz x=true
  ·rw[if_pos d]at e ⊢
   by_cases f:fpI ns<0/\fsI ns<0
   ·rw[if_pos f]at e
    cases e
   ·rw[if_neg f];exact⟨f,d.2,rfl⟩
  ·rw[if_neg d]at e
   cases e
 obtain⟨nf,wx,F⟩:=form;have X:=zye wx
 have k:=(zgp h.wi.img f0)
 obtain⟨i',hi',ei',k1⟩:=k
 have e':i'=i:=by rw[ei]at ei';omega
 subst e';obtain⟨te,he,new⟩:=yagp nf
 have sz:zdl ns (i':Int)=(zal ns i').size:=by unfold zdl;rw[Int.toNat_natCast]
 have ww:=zrd h.wi hi k1 hp te he new
 have wv:Wv (wrU (i':Int) (p:Int) (zal ns i').size (wrE ns)):=by
  have:=zei te;unfold wrU;refine Wv.cons (by omega) ?_
  split
  ·exact Wv.one (by omega)
  ·intro u hu;cases hu
 have ul:(wrU (i':Int) (p:Int) (zal ns i').size (wrE ns)).length<=2:=by unfold wrU;split<;>simp
 have ok2:=zsd ww.1 wv (by omega);have pl:=zjb (wrU (i':Int) (p:Int) (zal ns i').size (wrE ns));rw[sz]at F
 have b1:fpI ns<24:=by
  have:=(zds (fun i=>!zgv (zbm (zaq ns) 1) (i:Int)) 24).2;unfold fpI;omega
 have b2:fsI ns<32:=by
  have:=(zds (fun i=>!zgv (zbm (zaq ns) 2) (i:Int)) 32).2;unfold fsI;omega
 have okS:(∀ m∈wrS ns x,miB m=true)/\(wrS ns x).length<=3/\(zwc (es,[]) (wrS ns x)).2=[]:=by
  unfold wrS
  by_cases q:0<=fpI ns
  ·rw[if_pos q];have o:=yadt (a:=312+fpI ns) (x:=x) (by omega) X;exact⟨fun m hm=>(o m hm).1,yadh _ _,by rw[zhm _ _ o]⟩
  ·rw[if_neg q];exact⟨yano (by omega) X,by simp,zzj _ _ _⟩
 have ALL:∀ m∈(wrI ns ds s (p:Int) x).1,miB m=true:=by
  rw[F];intro m hm
  rcases List.mem_append.1 hm with hm | hm
  ·exact okS.1 m hm
  ·exact(ok2 m hm).1
 have LEN:(wrI ns ds s (p:Int) x).1.length<=200:=by
  rw[F,List.length_append];have:=okS.2.1;omega
 obtain⟨es',e2,k2⟩:=zkk h r c w ALL LEN (by
  rw[F,znx];rw[zhm _ _ ok2]
  exact okS.2.2)
 exact⟨⟨_,_,_,_,e2,k2⟩,ALL,LEN,by omega,by omega⟩
theorem zqn(vd v:Value)(ws:List Int)(ps:List St)(es:List Int)(qs:List Se)(ns:List Ino)(ds:List Den)(i p:Nat)(w:World)(hd:RdDev w vd ws ps es qs)(hP:pmB ws ps=true)(hB:zpe es qs=true)(h:RdIm w v ns ds)(hi:zbo ns ds=true)(i16:i<16)(p8:p<8) :
  zC 114 #[vd,v,.I (i:Int),.I (p:Int)] w fun e w'=>yaff w w' e (deF ns (enI ns (i:Int) (p:Int)) (pgV ws ps es qs (enI ns (i:Int) (p:Int))) (i:Int) (p:Int)):=by
 have TE:zel (enI ns (i:Int) (p:Int))=true:=by
  unfold enI;rw[Int.toNat_natCast,Int.toNat_natCast];exact yaie hi i16 p
 have LV:=zaa (fun w1 (hb:zB w w1)=>zgy vd ws ps es qs (enI ns (i:Int) (p:Int)) w1 (hd.below hb) hP hB TE);obtain⟨z0,z1⟩:=zei TE;obtain⟨l16,l24,_⟩:=zao hi
 have TR:∀ k (h:k<ns.length),∀ z∈ns[k].map,0<=z/\z<=1048576:=fun k hk z hz=>by
  have t:=(zfk ((zbv.1 hi).ok k (by omega))).1 z (by rw[zcc hk];exact hz);exact zei t
 have LF:Hid (∀ w1,zB w w1->zC 141 #[v,.I 2,.I 32] w1 fun e w'=>e=.returned (.I (fsI ns))/\zB w1 w'):=fun w1 hb=>zgg v ns ds 2 32 w1 (h.below hb) (by omega) TR (by omega)
 have L16:=zaa l16
 have F1:Hid (0<=fsI ns->∃ k:Nat,k<32/\fsI ns=(k:Int)):=fun c=>by
  obtain⟨k,a,b,-⟩:=zcw c;exact⟨k,a,b⟩
 have EL:=zaa (fun x=>show deF ns (enI ns (i:Int) (p:Int)) x (i:Int) (p:Int)=if enI ns (i:Int) (p:Int)=0\/¬ enI ns (i:Int) (p:Int)%4=1 then([],5)else if fsI ns<0 then([],7) else(deS ns x++swL (i:Int) (p:Int) (4*fsI ns+2),0)from rfl);obtain⟨vW,vP,rfl,h1,h2⟩:=h;obtain⟨aW,cW,rfl,_,hcW⟩:=h1.shape;obtain⟨aP,cP,rfl,_,hcP⟩:=h2.shape;obtain⟨bW,oW,rfl,hblW,hcellW⟩:=hcW (by omega)
 have HM:Hid (∀ w',zB w w'->w'.cell? ⟨bW,oW+i*11+3+p,none⟩=some (.I (enI ns (i:Int) (p:Int)))):=fun w' hb=>by
  unfold enI;rw[Int.toNat_natCast,Int.toNat_natCast,zcc (by have:=L16.o;omega:i<ns.length)];obtain⟨a0,a1,a2,a3,a4,a5,a6,a7,a8,a9,a10⟩:=hcellW i (by have:=L16.o;omega)
  rcases(show p=0\/p=1\/p=2\/p=3\/p=4\/p=5\/p=6\/p=7 by omega)with rfl|rfl|rfl|rfl|rfl|rfl|rfl|rfl
  ·exact(hb.cell (p:=⟨bW,oW+i*11+3,none⟩) hblW).trans a3
  ·exact(hb.cell (p:=⟨bW,oW+i*11+4,none⟩) hblW).trans a4
  ·exact(hb.cell (p:=⟨bW,oW+i*11+5,none⟩) hblW).trans a5
  ·exact(hb.cell (p:=⟨bW,oW+i*11+6,none⟩) hblW).trans a6
  ·exact(hb.cell (p:=⟨bW,oW+i*11+7,none⟩) hblW).trans a7
  ·exact(hb.cell (p:=⟨bW,oW+i*11+8,none⟩) hblW).trans a8
  ·exact(hb.cell (p:=⟨bW,oW+i*11+9,none⟩) hblW).trans a9
  ·exact(hb.cell (p:=⟨bW,oW+i*11+10,none⟩) hblW).trans a10
 obtain⟨dW,eW,dP,eP,dS,eS,dQ,eQ,rfl,-,-⟩:=hd.form
 have i1:(i:Int)<(ns.length:Int):=by have:=L16.o;omega
 have i0:(0:Int)<=(i:Int):=by omega
 have p0:(0:Int)<=(p:Int):=by omega
 have p1:(p:Int)<8:=by omega
 clear h1 h2 hi hcW hcP hcellW l16 l24 TR hd hP hB L16 TE
 obtain⟨W0,hW0⟩:=zE (w.alloc (.cells #[.slice dW ws.length eW,.slice dP ps.length eP,.slice dS es.length eS,.slice dQ qs.length eQ] 78))
 obtain⟨W,hW⟩:=zE (W0.alloc (.cells #[.slice (some ⟨bW,oW,none⟩) ns.length cW,.slice aP ds.length cP] 26))
 have z0':W0.heap.size=w.heap.size+1:=by rw[hW0];simp
 have CA:Hid (∀ w',zB W w'->w'.cell? ⟨w.heap.size+1,0,none⟩=some (.slice (some ⟨bW,oW,none⟩) ns.length cW)/\w'.cell? ⟨w.heap.size+1,1,none⟩=some (.slice aP ds.length cP)):=fun w' hb=>by
  have:w'.heap[w.heap.size+1]?=some (.cells #[.slice (some ⟨bW,oW,none⟩) ns.length cW,.slice aP ds.length cP] 26 (0,0)):=(hb.block _ (by rw[hW];simp;omega)).trans (by rw[hW,<- z0'];exact zai rfl);exact⟨(zad this).1,(zad this).2.1⟩
 have CD:Hid (∀ w',zB W w'->w'.cell? ⟨w.heap.size,0,none⟩=some (.slice dW ws.length eW)/\w'.cell? ⟨w.heap.size,1,none⟩=some (.slice dP ps.length eP)/\w'.cell? ⟨w.heap.size,2,none⟩=some (.slice dS es.length eS)/\w'.cell? ⟨w.heap.size,3,none⟩=some (.slice dQ qs.length eQ)):=fun w' hb=>by
  have:w'.heap[w.heap.size]?=some (.cells #[.slice dW ws.length eW,.slice dP ps.length eP,.slice dS es.length eS,.slice dQ qs.length eQ] 78 (0,0)):=(hb.block _ (by rw[hW];simp;omega)).trans (by
   rw[hW]
   exact(((Below.refl W0.heap.size W0).alloc zL _).block _ (by omega)).trans (by rw[hW0];exact zai rfl))
  obtain⟨a,b,c,d,-⟩:=zas this;exact⟨a,b,c,d⟩
 have BW:Hid (zB w W):=by rw[hW,hW0];exact(zR.alloc zL _).alloc (by simp) _
 generalize enI ns (i:Int) (p:Int)=e at *;generalize pgV ws ps es qs e=x at *;have EL1:=zaa (EL.o x);have te:Int.tmod e 4=e%4:=Int.tmod_eq_emod_of_nonneg z0;clear EL z0';generalize deF ns e x (i:Int) (p:Int)=res at *;obtain⟨x0,x1⟩:=CA.o _ zR;have e0:=HM.o _ BW.o;go_enter Tryz.func114,Tryz.ntmps114;go_upto_region 1 with fail;rw[<- hW0,<- hW];clear hW hW0
 by_cases c1:e=0
 ·rw[if_pos (.inl c1)]at EL1;obtain rfl:=EL1.o;subst c1;clear EL1 LV LF;go_wp2;go_ret2;exact zfl BW.o rfl
 have q1:(e == 0)=false:=by rw[beq_eq_false_iff_ne];exact c1
 by_cases c2:e%4=1
 case neg =>
  rw[if_pos (.inr c2)]at EL1;obtain rfl:=EL1.o
  have q2:(e%4 != 1)=true:=by rw[bne_iff_ne];exact c2
  clear EL1 LV LF c1 c2;go_wp2;go_ret2;exact zfl BW.o rfl
 have q2:(e%4 != 1)=false:=by rw[bne_eq_false_iff_eq];exact c2
 rw[if_neg (fun h=>h.elim c1 (fun h=>h c2))]at EL1;clear c1 c2;go_wp2_with fail;refine(LF.o _ BW.o).mono ?_;rintro r w1 ⟨rfl,hb1⟩;have A1:=zaa hb1;have B1:=zaa (zab BW.o hb1 BW.o.size);clear hb1 x0 x1 e0 LF
 by_cases c:fsI ns<0
 ·rw[if_pos c]at EL1;obtain rfl:=EL1.o;generalize fsI ns=fr at *;clear EL1 LV F1;go_wp2;go_ret2;exact zfl B1.o rfl
 rw[if_neg c]at EL1;obtain⟨k,k1,ek⟩:=F1.o (by omega);have KS:=zaa ek;rw[ek]at EL1 ⊢
 have c':¬ (k:Int)<0:=by omega
 clear F1 c ek;obtain⟨x0,x1,x2,x3⟩:=CD.o _ A1.o;have EX:=zaa (show deS ns x=[⟨4,(k:Int),x⟩,⟨5,0,0⟩] by unfold deS;rw[KS.o]);rw[EX.o]at EL1;have l7:=zxd (i:Int) (p:Int) (4*(k:Int)+2);have LSw:=zaa (fun w1=>zku (i:Int) (p:Int) (4*(k:Int)+2) w1 ⟨i0,by omega⟩ ⟨p0,p1⟩)
 have kr:0<=(k:Int)/\(k:Int)<32:=by omega
 clear EX KS;generalize swL (i:Int) (p:Int) (4*(k:Int)+2)=SW at *;go_wp2_with fail;refine(LV.o _ B1.o).mono ?_;rintro r w2 ⟨rfl,hb2⟩;have B2:=zaa (zab B1.o hb2 B1.o.size)
 have M2:Hid (MiI w (w2.alloc (.cells #[.I 4,.I (k:Int),.I x,.I 5,.I 0,.I 0] 173)) (.slice (some ⟨w2.heap.size,0,none⟩) 2 2) [⟨4,(k:Int),x⟩,⟨5,0,0⟩]):=⟨World.ownsRow_lit w2 _ 2 B2.o.size (by simp[maxLen]) rfl,B2.o.alloc B2.o.size _⟩
 clear hb2 x0 x1 x2 x3 LV;go_wp2_with fail;refine(zfh _ _ _ (by omega) kr).mono ?_;rintro r w' ⟨rfl,hw'⟩;subst w';go_wp2_with fail;refine(LSw.o _).mono ?_;rintro r w7 ⟨v7,rfl,hr7,hb7⟩;have M7:=zaa (M2.o.below hb7);have R7:=zaa hr7.rd;have hz7:=M7.o.z;clear hr7 hb7 M2 LSw;go_wp2_with (at_builtin;refine zaf _ rfl (.tmp 41) (.tmp 46) 79 rfl w.heap.size 173 (.agg #[.I 0,.I 0,.I 0]) 3 24 Tryz.underlying79 zbr rfl (by decide) _ _ _ rfl M7.o.l _ _ _ rfl R7.o (zct _) (by first | omega | (simp[maxLen];done) | (simp[maxLen];omega)) (by first | omega | (simp;done) | (simp;omega)) hz7 ?_);intro vT wT hownT hgrT;have M:=zaa (M7.o.grow SW hownT hgrT);obtain⟨-,aT,cT,hvT,-⟩:=(zac hownT).rd;subst hvT;obtain rfl:=EL1.o;clear hownT hgrT M7 R7 EL1;go_wp2;go_ret2;exact⟨_,rfl,zac M.o.l,M.o.b⟩
theorem zot(vd v:Value)(ws:List Int)(ps:List St)(es:List Int)(qs:List Se)(ns:List Ino)(ds:List Den)(i p:Nat)(w:World)(hd:RdDev w vd ws ps es qs)(hP:pmB ws ps=true)(hB:zpe es qs=true)(h:RdIm w v ns ds)(hi:zbo ns ds=true)(i16:i<16)(p8:p<8) :
  zC 113 #[vd,v,.I (i:Int),.I (p:Int)] w fun e w'=>yaff w w' e (prF ns (enI ns (i:Int) (p:Int)) (pgV ws ps es qs (enI ns (i:Int) (p:Int))) (i:Int) (p:Int)):=by
 have TE:zel (enI ns (i:Int) (p:Int))=true:=by
  unfold enI;rw[Int.toNat_natCast,Int.toNat_natCast];exact yaie hi i16 p
 have LV:=zaa (fun w1 (hb:zB w w1)=>zgy vd ws ps es qs (enI ns (i:Int) (p:Int)) w1 (hd.below hb) hP hB TE);obtain⟨z0,z1⟩:=zei TE;obtain⟨l16,l24,_⟩:=zao hi
 have TR:∀ k (h:k<ns.length),∀ z∈ns[k].map,0<=z/\z<=1048576:=fun k hk z hz=>by
  have t:=(zfk ((zbv.1 hi).ok k (by omega))).1 z (by rw[zcc hk];exact hz);exact zei t
 have LF:Hid (∀ w1,zB w w1->zC 141 #[v,.I 1,.I 24] w1 fun e w'=>e=.returned (.I (fpI ns))/\zB w1 w'):=fun w1 hb=>zgg v ns ds 1 24 w1 (h.below hb) (by omega) TR (by omega)
 have L16:=zaa l16
 have F1:Hid (0<=fpI ns->∃ k:Nat,k<24/\fpI ns=(k:Int)):=fun c=>by
  obtain⟨k,a,b,-⟩:=zcw c;exact⟨k,a,b⟩
 have EL:=zaa (fun x=>show prF ns (enI ns (i:Int) (p:Int)) x (i:Int) (p:Int)=if enI ns (i:Int) (p:Int)=0\/¬ enI ns (i:Int) (p:Int)%4=2 then([],5)else if fpI ns<0 then([],7) else(prS ns x++swL (i:Int) (p:Int) (4*fpI ns+1),0)from rfl);obtain⟨vW,vP,rfl,h1,h2⟩:=h;obtain⟨aW,cW,rfl,_,hcW⟩:=h1.shape;obtain⟨aP,cP,rfl,_,hcP⟩:=h2.shape;obtain⟨bW,oW,rfl,hblW,hcellW⟩:=hcW (by omega)
 have HM:Hid (∀ w',zB w w'->w'.cell? ⟨bW,oW+i*11+3+p,none⟩=some (.I (enI ns (i:Int) (p:Int)))):=fun w' hb=>by
  unfold enI;rw[Int.toNat_natCast,Int.toNat_natCast,zcc (by have:=L16.o;omega:i<ns.length)];obtain⟨a0,a1,a2,a3,a4,a5,a6,a7,a8,a9,a10⟩:=hcellW i (by have:=L16.o;omega)
  rcases(show p=0\/p=1\/p=2\/p=3\/p=4\/p=5\/p=6\/p=7 by omega)with rfl|rfl|rfl|rfl|rfl|rfl|rfl|rfl
  ·exact(hb.cell (p:=⟨bW,oW+i*11+3,none⟩) hblW).trans a3
  ·exact(hb.cell (p:=⟨bW,oW+i*11+4,none⟩) hblW).trans a4
  ·exact(hb.cell (p:=⟨bW,oW+i*11+5,none⟩) hblW).trans a5
  ·exact(hb.cell (p:=⟨bW,oW+i*11+6,none⟩) hblW).trans a6
  ·exact(hb.cell (p:=⟨bW,oW+i*11+7,none⟩) hblW).trans a7
  ·exact(hb.cell (p:=⟨bW,oW+i*11+8,none⟩) hblW).trans a8
  ·exact(hb.cell (p:=⟨bW,oW+i*11+9,none⟩) hblW).trans a9
  ·exact(hb.cell (p:=⟨bW,oW+i*11+10,none⟩) hblW).trans a10
 obtain⟨dW,eW,dP,eP,dS,eS,dQ,eQ,rfl,-,-⟩:=hd.form
 have i1:(i:Int)<(ns.length:Int):=by have:=L16.o;omega
 have i0:(0:Int)<=(i:Int):=by omega
 have p0:(0:Int)<=(p:Int):=by omega
 have p1:(p:Int)<8:=by omega
 clear h1 h2 hi hcW hcP hcellW l16 l24 TR hd hP hB L16 TE
 obtain⟨W0,hW0⟩:=zE (w.alloc (.cells #[.slice dW ws.length eW,.slice dP ps.length eP,.slice dS es.length eS,.slice dQ qs.length eQ] 78))
 obtain⟨W,hW⟩:=zE (W0.alloc (.cells #[.slice (some ⟨bW,oW,none⟩) ns.length cW,.slice aP ds.length cP] 26))
 have z0':W0.heap.size=w.heap.size+1:=by rw[hW0];simp
 have CA:Hid (∀ w',zB W w'->w'.cell? ⟨w.heap.size+1,0,none⟩=some (.slice (some ⟨bW,oW,none⟩) ns.length cW)/\w'.cell? ⟨w.heap.size+1,1,none⟩=some (.slice aP ds.length cP)):=fun w' hb=>by
  have:w'.heap[w.heap.size+1]?=some (.cells #[.slice (some ⟨bW,oW,none⟩) ns.length cW,.slice aP ds.length cP] 26 (0,0)):=(hb.block _ (by rw[hW];simp;omega)).trans (by rw[hW,<- z0'];exact zai rfl);exact⟨(zad this).1,(zad this).2.1⟩
 have CD:Hid (∀ w',zB W w'->w'.cell? ⟨w.heap.size,0,none⟩=some (.slice dW ws.length eW)/\w'.cell? ⟨w.heap.size,1,none⟩=some (.slice dP ps.length eP)/\w'.cell? ⟨w.heap.size,2,none⟩=some (.slice dS es.length eS)/\w'.cell? ⟨w.heap.size,3,none⟩=some (.slice dQ qs.length eQ)):=fun w' hb=>by
  have:w'.heap[w.heap.size]?=some (.cells #[.slice dW ws.length eW,.slice dP ps.length eP,.slice dS es.length eS,.slice dQ qs.length eQ] 78 (0,0)):=(hb.block _ (by rw[hW];simp;omega)).trans (by
   rw[hW]
   exact(((Below.refl W0.heap.size W0).alloc zL _).block _ (by omega)).trans (by rw[hW0];exact zai rfl))
  obtain⟨a,b,c,d,-⟩:=zas this;exact⟨a,b,c,d⟩
 have BW:Hid (zB w W):=by rw[hW,hW0];exact(zR.alloc zL _).alloc (by simp) _
 generalize enI ns (i:Int) (p:Int)=e at *;generalize pgV ws ps es qs e=x at *;have EL1:=zaa (EL.o x);have te:Int.tmod e 4=e%4:=Int.tmod_eq_emod_of_nonneg z0;clear EL z0';generalize prF ns e x (i:Int) (p:Int)=res at *;obtain⟨x0,x1⟩:=CA.o _ zR;have e0:=HM.o _ BW.o;go_enter Tryz.func113,Tryz.ntmps113;go_upto_region 1 with fail;rw[<- hW0,<- hW];clear hW hW0
 by_cases c1:e=0
 ·rw[if_pos (.inl c1)]at EL1;obtain rfl:=EL1.o;subst c1;clear EL1 LV LF;go_wp2;go_ret2;exact zfl BW.o rfl
 have q1:(e == 0)=false:=by rw[beq_eq_false_iff_ne];exact c1
 by_cases c2:e%4=2
 case neg =>
  rw[if_pos (.inr c2)]at EL1;obtain rfl:=EL1.o
  have q2:(e%4 != 2)=true:=by rw[bne_iff_ne];exact c2
  clear EL1 LV LF c1 c2;go_wp2;go_ret2;exact zfl BW.o rfl
 have q2:(e%4 != 2)=false:=by rw[bne_eq_false_iff_eq];exact c2
 rw[if_neg (fun h=>h.elim c1 (fun h=>h c2))]at EL1;clear c1 c2;go_wp2_with fail;refine(LF.o _ BW.o).mono ?_;rintro r w1 ⟨rfl,hb1⟩;have A1:=zaa hb1;have B1:=zaa (zab BW.o hb1 BW.o.size);clear hb1 x0 x1 e0 LF
 by_cases c:fpI ns<0
 ·rw[if_pos c]at EL1;obtain rfl:=EL1.o;generalize fpI ns=fr at *;clear EL1 LV F1;go_wp2;go_ret2;exact zfl B1.o rfl
 rw[if_neg c]at EL1;obtain⟨k,k1,ek⟩:=F1.o (by omega);have KS:=zaa ek;rw[ek]at EL1 ⊢
 have c':¬ (k:Int)<0:=by omega
 clear F1 c ek;obtain⟨x0,x1,x2,x3⟩:=CD.o _ A1.o
 have wpk:IntKind.i64.wrap (312+(k:Int))=312+(k:Int):=by rw[IntKind.wrap_i64];omega
 have EX:=zaa (show prS ns x=[⟨1,312+(k:Int),x⟩]++zbg [312+(k:Int)] by unfold prS;rw[KS.o];rfl);rw[EX.o]at EL1;have l7:=zxd (i:Int) (p:Int) (4*(k:Int)+1);have LSw:=zaa (fun w1=>zku (i:Int) (p:Int) (4*(k:Int)+1) w1 ⟨i0,by omega⟩ ⟨p0,p1⟩)
 have kr:0<=(k:Int)/\(k:Int)<32:=by omega
 have l6:(zbg [312+(k:Int)]).length<=2:=zbp [312+(k:Int)];have LFl:=zaa (fun v w1 h=>zcu v [312+(k:Int)] w1 h (by simp) (by intro j h;simp at h;subst h;simp;omega));clear EX KS;generalize swL (i:Int) (p:Int) (4*(k:Int)+1)=SW at *;generalize zbg [312+(k:Int)]=FL at *;go_wp2_with fail;refine(LV.o _ B1.o).mono ?_;rintro r w2 ⟨rfl,hb2⟩;have B2:=zaa (zab B1.o hb2 B1.o.size);clear hb2 x0 x1 x2 x3 LV;go_wp2_with fail;refine(zcv _ _ _).mono ?_;rintro r w4 ⟨rfl,hb4⟩;have B4:=zaa (zab B2.o hb4 B2.o.size)
 have M4:Hid (MiI w (w4.alloc (.cells #[.I 1,.I (312+(k:Int)),.I x] 173)) (.slice (some ⟨w4.heap.size,0,none⟩) 1 1) [⟨1,312+(k:Int),x⟩]):=⟨World.ownsRow_lit w4 _ 1 B4.o.size (by simp[maxLen]) rfl,B4.o.alloc B4.o.size _⟩
 have M6:=zaa (M4.o.below (zR.alloc zL (.cells #[.I (312+(k:Int))] 3)));have R6:=zaa (zkg (w4.alloc (.cells #[.I 1,.I (312+(k:Int)),.I x] 173)) (312+(k:Int)));simp only[World.size_alloc]at R6;clear hb4 M4;go_wp2_with fail;refine(LFl.o _ _ R6.o).mono ?_;rintro r w5 ⟨v5,rfl,hr5,hb5⟩;have M5:=zaa (M6.o.below hb5);have R5:=zaa hr5.rd;have hz5:=M5.o.z;clear hr5 hb5 M6 R6 LFl;go_wp2_with (at_builtin;refine zaf _ rfl (.tmp 40) (.tmp 44) 79 rfl w.heap.size 173 (.agg #[.I 0,.I 0,.I 0]) 3 24 Tryz.underlying79 zbr rfl (by decide) _ _ _ rfl M5.o.l _ _ _ rfl R5.o (zct _) (by first | omega | (simp[maxLen];done) | (simp[maxLen];omega)) (by first | omega | (simp;done) | (simp;omega)) hz5 ?_);intro vS wS hownS hgrS;have M6:=zaa (M5.o.grow FL hownS hgrS)
 have l8:([(⟨1,312+(k:Int),x⟩:Mi)]++FL).length<=3:=by simp;omega
 generalize [(⟨1,312+(k:Int),x⟩:Mi)]++FL=LL at *;clear hownS hgrS M5 R5;go_wp2_with fail;refine(zfh _ _ _ (by omega) kr).mono ?_;rintro r w' ⟨rfl,hw'⟩;subst w';go_wp2_with fail;refine(LSw.o _).mono ?_;rintro r w7 ⟨v7,rfl,hr7,hb7⟩;have M7:=zaa (M6.o.below hb7);have R7:=zaa hr7.rd;have hz7:=M7.o.z;clear hr7 hb7 M6 LSw;go_wp2_with (at_builtin;refine zaf _ rfl (.tmp 46) (.tmp 51) 79 rfl w.heap.size 173 (.agg #[.I 0,.I 0,.I 0]) 3 24 Tryz.underlying79 zbr rfl (by decide) _ _ _ rfl M7.o.l _ _ _ rfl R7.o (zct _) (by first | omega | (simp[maxLen];done) | (simp[maxLen];omega)) (by first | omega | (simp;done) | (simp;omega)) hz7 ?_);intro vT wT hownT hgrT;have M:=zaa (M7.o.grow SW hownT hgrT);obtain⟨-,aT,cT,hvT,-⟩:=(zac hownT).rd;subst hvT;obtain rfl:=EL1.o;clear hownT hgrT M7 R7 EL1;go_wp2;go_ret2;exact⟨_,rfl,zac M.o.l,M.o.b⟩
end Go.Proofs.YtfagbapgnocjiaaGreatDoor
