import Derived.Test.YtogcbbkhnpmgeaaGreatDoorZBH
set_option maxRecDepth 100000
set_option maxHeartbeats 8000000
namespace Go.Proofs.YtogcbbkhnpmgeaaGreatDoor
open Go.RowKit
def pgE(ns:List Ino)(i:Nat):Int:=(zam ns (i/8)).map.getD (i%8) 0
def pkS(ns:List Ino)(hs:List Int)(t:Int)(hot:Bool)(b:Int)(i:Nat):Int:=if pgE ns i=0\/¬ pgE ns i%4=t then b else if b<0\/(hot=true/\hs.getD b.toNat 0<hs.getD i 0)\/(hot=false/\hs.getD i 0<hs.getD b.toNat 0) then(i:Int)else b
def pkN(ns:List Ino)(hs:List Int)(t:Int)(hot:Bool):Nat->Int
 | 0=>-1
 | n+1=>pkS ns hs t hot (pkN ns hs t hot n) n
theorem ztj(ns:List Ino)(hs:List Int)(t:Int)(hot:Bool)(n:Nat):-1<=pkN ns hs t hot n/\pkN ns hs t hot n<(n:Int):=by
 induction n with
 | zero=>exact⟨Int.le_refl (-1),show(-1:Int)<0 by decide⟩
 | succ n ih =>
  have e:pkN ns hs t hot (n+1)=pkS ns hs t hot (pkN ns hs t hot n) n:=rfl;rw[e];unfold pkS
  split
  ·omega
  ·split<;>omega
theorem yajs{ns:List Ino}{ds:List Den}(h:zcr ns ds=true){k:Nat}(hk:k<16)(j:Nat):zef ((zam ns k).map.getD j 0)=true:=by
 have t:=(zet ((zbi.1 h).ok k hk)).1;rw[List.getD_eq_getElem?_getD]
 rcases Nat.lt_or_ge j (zam ns k).map.length with q | q
 ·rw[List.getElem?_eq_getElem q];exact t _ (List.getElem_mem q)
 ·rw[List.getElem?_eq_none q];exact zts
def swL(i p e:Int):List Mi:=⟨1,48+12*i+(3+p),e⟩::zbf [48+12*i+(3+p)]
def deS(ns:List Ino)(x:Int):List Mi:=[⟨4,fsI ns,x⟩,⟨5,0,0⟩]
def prS(ns:List Ino)(x:Int):List Mi:=⟨1,312+fpI ns,x⟩::zbf [312+fpI ns]
def deF(ns:List Ino)(e x i p:Int):List Mi×Int:=if e=0\/¬ e%4=1 then([],5)else if fsI ns<0 then([],7) else(deS ns x++swL i p (4*fsI ns+2),0)
def prF(ns:List Ino)(e x i p:Int):List Mi×Int:=if e=0\/¬ e%4=2 then([],5)else if fpI ns<0 then([],7) else(prS ns x++swL i p (4*fpI ns+1),0)
def enI(ns:List Ino)(i p:Int):Int:=(zam ns i.toNat).map.getD p.toNat 0
theorem zxo(i p e:Int):(swL i p e).length<=3:=by
 have:=zbv [48+12*i+(3+p)];unfold swL;simp only[List.length_cons,List.length_nil]at this ⊢;omega
theorem zli(i p e:Int)(w:World)(hi:0<=i/\i<16)(hp:0<=p/\p<8) :
  zC 163 #[.I i,.I p,.I e] w fun r w'=>∃ v',r=.returned v'/\Row w' 82 3 w.heap.size w'.heap.size v' (swL i p e).length (mis (swL i p e))/\zB w w':=by
 have wp:IntKind.i64.wrap (3+p)=3+p:=by rw[IntKind.wrap_i64];omega
 have EX:=zaa (show swL i p e=[⟨1,48+12*i+(3+p),e⟩]++zbf [48+12*i+(3+p)]from rfl);rw[EX.o]
 have pr:0<=3+p/\3+p<11:=by omega
 have ar:0<=48+12*i+(3+p)/\48+12*i+(3+p)<336:=by omega
 have LN:=zaa (fun w1=>zay i (3+p) w1 hi pr);have l7:(zbf [48+12*i+(3+p)]).length<=2:=zbv [48+12*i+(3+p)];clear EX;generalize 48+12*i+(3+p)=a at *;have LF:=zaa (fun v w1 h=>zcu v [a] w1 h (by simp) (by intro j h;simp at h;subst h;simpa using ar));generalize zbf [a]=FL at *;go_enter Tryz.func163,Tryz.ntmps163;go_wp2_with fail;refine(LN.o _).mono ?_;rintro e w' ⟨rfl,hw'⟩;subst w';go_wp2_with fail;refine(zct _ _ _).mono ?_;rintro r w4 ⟨rfl,hb4⟩
 have M4:Hid (MiI w (w4.alloc (.cells #[.I 1,.I a,.I e] 82)) (.slice (some ⟨w4.heap.size,0,none⟩) 1 1) [⟨1,a,e⟩]):=⟨World.ownsRow_lit w4 _ 1 hb4.size (by simp[maxLen]) rfl,hb4.alloc hb4.size _⟩
 have M6:=zaa (M4.o.below (zR.alloc zL (.cells #[.I a] 3)));have R6:=zaa (zks (w4.alloc (.cells #[.I 1,.I a,.I e] 82)) a);simp only[World.size_alloc]at R6;clear hb4 M4;go_wp2_with fail;refine(LF.o _ _ R6.o).mono ?_;rintro r w7 ⟨v7,rfl,hr7,hb7⟩;have M7:=zaa (M6.o.below hb7);have R7:=zaa hr7.rd;have hz7:=M7.o.z;clear hr7 hb7 M6 R6;go_wp2_with (at_builtin;refine zae _ rfl (.tmp 15) (.tmp 18) 32 rfl w.heap.size 82 (.agg #[.I 0,.I 0,.I 0]) 3 24 Tryz.underlying32 zbx rfl (by decide) _ _ _ rfl M7.o.l _ _ _ rfl R7.o (zcv _) (by first | omega | (simp[maxLen];done) | (simp[maxLen];omega)) (by first | omega | (simp;done) | (simp;omega)) hz7 ?_);intro vT wT hownT hgrT;have M:=zaa (M7.o.grow FL hownT hgrT);obtain⟨-,aT,cT,hvT,-⟩:=(zad hownT).rd;subst hvT;clear hownT hgrT M7 R7;go_wp2;go_ret;exact⟨_,rfl,zad M.o.l,M.o.b⟩
def zwm(s:List Int×List Se)(l:List Mi):List Int×List Se:=l.foldl (fun s m=>(doE m s.1 s.2,doQ m s.2)) s
theorem zog(s:List Int×List Se)(l l':List Mi):zwm s (l++l')=zwm (zwm s l) l':=by unfold zwm;rw[List.foldl_append]
theorem zhv:∀ (l:List Mi) (s:List Int×List Se),(∀ m∈l,StOK m)->zwm s l=s
 | [],s,_=>rfl
 | m::l,s,h=>by
  have k:=(h m List.mem_cons_self).2
  show zwm (doE m s.1 s.2,doQ m s.2) l=s
  rw[zhv l _ (fun q hq=>h q (List.mem_cons_of_mem _ hq))];unfold doE doQ;rw[if_neg (by omega),if_neg (by omega),if_neg (by omega)]
theorem yaqi{m:Mi}(h:miB m=true):m.kind=1\/m.kind=2\/m.kind=3\/m.kind=4\/m.kind=5:=by
 have:=(zlj m.kind m.at_ m.val).1 h;omega
theorem yapj:∀ (l:List Mi) (ws:List Int) (ps:List St) (es:List Int) (qs:List Se),(∀ m∈l,miB m=true)->ps.length+l.length<=400->qs.length+l.length<=400->mr l ws ps es qs=⟨0,(zna (ws,ps) l).1,(zna (ws,ps) l).2,(zwm (es,qs) l).1,(zwm (es,qs) l).2⟩
 | [],ws,ps,es,qs,_,_,_=>rfl
 | m::l,ws,ps,es,qs,hk,hl,hq=>by
   have h1:=yaqi (hk m List.mem_cons_self);simp only[List.length_cons]at hl hq;have hf:zpi m ps qs=false:=decide_eq_false (fun h=>by omega)
   have e:zrc (ws,ps) m=(doW m ws ps,doP m ps):=by
    unfold zrc doW doP
    rcases h1 with h | h | h | h | h
    ·rw[if_pos h,if_pos h,if_neg (by omega)]
    ·rw[if_neg (by omega),if_pos h,if_neg (by omega),if_neg (by omega),if_pos h]
    ·rw[if_neg (by omega),if_neg (by omega),if_pos h,if_pos h,if_neg (by omega),if_neg (by omega),if_pos h]
    ·rw[if_neg (by omega),if_neg (by omega),if_neg (by omega),if_neg (by omega),if_neg (by omega),if_neg (by omega),if_neg (by omega)]
    ·rw[if_neg (by omega),if_neg (by omega),if_neg (by omega),if_neg (by omega),if_neg (by omega),if_neg (by omega),if_neg (by omega)]
   have hp:(doP m ps).length<=ps.length+1:=by
    unfold doP
    split
    ·simp
    ·split
     ·simp
     ·split
      ·exact Nat.le_trans (List.length_filter_le _ _) (by omega)
      ·omega
   have hq':(doQ m qs).length<=qs.length+1:=by
    unfold doQ
    split
    ·simp
    ·split
     ·simp
     ·omega
   rw[zjg,e,show zwm (es,qs) (m::l)=zwm (doE m es qs,doQ m qs) l from rfl];simp only[mr,hf];exact yapj l _ _ _ _ (fun q hq=>hk q (List.mem_cons_of_mem _ hq)) (by omega) (by omega)
theorem yaus{us:List Se}(ui:UpIn us)(wv:Wv us):∀ p∈zdw us,(48<=p.at_/\p.at_<336)/\0<=p.val/\p.val<1099511627776:=by
 intro p hp;obtain⟨u,hu,rfl⟩:=List.mem_map.1 (show p∈us.map (fun s=>up s.at_ s.val)from hp);have:=ui u hu;have:=wv u hu;exact⟨⟨by show 48<=u.at_;omega,by show u.at_<336;omega⟩,by show 0<=u.val;omega,by show u.val<_;omega⟩
theorem zrd{us:List Se}(ui:UpIn us)(wv:Wv us)(hl:us.length<=16):∀ m∈zds (zdw us),StOK m:=by
 intro m hm;have A:=yaus ui wv;unfold zds zid at hm
 split at hm
 ·cases hm
 ·rcases List.mem_append.1 hm with hm | hm
  ·rcases List.mem_append.1 hm with hm | hm
   ·refine zvj (fun p hp=>?_) m hm;have h1:=yahc (zdw us) 0 p hp;have h2:=yaif (zdw us) 0 A p hp;rw[zcf]at h1;omega
   ·refine zvj (yapp _ ?_) m hm;rw[zcf];omega
  ·rcases List.mem_append.1 hm with hm | hm
   ·exact zvj (fun p hp=>by have:=A p hp;omega) m hm
   ·exact zvj (yapp 0 (by omega)) m hm
structure Idle(ws es:List Int)(ns:List Ino)(ds:List Den):Prop where
 wi:Wi ws ns ds
 c0:wdI ws 8=0
 pm:pmB ws []=true
 bk:zfj es []=true
theorem Idle.img{ws es:List Int}{ns:List Ino}{ds:List Den}(h:Idle ws es ns ds):zcr ns ds=true:=zbi.2 h.wi.img
theorem zkx{ws es:List Int}{ns:List Ino}{ds:List Den}(h:Idle ws es ns ds){l:List Mi}{ws':List Int}{ns':List Ino}{ds':List Den}(r:zna (ws,[]) l=(ws',[]))(c:wdI ws' 8=0)(w:Wi ws' ns' ds')(hm:∀ m∈l,miB m=true)(hl:l.length<=200)(q:(zwm (es,[]) l).2=[]) :
  ∃ es',mr l ws [] es []=⟨0,ws',[],es',[]⟩/\Idle ws' es' ns' ds':=by
 have e:=yapj l ws [] es [] hm (by simp;omega) (by simp;omega);rw[r,q]at e;have k:=yark l ws [] es [] h.pm h.bk hm;rw[e]at k;exact⟨_,e,w,c,k.1,k.2⟩
theorem ztk{ws es:List Int}{ns:List Ino}{ds:List Den}(h:Idle ws es ns ds):∃ ws' es' ns' ds',mr [] ws [] es []=⟨0,ws',[],es',[]⟩/\Idle ws' es' ns' ds':=⟨ws,es,ns,ds,rfl,h⟩
theorem yahu{ws es:List Int}{ns:List Ino}{ds:List Den}(h:Idle ws es ns ds){us:List Se}(ui:UpIn us)(hl:us.length<=16)(wv:Wv us){ns':List Ino}{ds':List Den}(q:Wi (zbu ws us) ns' ds') :
  ∃ ws' es' ns' ds',mr (zds (zdw us)) ws [] es []=⟨0,ws',[],es',[]⟩/\Idle ws' es' ns' ds':=by
 obtain⟨ls',r,c,w⟩:=yamk h.wi h.c0 ⟨ui,hl⟩ q;have ok:=zrd ui wv hl;have pl:=zkf us;obtain⟨es',e,k⟩:=zkx h r c w (fun m hm=>(ok m hm).1) (by omega) (by rw[zhv _ _ ok]);exact⟨ls',es',ns',ds',e,k⟩
theorem yarh(a x:Int):(⟨1,a,x⟩::zbf [a]:List Mi)=seg [up a x]:=rfl
theorem yaik{a x:Int}(ha:0<=a/\a<336)(hx:0<=x/\x<1099511627776):∀ m∈(⟨1,a,x⟩::zbf [a]:List Mi),StOK m:=by
 rw[yarh];refine zvj (fun p hp=>?_);rw[List.mem_singleton.1 hp];exact⟨ha,hx⟩
theorem zyd{x:Int}(h:zaz x=true):0<=x/\x<1099511627776:=of_decide_eq_true h
theorem yahe(a x:Int):(⟨1,a,x⟩::zbf [a]:List Mi).length<=3:=by
 have:=zbv [a];simp only[List.length_cons,List.length_nil]at this ⊢;omega
theorem yapi{k x:Int}(hk:0<=k/\k<32)(hx:0<=x/\x<1099511627776):∀ m∈([⟨4,k,x⟩,⟨5,0,0⟩]:List Mi),miB m=true:=by
 intro m hm
 rcases List.mem_cons.1 hm with rfl | hm
 ·exact(zlj _ _ _).2 (.inr (.inr (.inl ⟨rfl,hk,hx⟩)))
 ·rw[List.mem_singleton.1 hm];exact(zlj _ _ _).2 (.inr (.inr (.inr ⟨.inr rfl,rfl,rfl⟩)))
theorem yaad(es:List Int)(k x:Int):(zwm (es,[]) [⟨4,k,x⟩,⟨5,0,0⟩]).2=[]:=rfl
theorem yacn{ws es:List Int}{ns:List Ino}{ds:List Den}(h:Idle ws es ns ds){s:ByteArray}{page x:Int}(e:(wrI ns ds s page x).2=0) :
  (∃ ws' es' ns' ds',mr (wrI ns ds s page x).1 ws [] es []=⟨0,ws',[],es',[]⟩/\Idle ws' es' ns' ds')/\(∀ m∈(wrI ns ds s page x).1,miB m=true)/\(wrI ns ds s page x).1.length<=200/\0<=page/\page<8:=by
 obtain⟨i,p,ls',hi,hp,ei,ep,r,c,w⟩:=yaon h.wi h.c0 (show wrI ns ds s page x=((wrI ns ds s page x).1,0) by rw[<- e]);subst ep
 have f0:(flI ns ds s).2=0:=by
  unfold wrI at e
  split at e
  ·assumption
  ·assumption
 have form:∃ n:¬ (fpI ns<0/\fsI ns<0),zaz x=true/\(wrI ns ds s (p:Int) x).1=wrS ns x++zds (zdw (wrU (i:Int) (p:Int) (zcz ns (i:Int)) (wrE ns))):=by
  unfold wrI at e ⊢;rw[if_pos f0,ei]at e ⊢;unfold wrF at e ⊢
  by_cases d:(0<=(p:Int)/\(p:Int)<8)/\zaz x=true
  ·rw[if_pos d]at e ⊢
   by_cases f:fpI ns<0/\fsI ns<0
   ·rw[if_pos f]at e
    cases e
   ·rw[if_neg f];exact⟨f,d.2,rfl⟩
  ·rw[if_neg d]at e
   cases e
 obtain⟨nf,wx,F⟩:=form;have X:=zyd wx
 have k:=(zfh h.wi.img f0)
 obtain⟨i',hi',ei',k1⟩:=k
 have e':i'=i:=by rw[ei]at ei';omega
 subst e';obtain⟨te,he,new⟩:=yadv nf
 have sz:zcz ns (i':Int)=(zam ns i').size:=by unfold zcz;rw[Int.toNat_natCast]
 have ww:=zrl h.wi hi k1 hp te he new
 have wv:Wv (wrU (i':Int) (p:Int) (zam ns i').size (wrE ns)):=by
  have:=zdv te;unfold wrU;refine Wv.cons (by omega) ?_
  split
  ·exact Wv.one (by omega)
  ·intro u hu;cases hu
 have ul:(wrU (i':Int) (p:Int) (zam ns i').size (wrE ns)).length<=2:=by unfold wrU;split<;>simp
 have ok2:=zrd ww.1 wv (by omega);have pl:=zkf (wrU (i':Int) (p:Int) (zam ns i').size (wrE ns));rw[sz]at F
 have b1:fpI ns<24:=by
  have:=(zea (fun i=>!zha (zbn (zap ns) 1) (i:Int)) 24).2;unfold fpI;omega
 have b2:fsI ns<32:=by
  have:=(zea (fun i=>!zha (zbn (zap ns) 2) (i:Int)) 32).2;unfold fsI;omega
 have okS:(∀ m∈wrS ns x,miB m=true)/\(wrS ns x).length<=3/\(zwm (es,[]) (wrS ns x)).2=[]:=by
  unfold wrS
  by_cases q:0<=fpI ns
  ·rw[if_pos q];have o:=yaik (a:=312+fpI ns) (x:=x) (by omega) X;exact⟨fun m hm=>(o m hm).1,yahe _ _,by rw[zhv _ _ o]⟩
  ·rw[if_neg q];exact⟨yapi (by omega) X,by simp,yaad _ _ _⟩
 have ALL:∀ m∈(wrI ns ds s (p:Int) x).1,miB m=true:=by
  rw[F];intro m hm
  rcases List.mem_append.1 hm with hm | hm
  ·exact okS.1 m hm
  ·exact(ok2 m hm).1
 have LEN:(wrI ns ds s (p:Int) x).1.length<=200:=by
  rw[F,List.length_append];have:=okS.2.1;omega
 obtain⟨es',e2,k2⟩:=zkx h r c w ALL LEN (by
  rw[F,zog];rw[zhv _ _ ok2]
  exact okS.2.2)
 exact⟨⟨_,_,_,_,e2,k2⟩,ALL,LEN,by omega,by omega⟩
def touH(hs:List Int)(k:Nat):List Int:=hs.set k (min 64 (hs.getD k 0+8))
theorem zbm{hs:List Int}(h:ziu hs=true):hs.length=128/\∀ k (h:k<hs.length),0<=hs[k]/\hs[k]<=64:=of_decide_eq_true h
theorem yaqw{w:World}{base:Nat}{e:TypeId}{size:Nat}{v:Value}{n:Nat}{xs:List Value}(h:w.ownsRow base e size v n xs)(hn:0<n):∃ b c,v=.slice (some ⟨b,0,none⟩) n c/\n<=c:=by
 rcases(zad h).shape with ⟨_,e,_⟩ | ⟨b,c,rfl,hc,_⟩
 ·omega
 ·exact⟨b,c,rfl,hc⟩
theorem zwk(v:Value)(hs:List Int)(i p:Nat)(w:World)(h:RdI w v hs)(hn:hs.length=128)(hr:∀ k (h:k<hs.length),0<=hs[k]/\hs[k]<=64)(hi:i<16)(hp:p<8) :
  zC 160 #[v,.I (i:Int),.I (p:Int)] w fun e w'=>∃ v',e=.returned v'/\Row w' 3 1 w.heap.size w'.heap.size v' (touH hs (8*i+p)).length (zdb (touH hs (8*i+p)))/\zB w w':=by
 obtain⟨ao,cap,rfl,hcap,-⟩:=h.shape;have HR:Hid (Rd (w.alloc (.cells #[] 3)) 1 (.slice ao hs.length cap) hs.length (zdb hs)):=Rd.below h (zR.alloc zL _)
 have ST:Hid (InI w (w.alloc (.cells #[] 3)) (.slice (some ⟨w.heap.size,0,none⟩) 0 0) []):=⟨World.ownsRow_lit w #[] 0 zL (by simp[maxLen]) (by simp),zR.alloc zL _⟩
 have hz:w.heap.size<=(w.alloc (.cells #[] 3)).heap.size:=ST.o.z
 obtain⟨k,hk⟩:∃ k:Nat,k=8*i+p:=⟨_,rfl⟩
 have k128:k<hs.length:=by omega
 have KL:=zaa k128;obtain⟨z0,z64⟩:=hr k k128
 have EG:Hid (hs.getD k 0=hs[k]):=by unfold Hid;rw[List.getD_eq_getElem?_getD,List.getElem?_eq_getElem k128];rfl
 have ET:Hid (touH hs k=hs.set k (min 64 (hs[k]+8))):=by unfold Hid touH;rw[EG.o]
 have kk:(8*(i:Int)+(p:Int))=(k:Int):=by omega
 have w1f:IntKind.i64.wrap (8*(i:Int))=8*(i:Int):=by rw[IntKind.wrap_i64];omega
 have w2f:IntKind.i64.wrap (8*(i:Int)+(p:Int))=(k:Int):=by rw[IntKind.wrap_i64];omega
 have w3f:IntKind.i64.wrap (hs[k]+8)=hs[k]+8:=by rw[IntKind.wrap_i64];omega
 rw[<- hk,ET.o];have CL:Hid ((zdb hs)[k]?=some (.I hs[k])):=zcp hs k k128
 have hl1:hs.length<=128:=by omega
 clear hn hr;generalize hs[k]=z at *
 obtain⟨mm,em,cm⟩:∃ mm:Int,min 64 (z+8)=mm/\((z+8<64/\mm=z+8)\/(¬ z+8<64/\mm=64)):=⟨min 64 (z+8),rfl,by omega⟩
 rw[em];have CM:=zaa cm;clear em cm;go_enter Tryz.func160,Tryz.ntmps160;go_wp2_with (at_builtin;refine zae _ rfl (.tmp 8) (.tmp 9) 23 rfl w.heap.size 3 (.I 0) 1 8 Tryz.underlying23 zjs rfl (by decide) _ _ _ rfl ST.o.l _ hs.length (zdb hs) rfl HR.o (zfo _) (by first | omega | (simp[maxLen];omega)) (by first | omega | (simp;omega)) hz ?_);intro vN wN hownN hgrN
 have G:Hid (Row wN 3 1 w.heap.size wN.heap.size vN hs.length (zdb hs)):=by
  have q:=zad hownN;exact q
 have BN:Hid (zB w wN):=ST.o.b.grown hgrN hz (fun q hq=>(ST.o.l.lt q hq).1);obtain⟨b,c,rfl,hcb⟩:=yaqw G.o.1 (by omega)
 obtain⟨_,_,_,hbl,hfr,hcl⟩:=G.o.at
 have e0:wN.cell? ⟨b,k,none⟩=some (.I z):=(hcl k (by omega)).trans CL.o;have f0:wN.frozen? ⟨b,k,none⟩=false:=hfr k
 have k0:(0:Int)<=(k:Int):=by omega
 have k1:(k:Int)<(hs.length:Int):=by omega
 have hwb:w.heap.size<=b:=(G.o.1.lt b rfl).1
 have R2:Hid (Row (wN.setCell ⟨b,k,none⟩ (.I mm)) 3 1 w.heap.size (wN.setCell ⟨b,k,none⟩ (.I mm)).heap.size (.slice (some ⟨b,0,none⟩) hs.length c) hs.length (zdb (hs.set k mm))):=by
  have q:=G.o.stored k (.I mm);rw[zho]at q;exact q.wide zL (by simp[World.setCell])
 have B2:Hid (zB w (wN.setCell ⟨b,k,none⟩ (.I mm))):=BN.o.setCell hwb _;clear hownN hgrN G BN HR ST hcl hfr kk hk
 rcases CM.o with ⟨c1,rfl⟩ | ⟨c1,rfl⟩
 ·have mn:min 64 (z+8)=z+8:=by omega
  go_wp2;go_ret;exact⟨_,rfl,R2.o,B2.o⟩
 ·have mn:min 64 (z+8)=64:=by omega
  go_wp2;go_ret;exact⟨_,rfl,R2.o,B2.o⟩
theorem yaqt{hs:List Int}(h:hs.length=128)(k:∀ k (h:k<hs.length),0<=hs[k]/\hs[k]<=64):ziu hs=true:=decide_eq_true ⟨h,k⟩
theorem yafc:ziu (ztc 128)=true:=yaqt (zrt 128) (fun k h=>by
 have e:(ztc 128)[k]=1:=List.eq_of_mem_replicate (List.getElem_mem h);rw[e]
 omega)
theorem zgj(n:Int)(hn:2<=n/\n<=1000)(w0 w:World)(b k:Nat)(vC:Value)(bs:List Int)(h:Src w0 w b vC bs k)(hk:k<=900000) :
  zC 51 #[.pointer (some ⟨b,0,none⟩),.I n] w fun e w'=>∃ r:Bool,e=.returned (.bool r)/\Src w0 w' b vC bs (k+3)/\Outside b (b+1) w w'/\w'.heap.size=w.heap.size:=by
 have HS:=zaa h
 have wn:IntKind.i64.wrap (n-1)=n-1:=by rw[IntKind.wrap_i64];omega
 clear h;go_enter Tryz.func51,Tryz.ntmps51;go_wp2_with fail;refine(zbp n hn w0 w b k vC bs HS.o hk).mono ?_;rintro e w1 ⟨r,rfl,r0,r1,hs,ho,hz⟩;have S1:=zaa hs;have O1:=zaa ho;clear hs ho;go_wp2;go_ret;exact⟨_,rfl,S1.o,O1.o,hz⟩
def isIB:Value->Bool
 | .int _ _=>true
 | _=>false
def isSB:Value->Bool
 | .string _=>true
 | _=>false
def zku:List Value->Bool
 | []=>true
 | [a]=>!isSB a
 | [a,b]=>!isSB a&&!isSB b
 | a::b::c::t=>!isSB a&&!(isIB a&&isIB b&&isIB c)&&zku (b::c::t)
theorem zom{a:Value}{l:List Value}(h:zku (a::l)=true):isSB a=false/\zku l=true:=by
 match l with
 | []=>simp[zku]at h;exact⟨h,rfl⟩
 | [b]=>simp[zku]at h;exact⟨h.1,by simp[zku,h.2]⟩
 | b::c::t =>
  simp only[zku,Bool.and_eq_true,Bool.not_eq_true']at h;exact⟨h.1.1,h.2⟩
theorem zwf:∀ {l:List Value},zku l=true->∀ (j:Nat) (v:Value),l[j]?=some v->isSB v=false
 | [],_,j,v,e=>by cases e
 | a::l,h,0,v,e=>by
  simp only[List.getElem?_cons_zero,Option.some.injEq]at e;rw[<- e];exact(zom h).1
 | a::l,h,j+1,v,e=>zwf (zom h).2 j v (by simpa using e)
theorem zqo:∀ {l:List Value},zku l=true->∀ (j:Nat) (a b c:Value),l[j]?=some a->l[j+1]?=some b->l[j+2]?=some c->¬ (isIB a=true/\isIB b=true/\isIB c=true)
 | [],_,j,_,_,_,e,_,_=>by cases e
 | x::l,h,0,a,b,c,e1,e2,e3=>by
  match l,h,e2,e3 with
  | [],_,e2,_=>simp at e2
  | [y],_,_,e3=>simp at e3
  | y::z::t,h,e2,e3 =>
   simp only[List.getElem?_cons_zero,List.getElem?_cons_succ,Option.some.injEq]at e1 e2 e3;subst e1 e2 e3;simp only[zku,Bool.and_eq_true,Bool.not_eq_true']at h;intro q;have:=h.1.2;rw[q.1,q.2.1,q.2.2]at this
   cases this
 | x::l,h,j+1,a,b,c,e1,e2,e3=>zqo (zom h).2 j a b c (by simpa using e1) (by simpa using e2) (by simpa using e3)
def Hard(xs:List Value):Prop:=(∃ (j:Nat) (v:Value),xs[j]?=some v/\isSB v=true)\/∃ (j:Nat) (a b c:Value),xs[j]?=some a/\xs[j+1]?=some b/\xs[j+2]?=some c/\isIB a=true/\isIB b=true/\isIB c=true
structure Soft(w w':World):Prop where
 size:w.heap.size<=w'.heap.size
 blk:∀ j,j<w.heap.size->w'.heap[j]?=w.heap[j]?\/∃ cs t fr,w.heap[j]?=some (.cells cs t fr)/\zku cs.toList=true
theorem Soft.refl(w:World):Soft w w:=⟨Nat.le_refl _,fun _ _=>.inl rfl⟩
theorem Soft.trans{a b c:World}(h:Soft a b)(k:Soft b c):Soft a c :=
 ⟨Nat.le_trans h.size k.size,fun j hj=>by
  rcases h.blk j hj with e | e
  ·rcases k.blk j (Nat.lt_of_lt_of_le hj h.size)with f | f
   ·exact .inl (f.trans e)
   ·rw[e]at f;exact .inr f
  ·exact .inr e⟩
theorem Soft.of_below{w w':World}(h:zB w w'):Soft w w':=⟨h.size,fun j hj=>.inl (h.block j hj)⟩
theorem Soft.alloc{a w:World}(h:Soft a w)(o:Obj):Soft a (w.alloc o):=h.trans (.of_below (zR.alloc zL _))
theorem Soft.drew{a w:World}(h:Soft a w):Soft a w.drew:=h.trans (.of_below zR.drew)
theorem Soft.set{a w:World}(h:Soft a w){b:Nat}{cs:Array Value}{t:TypeId}{fr:Nat×Nat}(hb:w.heap[b]?=some (.cells cs t fr))(hs:zku cs.toList=true)(j:Nat)(u:Value):Soft a (w.setCell ⟨b,j,none⟩ u) :=
 h.trans ⟨by simp[World.setCell],fun k _=>by
  by_cases e:k=b
  ·subst e;exact .inr ⟨cs,t,fr,hb,hs⟩
  ·exact .inl (Below.heap_setCell _ _ _ _ e)⟩
theorem Soft.outside{w w':World}{b:Nat}{cs:Array Value}{t:TypeId}{fr:Nat×Nat}(h:Outside b (b+1) w w')(hb:w.heap[b]?=some (.cells cs t fr))(hs:zku cs.toList=true):Soft w w' :=
 ⟨h.size,fun k hk=>by
  by_cases e:k=b
  ·subst e;exact .inr ⟨cs,t,fr,hb,hs⟩
  ·exact .inl (h.block k hk (by omega))⟩
theorem Rd.soft{w w':World}{size:Nat}{v:Value}{n:Nat}{xs:List Value}(h:Rd w size v n xs)(hs:Soft w w')(hd:0<n*size->Hard xs):Rd w' size v n xs:=by
 by_cases hn:0<n*size
 ·refine h.same hs.size (fun j hj he=>?_)
  rcases hs.blk j hj with e | ⟨cs,t,fr,hb,sf⟩
  ·exact e
  ·exfalso;obtain⟨hl,ao,cap,rfl,_,hc⟩:=h
   have hn':0<n:=by
    rcases Nat.eq_zero_or_pos n with e | e
    ·subst e;simp at hn
    ·exact e
   obtain⟨b',o,rfl,_,hc⟩:=hc hn';simp only[Value.ownBlock,Option.some.injEq]at he;subst he
   have C:∀ k u,xs[k]?=some u->cs.toList[o+k]?=some u:=fun k u e=>by
    have hk:k<n*size:=by
     have:=(List.getElem?_eq_some_iff.1 e).1;omega
    have:=hc k hk;rw[e]at this;simp only[World.cell?,hb]at this;simpa using this
   rcases hd hn with ⟨k,u,e,f⟩ | ⟨k,a,b,c,e1,e2,e3,f1,f2,f3⟩
   ·have:=zwf sf _ _ (C k u e);rw[f]at this
    cases this
   ·exact zqo sf (o+k) a b c (C k a e1) (C (k+1) b e2) (C (k+2) c e3) ⟨f1,f2,f3⟩
 ·obtain⟨h3,ao,cap,rfl,h4,h5⟩:=h;refine⟨h3,ao,cap,rfl,h4,fun hp=>?_⟩;obtain⟨b',o,e,hlt,hc⟩:=h5 hp;exact⟨b',o,e,Nat.lt_of_lt_of_le hlt hs.size,fun j hj=>absurd (Nat.lt_of_le_of_lt (Nat.zero_le _) hj) hn⟩
theorem yajk{zs:List Int}(h:3<=zs.length):Hard (zdb zs):=.inr ⟨0,_,_,_,zcp zs 0 (by omega),zcp zs 1 (by omega),zcp zs 2 (by omega),rfl,rfl,rfl⟩
theorem RdI.soft{w w':World}{v:Value}{zs:List Int}(h:RdI w v zs)(hs:Soft w w')(h3:3<=zs.length):RdI w' v zs:=Rd.soft h hs (fun _=>yajk h3)
theorem yalw{l:List Mi}(h:0<l.length):Hard (mis l):=by
 have a:=yafn l 0 h;have b:=yaet l 0 h;have c:=yads l 0 h;rw[Nat.zero_mul]at a b c;exact .inr ⟨0,_,_,_,a,b,c,rfl,rfl,rfl⟩
theorem RdM.soft{w w':World}{v:Value}{l:List Mi}(h:RdM w v l)(hs:Soft w w'):RdM w' v l:=Rd.soft h hs (fun hn=>yalw (by omega))
theorem yaji{l:List ByteArray}(h:0<l.length):Hard (zel l):=.inl ⟨0,.string l[0],by simp[zel,h],rfl⟩
theorem RdT.soft{w w':World}{v:Value}{l:List ByteArray}(h:RdT w v l)(hs:Soft w w'):RdT w' v l:=Rd.soft h hs (fun hn=>yaji (by omega))
theorem Rd.softNil{w w':World}{size:Nat}{v:Value}(h:Rd w size v 0 [])(hs:Soft w w'):Rd w' size v 0 []:=Rd.soft h hs (fun hn=>by simp at hn)
theorem RdDev.soft{w w':World}{v:Value}{ws es:List Int}(h:RdDev w v ws [] es [])(hs:Soft w w')(h1:3<=ws.length)(h2:3<=es.length):RdDev w' v ws [] es []:=by
 obtain⟨vW,vP,vS,vQ,rfl,⟨_,_,e1,a,b⟩,⟨_,_,e2,c,d⟩⟩:=h
 cases e1
 cases e2
 exact⟨_,_,_,_,rfl,⟨_,_,rfl,RdI.soft a hs h1,Rd.softNil b hs⟩,⟨_,_,rfl,RdI.soft c hs h2,Rd.softNil d hs⟩⟩
end Go.Proofs.YtogcbbkhnpmgeaaGreatDoor
