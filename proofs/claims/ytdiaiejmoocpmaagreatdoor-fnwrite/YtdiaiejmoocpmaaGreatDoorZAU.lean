import Derived.Test.YtdiaiejmoocpmaaGreatDoorZAT
set_option maxHeartbeats 4000000
namespace Go.Proofs.YtdiaiejmoocpmaaGreatDoor
open Go.RowKit
def seB(s:Se):Bool:=zml s.at_&&zat s.val
theorem yatr{s:Se}(h:seB s=true):zml s.at_=true/\zat s.val=true:=by unfold seB at h;simpa using h
theorem yapu{s:Se}{p:Prop}(h:seB s=false)(h1:zml s.at_=false->p)(h2:zat s.val=false->p):p:=by
 unfold seB at h;rw[Bool.and_eq_false_iff]at h;exact h.elim h1 h2
def sesB(ps:List Se):Bool:=decide (∀ k (h:k<ps.length),seB ps[k]=true)
theorem yaka{ps:List Se}(h:sesB ps=true):∀ k (h:k<ps.length),seB ps[k]=true:=of_decide_eq_true h
theorem yanb{ps:List Se}(h:∀ k (h:k<ps.length),seB ps[k]=true):sesB ps=true:=decide_eq_true h
theorem yaqp{ps:List Se}{k:Nat}(hk:k<ps.length)(h:seB ps[k]=false):sesB ps=false:=decide_eq_false (fun x=>by have:=x k hk;rw[h]at this;cases this)
theorem yawf{ps:List Se}(h:sesB ps=false):∃ k,∃ h:k<ps.length,seB ps[k]=false:=by
 apply Classical.byContradiction;intro hn
 have:sesB ps=true:=yanb (fun k hk=>by
  cases e:seB ps[k] with
  | true=>rfl
  | false=>exact absurd ⟨k,hk,e⟩ hn)
 rw[h]at this
 cases this
theorem zso(s:Se)(w:World):zC 100 #[.agg #[.I s.at_,.I s.val]] w fun e w'=>e=.returned (.bool (seB s))/\zB w w':=by
 have hb0:zB w (w.alloc (.cells #[.I s.at_,.I s.val] 153)):=zR.alloc zL _
 by_cases q:zml s.at_=true
 ·have E:=zaa (show seB s=zat s.val by unfold seB;rw[q];rfl);have Q:=zaa q;clear q;go_enter Tryz.func100,Tryz.ntmps100;go_wp2_with (first | (go_at_call 136;refine(zfm _ _).mono ?_;rw[Q.o];rintro e w' ⟨rfl,rfl⟩) | (go_at_call 51;refine(zce _ _).mono ?_;rintro e w' ⟨rfl,rfl⟩));go_ret;exact⟨zag E.o.symm,hb0⟩
 ·have q':zml s.at_=false:=by simpa using q
  have E:=zaa (show seB s=false by unfold seB;rw[q'];rfl);have Q:=zaa q';clear q q';go_enter Tryz.func100,Tryz.ntmps100;go_wp2_with (go_at_call 136;refine(zfm _ _).mono ?_;rw[Q.o];rintro e w' ⟨rfl,rfl⟩);go_ret;exact⟨zag E.o.symm,hb0⟩
theorem zkg(v:Value)(ps:List Se)(w:World)(h:RdE w v ps)(hn:ps.length<=1048576) :
  zC 99 #[v,.func (.func 100) #[] #[]] w fun e w'=>e=.returned (.bool (sesB ps))/\zB w w':=by
 obtain⟨aP,cP,rfl,_,hcP⟩:=h.shape;clear h;go_enter Tryz.func99,Tryz.ntmps99;go_wp2
 go_loopw [6,9] (fun _ i wr=>∃ k:Nat,k<=ps.length/\i=.I k/\Hid (∀ j (h:j<ps.length),j<k->seB ps[j]=true)/\zB w wr) (fun _ i _=>ps.length-(intOf i).toNat)
 case atStart=>exact⟨0,by omega,rfl,fun j h a=>absurd a (by omega),zR⟩
 case round =>
  obtain⟨m,hm,rfl,H,hbw⟩:=hrel;have hz:=hbw.size
  by_cases hlt2:m<ps.length
  ·obtain⟨b2,o2,rfl,hbl2,hcell2⟩:=hcP (by omega);obtain⟨d0,d1⟩:=hcell2 m hlt2;have e0:=(hbw.cell (p:=⟨b2,o2+m*2,none⟩) hbl2).trans d0;have e1:=(hbw.cell (p:=⟨b2,o2+m*2+1,none⟩) hbl2).trans d1;have hb1:=zaa (hbw.alloc hz (.cells #[.I ps[m].at_,.I ps[m].val] 153));clear d0 d1 hcell2 hcP
   by_cases q:seB ps[m]=true
   ·have Q:=zaa q;clear q;go_wp2_with (go_at_call 100;refine(zso ps[m] _).mono ?_;rw[Q.o];rintro e w' ⟨rfl,hw'⟩);have hw2:=hb1.o.trans (hw'.mono (by simp;omega));clear hb1 hw'
    go_roundw
    case rel =>
     refine⟨m+1,by omega,by go_num,fun j h a=>?_,hw2⟩
     by_cases e:j=m
     ·subst e;exact Q.o
     ·exact H.o j h (by omega)
    case measure=>simp[intOf];omega
   ·have Q:=zaa (show seB ps[m]=false by simpa using q);have E:=zaa (yaqp hlt2 Q.o);clear q;go_wp2_with (go_at_call 100;refine(zso ps[m] _).mono ?_;rw[Q.o];rintro e w' ⟨rfl,hw'⟩);have hw2:=hb1.o.trans (hw'.mono (by simp;omega));go_ret;exact⟨zag E.o.symm,hw2⟩
  ·have E:=zaa (yanb (fun j h=>H.o j h (by omega)));go_wp2;go_ret;exact⟨zag E.o.symm,hbw⟩
theorem zdf(v:Value)(ws:List Int)(ps:List Se)(w:World)(h:RdBlk w v ws ps)(hw:ws.length<=1048576)(hp:ps.length<=1048576) :
  zC 48 #[v] w fun e w'=>e=.returned (.bool (zdk ws ps))/\zB w w':=by
 obtain⟨vW,vP,rfl,h1,h2⟩:=h;obtain⟨aW,cW,rfl,_,hcW⟩:=h1.shape;obtain⟨aP,cP,rfl,_,hcP⟩:=h2.shape;have H1:=zaa h1;have H2:=zaa h2;clear h1 h2 hcW hcP;have hb0:zB w (w.alloc (.cells #[.slice aW ws.length cW,.slice aP ps.length cP] 29)):=zR.alloc zL _;have HB:=zaa hb0
 by_cases c1:ws.length=32
 case neg =>
  have E:=zaa (zyw (ps:=ps) c1)
  have c1':((ws.length:Int) == 32)=false:=by rw[beq_eq_false_iff_ne];omega
  clear c1;go_enter Tryz.func48,Tryz.ntmps48;go_wp2;go_ret;exact⟨zag E.o.symm,HB.o⟩
 have c1n:((ws.length:Int) == 32)=true:=by simp;omega
 have C1:=zaa c1;clear c1
 by_cases c2:400<ps.length
 ·have E:=zaa (yaah (ws:=ws) c2)
  have c2':decide ((ps.length:Int)<=400)=false:=by simp;omega
  go_enter Tryz.func48,Tryz.ntmps48;go_wp2;go_ret;exact⟨zag E.o.symm,HB.o⟩
 by_cases c3:zkk ws=true
 case neg =>
  have c3':zkk ws=false:=by simpa using c3
  obtain⟨k,hk,hkf⟩:=zzr c3';have E:=zaa (yauy (ps:=ps) hk hkf);have W0:=zaa c3';clear c3 c3' hkf hk;go_enter Tryz.func48,Tryz.ntmps48;go_wp2_with (go_at_call 98;refine(zdy _ ws _ (Rd.below H1.o HB.o) (by omega)).mono ?_;rw[W0.o];rintro e w' ⟨rfl,rfl⟩);go_ret;exact⟨zag E.o.symm,HB.o⟩
 have HW:=zaa (zsg c3);have W1:=zaa c3;clear c3
 cases c4:sesB ps with
 | true =>
  have E:=zaa (yabf C1.o (by omega) HW.o (fun j h=>yatr (yaka c4 j h)));have W2:=zaa c4;clear c4;go_enter Tryz.func48,Tryz.ntmps48;go_wp2_with (first | (go_at_call 98;refine(zdy _ ws _ (Rd.below H1.o HB.o) (by omega)).mono ?_;rw[W1.o];rintro e w' ⟨rfl,rfl⟩) | (go_at_call 99;refine(zkg _ ps _ (Rd.below H2.o HB.o) (by omega)).mono ?_;rw[W2.o];rintro e w' ⟨rfl,hw'⟩));go_ret;exact⟨zag E.o.symm,HB.o.trans (hw'.mono (by simp))⟩
 | false =>
  obtain⟨k,hk,hkf⟩:=yawf c4;have E:=zaa (show zdk ws ps=false from yapu hkf (yavl (ws:=ws) hk) (yava (ws:=ws) hk));have W2:=zaa c4;clear c4 hk hkf;go_enter Tryz.func48,Tryz.ntmps48;go_wp2_with (first | (go_at_call 98;refine(zdy _ ws _ (Rd.below H1.o HB.o) (by omega)).mono ?_;rw[W1.o];rintro e w' ⟨rfl,rfl⟩) | (go_at_call 99;refine(zkg _ ps _ (Rd.below H2.o HB.o) (by omega)).mono ?_;rw[W2.o];rintro e w' ⟨rfl,hw'⟩));go_ret;exact⟨zag E.o.symm,HB.o.trans (hw'.mono (by simp))⟩
def zmw(ws:List Int)(ps:List Se)(at_:Int):Int:=if zdk ws ps=false then 1 else if zml at_=false then 14 else 0
theorem yagd{ws:List Int}{ps:List Se}{at_:Int}(h:zdk ws ps=false):zmw ws ps at_=1:=by unfold zmw;rw[if_pos h]
theorem zug{ws:List Int}{ps:List Se}{at_:Int}(h:zdk ws ps=true)(h2:zml at_=false):zmw ws ps at_=14:=by unfold zmw;rw[if_neg (by rw[h];simp),if_pos h2]
theorem yadb{ws:List Int}{ps:List Se}{at_:Int}(h:zdk ws ps=true)(h2:zml at_=true):zmw ws ps at_=0:=by unfold zmw;rw[if_neg (by rw[h];simp),if_neg (by rw[h2];simp)]
theorem zcx(v:Value)(ws:List Int)(ps:List Se)(at_:Int)(w:World)(h:RdBlk w v ws ps)(hw:ws.length<=1048576)(hp:ps.length<=1048576) :
  zC 124 #[v,.I at_] w fun e w'=>e=.returned (.I (zmw ws ps at_))/\zB w w':=by
 have HR:=zaa h;obtain⟨vW,vP,rfl,h1,h2⟩:=h;obtain⟨aW,cW,rfl,_⟩:=h1.shape;obtain⟨aP,cP,rfl,_⟩:=h2.shape;clear h1 h2;have hb0:zB w (w.alloc (.cells #[.slice aW ws.length cW,.slice aP ps.length cP] 29)):=zR.alloc zL _
 by_cases c1:zdk ws ps=true
 ·by_cases c2:zml at_=true
  ·rw[yadb c1 c2];go_enter Tryz.func124,Tryz.ntmps124;go_wp2_with (first | (go_at_call 48;refine(zdf _ ws ps _ (HR.o.below hb0) hw hp).mono ?_;rintro e w1 ⟨rfl,hb1⟩) | (go_at_call 136;refine(zfm _ _).mono ?_;rintro e w2 ⟨rfl,rfl⟩));go_ret;exact⟨rfl,zab hb0 hb1 (by simp)⟩
  ·have c2':zml at_=false:=by simpa using c2
   rw[zug c1 c2'];clear c2;go_enter Tryz.func124,Tryz.ntmps124;go_wp2_with (first | (go_at_call 48;refine(zdf _ ws ps _ (HR.o.below hb0) hw hp).mono ?_;rintro e w1 ⟨rfl,hb1⟩) | (go_at_call 136;refine(zfm _ _).mono ?_;rintro e w2 ⟨rfl,rfl⟩));go_ret;exact⟨rfl,zab hb0 hb1 (by simp)⟩
 ·have c1':zdk ws ps=false:=by simpa using c1
  rw[yagd c1'];clear c1;go_enter Tryz.func124,Tryz.ntmps124;go_wp2_with (first | (go_at_call 48;refine(zdf _ ws ps _ (HR.o.below hb0) hw hp).mono ?_;rintro e w1 ⟨rfl,hb1⟩) | (go_at_call 136;refine(zfm _ _).mono ?_;rintro e w2 ⟨rfl,rfl⟩));go_ret;exact⟨rfl,zab hb0 hb1 (by simp)⟩
def zhl(at_ d:Int)(ps:List Se):Int:=ps.foldl (fun acc p=>if p.at_=at_ then p.val else acc) d
theorem zhi{at_ d:Int}:∀ {ps:List Se},(∀ p∈ps,¬ p.at_=at_)->zhl at_ d ps=d
 | [],_=>rfl
 | p::ps,h=>by
  show zhl at_ (if p.at_=at_ then p.val else d) ps=d
  rw[if_neg (h p (by simp))];exact zhi (fun q hq=>h q (by simp[hq]))
theorem yaay(at_ d:Int)(ps qs:List Se):zhl at_ d (ps++qs)=zhl at_ (zhl at_ d ps) qs:=by simp[zhl]
theorem yake{at_ d:Int}{ps:List Se}{k:Nat}(hk:k<ps.length)(h:ps[k].at_=at_)(ha:∀ j (hj:j<ps.length),k<j->¬ ps[j].at_=at_):zhl at_ d ps=ps[k].val:=by
 have e:ps=ps.take k++(ps[k]::ps.drop (k+1)):=by rw[<- List.drop_eq_getElem_cons hk,List.take_append_drop]
 conv=>lhs;rw[e]
 rw[yaay]
 show zhl at_ (if ps[k].at_=at_ then ps[k].val else _) (ps.drop (k+1))=_
 rw[if_pos h];apply zhi;intro p hp;obtain⟨i,hi,rfl⟩:=List.getElem_of_mem hp;rw[List.getElem_drop];exact ha _ _ (by omega)
theorem yacn(v:Value)(ws:List Int)(ps:List Se)(at_:Nat)(w:World)(h:RdBlk w v ws ps)(hw:ws.length<=1048576)(hp:ps.length<=1048576)(ha:at_<ws.length) :
  zC 161 #[v,.I (at_:Int)] w fun e w'=>e=.returned (.I (zhl (at_:Int) ws[at_] ps))/\zB w w':=by
 obtain⟨vW,vP,rfl,h1,h2⟩:=h;obtain⟨aW,cW,rfl,_,hcW⟩:=h1.shape;obtain⟨aP,cP,rfl,_,hcP⟩:=h2.shape;clear h1 h2;obtain⟨bW,oW,rfl,hbW,hcellW⟩:=hcW (by omega);have hb0:zB w (w.alloc (.cells #[.slice (some ⟨bW,oW,none⟩) ws.length cW,.slice aP ps.length cP] 29)):=zR.alloc zL _;have hcw:=(hb0.cell (p:=⟨bW,oW+at_,none⟩) hbW).trans (hcellW at_ ha);clear hcW hcellW;go_enter Tryz.func161,Tryz.ntmps161;go_wp2
 go_loop [5] (fun i=>∃ k:Nat,k<=ps.length/\i=.I ((k:Int)-1)/\Hid (∀ j (h:j<ps.length),k<=j->¬ ps[j].at_=(at_:Int))) (fun i=>(intOf i+1).toNat)
 case atStart=>exact⟨ps.length,Nat.le_refl _,rfl,fun j h a=>absurd h (by omega)⟩
 case round =>
  obtain⟨k,hk,rfl,H⟩:=hrel
  cases k with
  | zero =>
   have E:=zaa (zhi (d:=ws[at_]) (fun p hp=>by obtain⟨i,hi,rfl⟩:=List.getElem_of_mem hp;exact H.o i hi (by omega)));clear H hcP;go_wp2;go_ret;exact⟨zdq E.o.symm,hb0⟩
  | succ m =>
   have em:(((m+1:Nat):Int)-1)=(m:Int):=by omega
   rw[em];clear em;obtain⟨b,o,rfl,hbl,hcell⟩:=hcP (by omega);obtain⟨d0,d1⟩:=hcell m (by omega);have e0:=(hb0.cell (p:=⟨b,o+m*2,none⟩) hbl).trans d0;have e1:=(hb0.cell (p:=⟨b,o+m*2+1,none⟩) hbl).trans d1;clear d0 d1 hcell hcP
   have hm:m<ps.length:=by omega
   by_cases c:ps[m].at_=(at_:Int)
   ·have c':(ps[m].at_ == (at_:Int))=true:=by simpa using c
    have E:=zaa (yake (d:=ws[at_]) hm c (fun j hj hlt=>H.o j hj (by omega)));clear H c;go_wp2;go_ret;exact⟨zdq E.o.symm,hb0⟩
   ·have c':(ps[m].at_ == (at_:Int))=false:=by simpa using c
    have C:=zaa c;clear c;go_wp2
    go_round
    case rel =>
     refine⟨m,by omega,by go_num,fun j hj hle=>?_⟩
     by_cases e:j=m
     ·subst e;exact C.o
     ·exact H.o j hj (by omega)
    case measure=>simp[intOf]<;>omega
def yacp(ws:List Int)(ps:List Se)(at_:Int):Int:=if zmw ws ps at_=0 then zhl at_ (ws[at_.toNat]?.getD 0) ps else 0
theorem yamc{ws:List Int}{ps:List Se}{at_:Int}(h:¬ zmw ws ps at_=0):yacp ws ps at_=0:=by unfold yacp;rw[if_neg h]
theorem yasc{ws:List Int}{ps:List Se}{k:Nat}(h:zmw ws ps (k:Int)=0)(hk:k<ws.length):yacp ws ps (k:Int)=zhl (k:Int) ws[k] ps:=by
 unfold yacp;rw[if_pos h];simp[hk]
theorem ztw(ws:List Int)(ps:List Se)(at_:Int):(zmw ws ps at_=1\/zmw ws ps at_=14)\/(zmw ws ps at_=0/\zdk ws ps=true/\∃ k:Nat,at_=(k:Int)/\k<32/\k<ws.length):=by
 by_cases c1:zdk ws ps=true
 ·by_cases c2:zml at_=true
  ·have:=zqf c2;have hl:=(zcj c1).1;exact .inr ⟨yadb c1 c2,c1,at_.toNat,by omega,by omega,by omega⟩
  ·exact .inl (.inr (zug c1 (by simpa using c2)))
 ·exact .inl (.inl (yagd (by simpa using c1)))
def pgV(ws:List Int)(ps:List St)(es:List Int)(qs:List Se)(e:Int):Int:=if e%4=1 then ldW ws ps (312+e/4).toNat else if e%4=2 then zhl (e/4) (es[(e/4).toNat]?.getD 0) qs else 0
def flI(ns:List Ino)(ds:List Den)(s:ByteArray):Int×Int:=if (lkI ns ds s).2=0 then(if zal ns (lkI ns ds s).1=1 then((lkI ns ds s).1,0) else(0,9)) else(0,(lkI ns ds s).2)
def zdb(ns:List Ino)(z:Int):Int:=(zan ns z.toNat).size
def zof(ns:List Ino)(z:Int)(p:Int):Int:=(zan ns z.toNat).map.getD p.toNat 0
def rpF(ws:List Int)(ps:List St)(es:List Int)(qs:List Se)(ns:List Ino)(i page:Int):Int×Int:=if 0<=page/\page<zdb ns i then(pgV ws ps es qs (zof ns i page),0) else(0,4)
def rpI(ws:List Int)(ps:List St)(es:List Int)(qs:List Se)(ns:List Ino)(ds:List Den)(s:ByteArray)(page:Int):Int×Int:=if (flI ns ds s).2=0 then rpF ws ps es qs ns (flI ns ds s).1 page else(0,(flI ns ds s).2)
def dvB(ws:List Int)(ps:List St)(es:List Int)(qs:List Se):Bool:=(pmB ws ps&&zdk es qs)&&riB (zbs ws ps)
def rpR(ws:List Int)(ps:List St)(es:List Int)(qs:List Se)(s:ByteArray)(page:Int):Int×Int:=if 65536<s.size then(0,2)else if dvB ws ps es qs=true then rpI ws ps es qs (zbc (zbs ws ps) 16) (zbh (zbs ws ps) 24) s page else(0,1)
def fpI(ns:List Ino):Int:=zbg (fun i=>!zey (zaw (zao ns) 1) (i:Int)) 24
def fsI(ns:List Ino):Int:=zbg (fun i=>!zey (zaw (zao ns) 2) (i:Int)) 32
def wrS(ns:List Ino)(x:Int):List Mi:=if 0<=fpI ns then⟨1,312+fpI ns,x⟩::zbb [312+fpI ns] else[⟨4,fsI ns,x⟩,⟨5,0,0⟩]
def wrE(ns:List Ino):Int:=if 0<=fpI ns then 4*fpI ns+1 else 4*fsI ns+2
def wrU(i page size e:Int):List Se:=⟨48+12*i+(3+page),e⟩::(if size<=page then[⟨48+12*i+1,page+1⟩] else[])
def wrF(ns:List Ino)(i page x:Int):List Mi×Int:=if (0<=page/\page<8)/\zat x=true then(if fpI ns<0/\fsI ns<0 then([],7) else(wrS ns x++zdc (zdw (wrU i page (zdb ns i) (wrE ns))),0)) else([],4)
def wrI(ns:List Ino)(ds:List Den)(s:ByteArray)(page x:Int):List Mi×Int:=if (flI ns ds s).2=0 then wrF ns (flI ns ds s).1 page x else([],(flI ns ds s).2)
def wrR(ws:List Int)(ps:List St)(es:List Int)(qs:List Se)(s:ByteArray)(page x:Int):List Mi×Int:=if 65536<s.size then([],2)else if dvB ws ps es qs=true then wrI (zbc (zbs ws ps) 16) (zbh (zbs ws ps) 24) s page x else([],1)
def cuT(zs:List Int)(i:Int)(n k:Nat):List Se:=((List.range k).filter fun j=>decide (n<=j)&&!(zs.getD j 0 == 0)).map fun(j:Nat)=>⟨48+12*i+(3+(j:Int)),0⟩
def cuU(zs:List Int)(i:Int)(n k:Nat):List Se:=⟨48+12*i+1,(n:Int)⟩::cuT zs i n k
def cuF(ns:List Ino)(i size:Int):List Se×Int:=if 0<=size/\size<=8 then(cuU (zan ns i.toNat).map i size.toNat 8,0) else([],4)
def cuI(ns:List Ino)(ds:List Den)(s:ByteArray)(size:Int):List Se×Int:=if (flI ns ds s).2=0 then cuF ns (flI ns ds s).1 size else([],(flI ns ds s).2)
def pgL(ws:List Int)(ps:List St)(es:List Int)(qs:List Se)(x:Ino)(k:Nat):List Int:=(List.range k).map fun j=>pgV ws ps es qs (x.map.getD j 0)
def psI(ws:List Int)(ps:List St)(es:List Int)(qs:List Se)(ns:List Ino)(ds:List Den)(s:ByteArray):List Int×Int:=if (flI ns ds s).2=0 then(pgL ws ps es qs (zan ns (flI ns ds s).1.toNat) (zdb ns (flI ns ds s).1).toNat,0) else([],(flI ns ds s).2)
def psR(ws:List Int)(ps:List St)(es:List Int)(qs:List Se)(s:ByteArray):List Int×Int:=if 65536<s.size then([],2)else if dvB ws ps es qs=true then psI ws ps es qs (zbc (zbs ws ps) 16) (zbh (zbs ws ps) 24) s else([],1)
theorem yaws{zs:List Int}{i:Int}{n k:Nat}(h:n<=k)(e:¬ zs.getD k 0=0):cuT zs i n (k+1)=cuT zs i n k++[⟨48+12*i+(3+(k:Int)),0⟩]:=by
 unfold cuT;rw[List.range_succ,List.filter_append,List.map_append]
 congr 1
 rw[List.filter_cons_of_pos (by rw[decide_eq_true h];simpa using e)];rfl
theorem ybbh{zs:List Int}{i:Int}{n k:Nat}(e:zs.getD k 0=0):cuT zs i n (k+1)=cuT zs i n k:=by
 unfold cuT;rw[List.range_succ,List.filter_append,List.map_append,List.filter_cons_of_neg (by rw[e];simp)];simp
theorem yalq(zs:List Int)(i:Int)(n:Nat):cuT zs i n n=[]:=by
 unfold cuT;rw[List.filter_eq_nil_iff.2 (fun j hj=>by have:=List.mem_range.1 hj;simp;omega)];rfl
theorem yadv(zs:List Int)(i:Int)(n k:Nat):(cuT zs i n k).length<=k:=by
 unfold cuT;rw[List.length_map];refine Nat.le_trans (List.length_filter_le _ _) ?_;rw[List.length_range];exact Nat.le_refl _
theorem ybay{zs:List Int}{i n k:Nat}(hi:i<16)(hk:k<=8):UpIn (cuT zs (i:Int) n k):=fun u hu=>by
 unfold cuT at hu;obtain⟨j,hm,rfl⟩:=List.mem_map.1 hu;have:=List.mem_range.1 (List.mem_filter.1 hm).1;exact⟨by show 48<=48+12*(i:Int)+(3+(j:Int));omega,by show 48+12*(i:Int)+(3+(j:Int))<312;omega⟩
theorem yasb(ws:List Int)(ps:List St)(es:List Int)(qs:List Se)(x:Ino)(k:Nat):pgL ws ps es qs x (k+1)=pgL ws ps es qs x k++[pgV ws ps es qs (x.map.getD k 0)]:=by
 unfold pgL;rw[List.range_succ,List.map_append];rfl
theorem zgp{ns:List Ino}{ds:List Den}{s:ByteArray}(I:Img ns ds)(h:(flI ns ds s).2=0):∃ i:Nat,i<16/\(flI ns ds s).1=(i:Int)/\(zan ns i).kind=1:=by
 unfold flI at h ⊢
 by_cases c:(lkI ns ds s).2=0
 ·rw[if_pos c]at h ⊢
  by_cases d:zal ns (lkI ns ds s).1=1
  ·rw[if_pos d];obtain⟨i,e,hi,_,k⟩:=znb I c (by rw[d];omega);exact⟨i,hi,e,k⟩
  ·rw[if_neg d]at h;simp at h
 ·rw[if_neg c]at h;exact absurd h c
theorem zwh{fs:List (Nat×Int)}{g:Nat}:∀ {z:Int},(∀ f∈fs,¬ f.1=g)->zrj fs g z=z:=by
 induction fs with
 | nil=>intro z _;rfl
 | cons f fs ih =>
  intro z h
  show zrj fs g (if f.1=g then f.2 else z)=z
  rw[if_neg (h f (List.mem_cons_self ..))];exact ih (fun q hq=>h q (List.mem_cons_of_mem _ hq))
theorem yaty{fs:List (Nat×Int)}{g:Nat}(h0:∀ f∈fs,f.2=0):∀ {z:Int},(z=0\/∃ f∈fs,f.1=g)->zrj fs g z=0:=by
 induction fs with
 | nil=>intro z h;rcases h with h | ⟨_,h,_⟩;exact h;cases h
 | cons f fs ih =>
  intro z h
  show zrj fs g (if f.1=g then f.2 else z)=0
  refine ih (fun q hq=>h0 q (List.mem_cons_of_mem _ hq)) ?_
  by_cases e:f.1=g
  ·rw[if_pos e];exact .inl (h0 f (List.mem_cons_self ..))
  ·rw[if_neg e]
   rcases h with h | ⟨q,hq,hg⟩
   ·exact .inl h
   ·rcases List.mem_cons.1 hq with rfl | hq
    ·exact absurd hg e
    ·exact .inr ⟨q,hq,hg⟩
def cuFs(zs:List Int)(n:Nat):List (Nat×Int):=((List.range 8).filter fun j=>decide (n<=j)&&!(zs.getD j 0 == 0)).map fun(j:Nat)=>(3+j,0)
theorem yagp(zs:List Int)(i n:Nat):zqg i ((1,(n:Int))::cuFs zs n)=cuU zs (i:Int) n 8:=by
 unfold zqg cuU cuT cuFs;rw[List.map_cons,List.map_map];rfl
theorem zmj{zs:List Int}{n:Nat}{f:Nat×Int}(h:f∈cuFs zs n):∃ j,j<8/\n<=j/\f=(3+j,0):=by
 unfold cuFs at h;obtain⟨j,hm,rfl⟩:=List.mem_map.1 h;obtain⟨a,b⟩:=List.mem_filter.1 hm;rw[Bool.and_eq_true,decide_eq_true_eq]at b;exact⟨j,List.mem_range.1 a,b.1,rfl⟩
theorem yamq{zs:List Int}{n j:Nat}(hj:j<8):zrj ((1,(n:Int))::cuFs zs n) (3+j) (zs.getD j 0)=(cutM zs n).getD j 0:=by
 show zrj (cuFs zs n) (3+j) (if 1=3+j then(n:Int)else zs.getD j 0)=_
 rw[if_neg (by omega),yajl _ _ _ hj]
 by_cases c:j<n
 ·rw[if_pos c];exact zwh (fun f hf=>by obtain⟨q,_,hq,rfl⟩:=zmj hf;show ¬ 3+q=3+j;omega)
 ·rw[if_neg c];refine yaty (fun f hf=>by obtain⟨q,_,_,rfl⟩:=zmj hf;rfl) ?_
  by_cases e:zs.getD j 0=0
  ·exact .inl e
  ·refine .inr ⟨(3+j,0),?_,rfl⟩;unfold cuFs;exact List.mem_map.2 ⟨j,List.mem_filter.2 ⟨List.mem_range.2 hj,by rw[decide_eq_true (by omega:n<=j)];simpa using e⟩,rfl⟩
theorem yaex(x:Ino)(n:Nat):zzt x ((1,(n:Int))::cuFs x.map n)=zxk x.kind (n:Int) x.links (cutM x.map n):=by
 have N:∀ g,g<3->¬ g=1->∀ z,zrj ((1,(n:Int))::cuFs x.map n) g z=z:=fun g hg h1 z=>zwh (fun f hf=>by
  rcases List.mem_cons.1 hf with rfl | hf
  ·show ¬ 1=g;omega
  ·obtain⟨q,_,_,rfl⟩:=zmj hf;show ¬ 3+q=g;omega)
 have P:=fun j hj=>yamq (zs:=x.map) (n:=n) (j:=j) hj
 unfold zzt zxk
 congr 1
 ·exact N 0 (by omega) (by omega) _
 ·show zrj (cuFs x.map n) 1 (n:Int)=(n:Int)
  exact zwh (fun f hf=>by obtain⟨q,_,_,rfl⟩:=zmj hf;show ¬ 3+q=1;omega)
 ·exact N 2 (by omega) (by omega) _
 ·exact P 0 (by omega)
 ·exact P 1 (by omega)
 ·exact P 2 (by omega)
 ·exact P 3 (by omega)
 ·exact P 4 (by omega)
 ·exact P 5 (by omega)
 ·exact P 6 (by omega)
 ·exact P 7 (by omega)
theorem yazc{ls:List Int}{ns:List Ino}{ds:List Den}(h:Wi ls ns ds){s:ByteArray}{size:Int}{us:List Se}(e:cuI ns ds s size=(us,0)) :
  UpIn us/\us.length<=9/\∃ i n:Nat,i<16/\n<=8/\(flI ns ds s).1=(i:Int)/\size=(n:Int)/\Wi (zdl ls us) (ns.set i (zxk (zan ns i).kind (n:Int) (zan ns i).links (cutM (zan ns i).map n))) ds:=by
 unfold cuI at e
 by_cases c:(flI ns ds s).2=0
 ·rw[if_pos c]at e;obtain⟨i,hi,ei,k⟩:=zgp h.img c;rw[ei]at e;unfold cuF at e
  by_cases d:0<=size/\size<=8
  ·rw[if_pos d]at e
   obtain⟨n,rfl⟩:∃ n:Nat,size=(n:Int):=⟨size.toNat,by omega⟩
   rw[Int.toNat_natCast,Int.toNat_natCast]at e;obtain⟨rfl,-⟩:=Prod.mk.inj e;rw[<- yagp]
   have hf:∀ f∈(1,(n:Int))::cuFs (zan ns i).map n,f.1<11:=fun f hf=>by
    rcases List.mem_cons.1 hf with rfl | hf
    ·show 1<11;omega
    ·obtain⟨q,hq,_,rfl⟩:=zmj hf;show 3+q<11;omega
   refine⟨zwq hi hf,?_,i,n,hi,by omega,ei,rfl,?_⟩
   ·rw[yagp];have:=yadv (zan ns i).map (i:Int) n 8
    show(cuT (zan ns i).map (i:Int) n 8).length+1<=9
    omega
   ·rw[<- yaex];exact yavf h hi hf (by rw[yaex];exact yawz h.img hi k (by omega))
  ·rw[if_neg d]at e;simp at e
 ·rw[if_neg c]at e;exact absurd (Prod.mk.inj e).2 c
def wrFs(p:Nat)(e size:Int):List (Nat×Int):=(3+p,e)::(if size<=(p:Int) then[(1,(p:Int)+1)] else[])
theorem yaqs(i p:Nat)(e size:Int):zqg i (wrFs p e size)=wrU (i:Int) (p:Int) size e:=by
 unfold zqg wrU wrFs;rw[List.map_cons]
 by_cases c:size<=(p:Int)
 ·rw[if_pos c,if_pos c]
  show[(⟨48+12*(i:Int)+((3+p:Nat):Int),e⟩:Se),⟨48+12*(i:Int)+1,(p:Int)+1⟩]=_
  rw[show 48+12*(i:Int)+((3+p:Nat):Int)=48+12*(i:Int)+(3+(p:Int)) by omega]
 ·rw[if_neg c,if_neg c]
  show[(⟨48+12*(i:Int)+((3+p:Nat):Int),e⟩:Se)]=_
  rw[show 48+12*(i:Int)+((3+p:Nat):Int)=48+12*(i:Int)+(3+(p:Int)) by omega]
theorem yaob{p:Nat}{e size:Int}(hp:p<8):∀ f∈wrFs p e size,f.1<11:=fun f hf=>by
 unfold wrFs at hf
 rcases List.mem_cons.1 hf with rfl | hf
 ·show 3+p<11;omega
 ·by_cases c:size<=(p:Int)
  ·rw[if_pos c,List.mem_singleton]at hf;rw[hf];show 1<11;omega
  ·rw[if_neg c]at hf;cases hf
theorem yafq(x:Ino){p:Nat}(hp:p<8)(e:Int):zzt x (wrFs p e x.size)=zxk x.kind (if (p:Int)<x.size then x.size else(p:Int)+1) x.links (x.map.set p e):=by
 have G:∀ g z,zrj (wrFs p e x.size) g z=if g=1/\x.size<=(p:Int) then(p:Int)+1 else if g=3+p then e else z:=by
  intro g z;unfold wrFs
  by_cases c:x.size<=(p:Int)
  ·rw[if_pos c]
   show(if 1=g then(p:Int)+1 else(if 3+p=g then e else z))=_
   repeat' split
   all_goals omega
  ·rw[if_neg c]
   show(if 3+p=g then e else z)=_
   repeat' split
   all_goals omega
 have M:∀ j,j<8->zrj (wrFs p e x.size) (3+j) (x.map.getD j 0)=(x.map.set p e).getD j 0:=by
  intro j hj;rw[G,if_neg (fun q=>by omega),List.getD_eq_getElem?_getD,List.getD_eq_getElem?_getD,List.getElem?_set]
  by_cases b:j=p
  ·subst b;rw[if_pos rfl,if_pos rfl,if_pos (by show j<8;exact hj)];rfl
  ·rw[if_neg (by omega),if_neg (fun q=>b q.symm)]
 unfold zzt zxk
 congr 1
 ·rw[G,if_neg (fun q=>by omega),if_neg (by omega)]
 ·rw[G]
  by_cases c:(p:Int)<x.size
  ·rw[if_neg (fun q=>by omega),if_neg (by omega),if_pos c]
  ·rw[if_pos ⟨rfl,by omega⟩,if_neg c]
 ·rw[G,if_neg (fun q=>by omega),if_neg (by omega)]
 ·exact M 0 (by omega)
 ·exact M 1 (by omega)
 ·exact M 2 (by omega)
 ·exact M 3 (by omega)
 ·exact M 4 (by omega)
 ·exact M 5 (by omega)
 ·exact M 6 (by omega)
 ·exact M 7 (by omega)
theorem zps{ls:List Int}{ns:List Ino}{ds:List Den}(h:Wi ls ns ds){i p:Nat}{e:Int}(hi:i<16)(k:(zan ns i).kind=1)(hp:p<8)(te:zen e=true)(he:¬ e=0)(new:¬ e∈zao ns) :
  UpIn (wrU (i:Int) (p:Int) (zan ns i).size e)/\Wi (zdl ls (wrU (i:Int) (p:Int) (zan ns i).size e)) (ns.set i (zxk (zan ns i).kind (if (p:Int)<(zan ns i).size then(zan ns i).size else(p:Int)+1) (zan ns i).links ((zan ns i).map.set p e))) ds:=by
 rw[<- yaqs,<- yafq _ hp];exact⟨zwq hi (yaob hp),yavf h hi (yaob hp) (by rw[yafq _ hp];exact yaot h.img hi k hp te he new rfl)⟩
theorem yawi{ls:List Int}{ns:List Ino}{ds:List Den}(h:Wi ls ns ds){i p:Nat}{e:Int}(hi:i<16)(hp:p<8)(was:¬ (zan ns i).map.getD p 0=0)(te:zen e=true)(he:¬ e=0)(new:¬ e∈zao ns) :
  Wi (zdl ls [⟨48+12*(i:Int)+(3+(p:Int)),e⟩]) (ns.set i (zxk (zan ns i).kind (zan ns i).size (zan ns i).links ((zan ns i).map.set p e))) ds:=by
 obtain⟨sz,k⟩:=yalm (h.img.ok i hi) hp was;have q:=(zps h hi k hp te he new).2;unfold wrU at q;rw[if_neg (by omega),if_pos sz]at q;exact q
theorem zdx{p:Nat->Bool}{n:Nat}(h:0<=zbg p n):∃ k:Nat,k<n/\zbg p n=(k:Int)/\p k=true:=by
 unfold zbg at h ⊢
 cases e:(List.range n).find? p with
 | none=>rw[e]at h;exact absurd h (by show ¬ (0:Int)<=-1;omega)
 | some k=>exact⟨k,List.mem_range.1 (List.mem_of_find?_eq_some e),rfl,List.find?_some e⟩
theorem yafk{ns:List Ino}{t:Int}{k:Nat}(ht:0<=t/\t<4)(h:(!zey (zaw (zao ns) t) (k:Int))=true):¬ 4*(k:Int)+t∈zao ns:=by
 intro m;unfold zey zaw at h;rw[Bool.not_eq_true',<- Bool.not_eq_true]at h;refine h (List.contains_iff_mem.2 (List.mem_map.2 ⟨4*(k:Int)+t,List.mem_filter.2 ⟨m,?_⟩,by omega⟩));rw[beq_iff_eq];omega
theorem yacm{ns:List Ino}(h:¬ (fpI ns<0/\fsI ns<0)):zen (wrE ns)=true/\¬ wrE ns=0/\¬ wrE ns∈zao ns:=by
 unfold wrE
 by_cases c:0<=fpI ns
 ·rw[if_pos c];obtain⟨k,hk,e,q⟩:=zdx c;have e':fpI ns=(k:Int):=e;rw[e'];refine⟨?_,by omega,yafk (by omega) q⟩;unfold zen zfg;simp;omega
 ·rw[if_neg c];obtain⟨k,hk,e,q⟩:=zdx (p:=fun i=>!zey (zaw (zao ns) 2) (i:Int)) (n:=32) (by have:¬ fsI ns<0:=fun z=>h ⟨by omega,z⟩;unfold fsI at this;omega);have e':fsI ns=(k:Int):=e;rw[e'];refine⟨?_,by omega,yafk (by omega) q⟩;unfold zen zfg;simp;omega
def zse:List Int:=(((List.replicate 336 (0:Int)).set 0 7).set 48 2).set 50 1
theorem yaoh:zse.length=336:=by kernel_rfl
theorem yagx:zbc zse 16=⟨2,0,1,0,0,0,0,0,0,0,0⟩::List.replicate 15 zcf:=by kernel_rfl
theorem yaic:zci zse 24=true:=by kernel_rfl
theorem yain:zbh zse 24=List.replicate 24 freeD:=by kernel_rfl
theorem yapo:zck (⟨2,0,1,0,0,0,0,0,0,0,0⟩::List.replicate 15 zcf) (List.replicate 24 freeD)=true:=by kernel_rfl
theorem yaqr:Wi zse (⟨2,0,1,0,0,0,0,0,0,0,0⟩::List.replicate 15 zcf) (List.replicate 24 freeD) :=
 ⟨yaoh,by kernel_rfl,yaic,yagx,yain,zbt.1 yapo⟩
def wrW(ls:List Int)(ns:List Ino)(x:Int):List Int:=if 0<=fpI ns then ls.set (312+fpI ns).toNat x else ls
theorem yayq(ls:List Int)(ns:List Ino)(x:Int):zos (ls,[]) (wrS ns x)=(wrW ls ns x,[]):=by
 unfold wrS wrW
 by_cases c:0<=fpI ns
 ·rw[if_pos c,if_pos c];exact zjd [up (312+fpI ns) x] ls
 ·rw[if_neg c,if_neg c];rfl
theorem yaxc(ls:List Int)(ns:List Ino)(x:Int):(wrW ls ns x).length=ls.length:=by
 unfold wrW
 split
 ·rw[List.length_set]
 ·rfl
theorem yavj{ls:List Int}{ns:List Ino}{x:Int}(hl:ls.length=336){z:Int}(hz:0<=z/\z<312):wdI (wrW ls ns x) z=wdI ls z:=by
 unfold wrW
 by_cases c:0<=fpI ns
 ·rw[if_pos c];obtain⟨k,hk,e,-⟩:=zdx c;have e':fpI ns=(k:Int):=e;rw[zfd (by omega) (by rw[e'];omega) (by omega),if_neg (by omega)]
 ·rw[if_neg c]
theorem yaeo{ls:List Int}{ns:List Ino}{ds:List Den}(h:Wi ls ns ds)(c0:wdI ls 8=0){s:ByteArray}{page x:Int}{l:List Mi}(e:wrI ns ds s page x=(l,0)) :
  ∃ i p:Nat,∃ ls',i<16/\p<8/\(flI ns ds s).1=(i:Int)/\page=(p:Int)/\zos (ls,[]) l=(ls',[])/\wdI ls' 8=0/\Wi ls' (ns.set i (zxk (zan ns i).kind (if (p:Int)<(zan ns i).size then(zan ns i).size else(p:Int)+1) (zan ns i).links ((zan ns i).map.set p (wrE ns)))) ds:=by
 unfold wrI at e
 by_cases c:(flI ns ds s).2=0
 ·rw[if_pos c]at e;obtain⟨i,hi,ei,k⟩:=zgp h.img c;rw[ei]at e;unfold wrF at e
  by_cases d:(0<=page/\page<8)/\zat x=true
  ·rw[if_pos d]at e
   by_cases f:fpI ns<0/\fsI ns<0
   ·rw[if_pos f]at e;simp at e
   ·rw[if_neg f]at e
    obtain⟨p,rfl⟩:∃ p:Nat,page=(p:Int):=⟨page.toNat,by omega⟩
    have hp:p<8:=by omega
    obtain⟨te,he,new⟩:=yacm f
    have l1:(wrW ls ns x).length=336:=by rw[yaxc];exact h.len
    have h1:Wi (wrW ls ns x) ns ds:=zvk h l1 (fun z hz=>yavj h.len (by omega));have q:=zps h1 hi k hp te he new
    have c1:wdI (wrW ls ns x) 8=0:=by rw[yavj h.len (by omega)];exact c0
    have sz:zdb ns (i:Int)=(zan ns i).size:=by unfold zdb;rw[Int.toNat_natCast]
    rw[sz]at e;obtain⟨rfl,-⟩:=Prod.mk.inj e;refine⟨i,p,znd (wrW ls ns x) (wrU (i:Int) (p:Int) (zan ns i).size (wrE ns)),hi,hp,ei,rfl,?_,zqy l1 c1,yale l1 ?_ q.1 q.2⟩
    ·rw[zdd,yayq,zme]
    ·unfold wrU
     split<;>simp
  ·rw[if_neg d]at e;simp at e
 ·rw[if_neg c]at e;exact absurd (Prod.mk.inj e).2 c
end Go.Proofs.YtdiaiejmoocpmaaGreatDoor
