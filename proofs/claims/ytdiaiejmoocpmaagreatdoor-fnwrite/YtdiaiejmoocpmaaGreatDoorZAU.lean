import Derived.Test.YtdiaiejmoocpmaaGreatDoorZAT
set_option maxHeartbeats 4000000
namespace Go.Proofs.YtdiaiejmoocpmaaGreatDoor
open Go.RowKit
def seB(s:Se):Bool:=zmm s.at_&&zat s.val
theorem yask{s:Se}(h:seB s=true):zmm s.at_=true/\zat s.val=true:=by unfold seB at h;simpa using h
theorem yaop{s:Se}{p:Prop}(h:seB s=false)(h1:zmm s.at_=false->p)(h2:zat s.val=false->p):p:=by
 unfold seB at h;rw[Bool.and_eq_false_iff]at h;exact h.elim h1 h2
def sesB(ps:List Se):Bool:=decide (∀ k (h:k<ps.length),seB ps[k]=true)
theorem yank{ps:List Se}(h:sesB ps=true):∀ k (h:k<ps.length),seB ps[k]=true:=of_decide_eq_true h
theorem yalk{ps:List Se}(h:∀ k (h:k<ps.length),seB ps[k]=true):sesB ps=true:=decide_eq_true h
theorem yaqq{ps:List Se}{k:Nat}(hk:k<ps.length)(h:seB ps[k]=false):sesB ps=false:=decide_eq_false (fun x=>by have:=x k hk;rw[h]at this;cases this)
theorem yawj{ps:List Se}(h:sesB ps=false):∃ k,∃ h:k<ps.length,seB ps[k]=false:=by
 apply Classical.byContradiction;intro hn
 have:sesB ps=true:=yalk (fun k hk=>by
  cases e:seB ps[k] with
  | true=>rfl
  | false=>exact absurd ⟨k,hk,e⟩ hn)
 rw[h]at this
 cases this
theorem zql(s:Se)(w:World):zC 100 #[.agg #[.I s.at_,.I s.val]] w fun e w'=>e=.returned (.bool (seB s))/\zB w w':=by
 have hb0:zB w (w.alloc (.cells #[.I s.at_,.I s.val] 153)):=zR.alloc zL _
 by_cases q:zmm s.at_=true
 ·have E:=zaa (show seB s=zat s.val by unfold seB;rw[q];rfl);have Q:=zaa q;clear q;go_enter Tryz.func100,Tryz.ntmps100;go_wp2_with (first | (go_at_call 136;refine(zfn _ _).mono ?_;rw[Q.o];rintro e w' ⟨rfl,rfl⟩) | (go_at_call 51;refine(zce _ _).mono ?_;rintro e w' ⟨rfl,rfl⟩));go_ret;exact⟨zag E.o.symm,hb0⟩
 ·have q':zmm s.at_=false:=by simpa using q
  have E:=zaa (show seB s=false by unfold seB;rw[q'];rfl);have Q:=zaa q';clear q q';go_enter Tryz.func100,Tryz.ntmps100;go_wp2_with (go_at_call 136;refine(zfn _ _).mono ?_;rw[Q.o];rintro e w' ⟨rfl,rfl⟩);go_ret;exact⟨zag E.o.symm,hb0⟩
theorem zkm(v:Value)(ps:List Se)(w:World)(h:RdE w v ps)(hn:ps.length<=1048576) :
  zC 99 #[v,.func (.func 100) #[] #[]] w fun e w'=>e=.returned (.bool (sesB ps))/\zB w w':=by
 obtain⟨aP,cP,rfl,_,hcP⟩:=h.shape;clear h;go_enter Tryz.func99,Tryz.ntmps99;go_wp2
 go_loopw [6,9] (fun _ i wr=>∃ k:Nat,k<=ps.length/\i=.I k/\Hid (∀ j (h:j<ps.length),j<k->seB ps[j]=true)/\zB w wr) (fun _ i _=>ps.length-(intOf i).toNat)
 case atStart=>exact⟨0,by omega,rfl,fun j h a=>absurd a (by omega),zR⟩
 case round =>
  obtain⟨m,hm,rfl,H,hbw⟩:=hrel;have hz:=hbw.size
  by_cases hlt2:m<ps.length
  ·obtain⟨b2,o2,rfl,hbl2,hcell2⟩:=hcP (by omega);obtain⟨d0,d1⟩:=hcell2 m hlt2;have e0:=(hbw.cell (p:=⟨b2,o2+m*2,none⟩) hbl2).trans d0;have e1:=(hbw.cell (p:=⟨b2,o2+m*2+1,none⟩) hbl2).trans d1;have hb1:=zaa (hbw.alloc hz (.cells #[.I ps[m].at_,.I ps[m].val] 153));clear d0 d1 hcell2 hcP
   by_cases q:seB ps[m]=true
   ·have Q:=zaa q;clear q;go_wp2_with (go_at_call 100;refine(zql ps[m] _).mono ?_;rw[Q.o];rintro e w' ⟨rfl,hw'⟩);have hw2:=hb1.o.trans (hw'.mono (by simp;omega));clear hb1 hw'
    go_roundw
    case rel =>
     refine⟨m+1,by omega,by go_num,fun j h a=>?_,hw2⟩
     by_cases e:j=m
     ·subst e;exact Q.o
     ·exact H.o j h (by omega)
    case measure=>simp[intOf];omega
   ·have Q:=zaa (show seB ps[m]=false by simpa using q);have E:=zaa (yaqq hlt2 Q.o);clear q;go_wp2_with (go_at_call 100;refine(zql ps[m] _).mono ?_;rw[Q.o];rintro e w' ⟨rfl,hw'⟩);have hw2:=hb1.o.trans (hw'.mono (by simp;omega));go_ret;exact⟨zag E.o.symm,hw2⟩
  ·have E:=zaa (yalk (fun j h=>H.o j h (by omega)));go_wp2;go_ret;exact⟨zag E.o.symm,hbw⟩
theorem zdd(v:Value)(ws:List Int)(ps:List Se)(w:World)(h:RdBlk w v ws ps)(hw:ws.length<=1048576)(hp:ps.length<=1048576) :
  zC 48 #[v] w fun e w'=>e=.returned (.bool (zdk ws ps))/\zB w w':=by
 obtain⟨vW,vP,rfl,h1,h2⟩:=h;obtain⟨aW,cW,rfl,_,hcW⟩:=h1.shape;obtain⟨aP,cP,rfl,_,hcP⟩:=h2.shape;have H1:=zaa h1;have H2:=zaa h2;clear h1 h2 hcW hcP;have hb0:zB w (w.alloc (.cells #[.slice aW ws.length cW,.slice aP ps.length cP] 29)):=zR.alloc zL _;have HB:=zaa hb0
 by_cases c1:ws.length=32
 case neg =>
  have E:=zaa (zyb (ps:=ps) c1)
  have c1':((ws.length:Int) == 32)=false:=by rw[beq_eq_false_iff_ne];omega
  clear c1;go_enter Tryz.func48,Tryz.ntmps48;go_wp2;go_ret;exact⟨zag E.o.symm,HB.o⟩
 have c1n:((ws.length:Int) == 32)=true:=by simp;omega
 have C1:=zaa c1;clear c1
 by_cases c2:400<ps.length
 ·have E:=zaa (zyo (ws:=ws) c2)
  have c2':decide ((ps.length:Int)<=400)=false:=by simp;omega
  go_enter Tryz.func48,Tryz.ntmps48;go_wp2;go_ret;exact⟨zag E.o.symm,HB.o⟩
 by_cases c3:zkl ws=true
 case neg =>
  have c3':zkl ws=false:=by simpa using c3
  obtain⟨k,hk,hkf⟩:=zxs c3';have E:=zaa (yavg (ps:=ps) hk hkf);have W0:=zaa c3';clear c3 c3' hkf hk;go_enter Tryz.func48,Tryz.ntmps48;go_wp2_with (go_at_call 98;refine(zdz _ ws _ (Rd.below H1.o HB.o) (by omega)).mono ?_;rw[W0.o];rintro e w' ⟨rfl,rfl⟩);go_ret;exact⟨zag E.o.symm,HB.o⟩
 have HW:=zaa (zqq c3);have W1:=zaa c3;clear c3
 cases c4:sesB ps with
 | true =>
  have E:=zaa (yadt C1.o (by omega) HW.o (fun j h=>yask (yank c4 j h)));have W2:=zaa c4;clear c4;go_enter Tryz.func48,Tryz.ntmps48;go_wp2_with (first | (go_at_call 98;refine(zdz _ ws _ (Rd.below H1.o HB.o) (by omega)).mono ?_;rw[W1.o];rintro e w' ⟨rfl,rfl⟩) | (go_at_call 99;refine(zkm _ ps _ (Rd.below H2.o HB.o) (by omega)).mono ?_;rw[W2.o];rintro e w' ⟨rfl,hw'⟩));go_ret;exact⟨zag E.o.symm,HB.o.trans (hw'.mono (by simp))⟩
 | false =>
  obtain⟨k,hk,hkf⟩:=yawj c4;have E:=zaa (show zdk ws ps=false from yaop hkf (yavc (ws:=ws) hk) (yavs (ws:=ws) hk));have W2:=zaa c4;clear c4 hk hkf;go_enter Tryz.func48,Tryz.ntmps48;go_wp2_with (first | (go_at_call 98;refine(zdz _ ws _ (Rd.below H1.o HB.o) (by omega)).mono ?_;rw[W1.o];rintro e w' ⟨rfl,rfl⟩) | (go_at_call 99;refine(zkm _ ps _ (Rd.below H2.o HB.o) (by omega)).mono ?_;rw[W2.o];rintro e w' ⟨rfl,hw'⟩));go_ret;exact⟨zag E.o.symm,HB.o.trans (hw'.mono (by simp))⟩
def zmh(ws:List Int)(ps:List Se)(at_:Int):Int:=if zdk ws ps=false then 1 else if zmm at_=false then 14 else 0
theorem yagd{ws:List Int}{ps:List Se}{at_:Int}(h:zdk ws ps=false):zmh ws ps at_=1:=by unfold zmh;rw[if_pos h]
theorem zuc{ws:List Int}{ps:List Se}{at_:Int}(h:zdk ws ps=true)(h2:zmm at_=false):zmh ws ps at_=14:=by unfold zmh;rw[if_neg (by rw[h];simp),if_pos h2]
theorem yadj{ws:List Int}{ps:List Se}{at_:Int}(h:zdk ws ps=true)(h2:zmm at_=true):zmh ws ps at_=0:=by unfold zmh;rw[if_neg (by rw[h];simp),if_neg (by rw[h2];simp)]
theorem zda(v:Value)(ws:List Int)(ps:List Se)(at_:Int)(w:World)(h:RdBlk w v ws ps)(hw:ws.length<=1048576)(hp:ps.length<=1048576) :
  zC 124 #[v,.I at_] w fun e w'=>e=.returned (.I (zmh ws ps at_))/\zB w w':=by
 have HR:=zaa h;obtain⟨vW,vP,rfl,h1,h2⟩:=h;obtain⟨aW,cW,rfl,_⟩:=h1.shape;obtain⟨aP,cP,rfl,_⟩:=h2.shape;clear h1 h2;have hb0:zB w (w.alloc (.cells #[.slice aW ws.length cW,.slice aP ps.length cP] 29)):=zR.alloc zL _
 by_cases c1:zdk ws ps=true
 ·by_cases c2:zmm at_=true
  ·rw[yadj c1 c2];go_enter Tryz.func124,Tryz.ntmps124;go_wp2_with (first | (go_at_call 48;refine(zdd _ ws ps _ (HR.o.below hb0) hw hp).mono ?_;rintro e w1 ⟨rfl,hb1⟩) | (go_at_call 136;refine(zfn _ _).mono ?_;rintro e w2 ⟨rfl,rfl⟩));go_ret;exact⟨rfl,zab hb0 hb1 (by simp)⟩
  ·have c2':zmm at_=false:=by simpa using c2
   rw[zuc c1 c2'];clear c2;go_enter Tryz.func124,Tryz.ntmps124;go_wp2_with (first | (go_at_call 48;refine(zdd _ ws ps _ (HR.o.below hb0) hw hp).mono ?_;rintro e w1 ⟨rfl,hb1⟩) | (go_at_call 136;refine(zfn _ _).mono ?_;rintro e w2 ⟨rfl,rfl⟩));go_ret;exact⟨rfl,zab hb0 hb1 (by simp)⟩
 ·have c1':zdk ws ps=false:=by simpa using c1
  rw[yagd c1'];clear c1;go_enter Tryz.func124,Tryz.ntmps124;go_wp2_with (first | (go_at_call 48;refine(zdd _ ws ps _ (HR.o.below hb0) hw hp).mono ?_;rintro e w1 ⟨rfl,hb1⟩) | (go_at_call 136;refine(zfn _ _).mono ?_;rintro e w2 ⟨rfl,rfl⟩));go_ret;exact⟨rfl,zab hb0 hb1 (by simp)⟩
def zhn(at_ d:Int)(ps:List Se):Int:=ps.foldl (fun acc p=>if p.at_=at_ then p.val else acc) d
theorem zhd{at_ d:Int}:∀ {ps:List Se},(∀ p∈ps,¬ p.at_=at_)->zhn at_ d ps=d
 | [],_=>rfl
 | p::ps,h=>by
  show zhn at_ (if p.at_=at_ then p.val else d) ps=d
  rw[if_neg (h p (by simp))];exact zhd (fun q hq=>h q (by simp[hq]))
theorem zyi(at_ d:Int)(ps qs:List Se):zhn at_ d (ps++qs)=zhn at_ (zhn at_ d ps) qs:=by simp[zhn]
theorem yalx{at_ d:Int}{ps:List Se}{k:Nat}(hk:k<ps.length)(h:ps[k].at_=at_)(ha:∀ j (hj:j<ps.length),k<j->¬ ps[j].at_=at_):zhn at_ d ps=ps[k].val:=by
 have e:ps=ps.take k++(ps[k]::ps.drop (k+1)):=by rw[<- List.drop_eq_getElem_cons hk,List.take_append_drop]
 conv=>lhs;rw[e]
 rw[zyi]
 show zhn at_ (if ps[k].at_=at_ then ps[k].val else _) (ps.drop (k+1))=_
 rw[if_pos h];apply zhd;intro p hp;obtain⟨i,hi,rfl⟩:=List.getElem_of_mem hp;rw[List.getElem_drop];exact ha _ _ (by omega)
theorem yadd(v:Value)(ws:List Int)(ps:List Se)(at_:Nat)(w:World)(h:RdBlk w v ws ps)(hw:ws.length<=1048576)(hp:ps.length<=1048576)(ha:at_<ws.length) :
  zC 161 #[v,.I (at_:Int)] w fun e w'=>e=.returned (.I (zhn (at_:Int) ws[at_] ps))/\zB w w':=by
 obtain⟨vW,vP,rfl,h1,h2⟩:=h;obtain⟨aW,cW,rfl,_,hcW⟩:=h1.shape;obtain⟨aP,cP,rfl,_,hcP⟩:=h2.shape;clear h1 h2;obtain⟨bW,oW,rfl,hbW,hcellW⟩:=hcW (by omega);have hb0:zB w (w.alloc (.cells #[.slice (some ⟨bW,oW,none⟩) ws.length cW,.slice aP ps.length cP] 29)):=zR.alloc zL _;have hcw:=(hb0.cell (p:=⟨bW,oW+at_,none⟩) hbW).trans (hcellW at_ ha);clear hcW hcellW;go_enter Tryz.func161,Tryz.ntmps161;go_wp2
 go_loop [5] (fun i=>∃ k:Nat,k<=ps.length/\i=.I ((k:Int)-1)/\Hid (∀ j (h:j<ps.length),k<=j->¬ ps[j].at_=(at_:Int))) (fun i=>(intOf i+1).toNat)
 case atStart=>exact⟨ps.length,Nat.le_refl _,rfl,fun j h a=>absurd h (by omega)⟩
 case round =>
  obtain⟨k,hk,rfl,H⟩:=hrel
  cases k with
  | zero =>
   have E:=zaa (zhd (d:=ws[at_]) (fun p hp=>by obtain⟨i,hi,rfl⟩:=List.getElem_of_mem hp;exact H.o i hi (by omega)));clear H hcP;go_wp2;go_ret;exact⟨zdq E.o.symm,hb0⟩
  | succ m =>
   have em:(((m+1:Nat):Int)-1)=(m:Int):=by omega
   rw[em];clear em;obtain⟨b,o,rfl,hbl,hcell⟩:=hcP (by omega);obtain⟨d0,d1⟩:=hcell m (by omega);have e0:=(hb0.cell (p:=⟨b,o+m*2,none⟩) hbl).trans d0;have e1:=(hb0.cell (p:=⟨b,o+m*2+1,none⟩) hbl).trans d1;clear d0 d1 hcell hcP
   have hm:m<ps.length:=by omega
   by_cases c:ps[m].at_=(at_:Int)
   ·have c':(ps[m].at_ == (at_:Int))=true:=by simpa using c
    have E:=zaa (yalx (d:=ws[at_]) hm c (fun j hj hlt=>H.o j hj (by omega)));clear H c;go_wp2;go_ret;exact⟨zdq E.o.symm,hb0⟩
   ·have c':(ps[m].at_ == (at_:Int))=false:=by simpa using c
    have C:=zaa c;clear c;go_wp2
    go_round
    case rel =>
     refine⟨m,by omega,by go_num,fun j hj hle=>?_⟩
     by_cases e:j=m
     ·subst e;exact C.o
     ·exact H.o j hj (by omega)
    case measure=>simp[intOf]<;>omega
def yabl(ws:List Int)(ps:List Se)(at_:Int):Int:=if zmh ws ps at_=0 then zhn at_ (ws[at_.toNat]?.getD 0) ps else 0
theorem yajb{ws:List Int}{ps:List Se}{at_:Int}(h:¬ zmh ws ps at_=0):yabl ws ps at_=0:=by unfold yabl;rw[if_neg h]
theorem yasf{ws:List Int}{ps:List Se}{k:Nat}(h:zmh ws ps (k:Int)=0)(hk:k<ws.length):yabl ws ps (k:Int)=zhn (k:Int) ws[k] ps:=by
 unfold yabl;rw[if_pos h];simp[hk]
theorem zug(ws:List Int)(ps:List Se)(at_:Int):(zmh ws ps at_=1\/zmh ws ps at_=14)\/(zmh ws ps at_=0/\zdk ws ps=true/\∃ k:Nat,at_=(k:Int)/\k<32/\k<ws.length):=by
 by_cases c1:zdk ws ps=true
 ·by_cases c2:zmm at_=true
  ·have:=zsm c2;have hl:=(zcj c1).1;exact .inr ⟨yadj c1 c2,c1,at_.toNat,by omega,by omega,by omega⟩
  ·exact .inl (.inr (zuc c1 (by simpa using c2)))
 ·exact .inl (.inl (yagd (by simpa using c1)))
def pgV(ws:List Int)(ps:List St)(es:List Int)(qs:List Se)(e:Int):Int:=if e%4=1 then ldW ws ps (312+e/4).toNat else if e%4=2 then zhn (e/4) (es[(e/4).toNat]?.getD 0) qs else 0
def flI(ns:List Ino)(ds:List Den)(s:ByteArray):Int×Int:=if (lkI ns ds s).2=0 then(if zal ns (lkI ns ds s).1=1 then((lkI ns ds s).1,0) else(0,9)) else(0,(lkI ns ds s).2)
def zcx(ns:List Ino)(z:Int):Int:=(zan ns z.toNat).size
def zod(ns:List Ino)(z:Int)(p:Int):Int:=(zan ns z.toNat).map.getD p.toNat 0
def rpF(ws:List Int)(ps:List St)(es:List Int)(qs:List Se)(ns:List Ino)(i page:Int):Int×Int:=if 0<=page/\page<zcx ns i then(pgV ws ps es qs (zod ns i page),0) else(0,4)
def rpI(ws:List Int)(ps:List St)(es:List Int)(qs:List Se)(ns:List Ino)(ds:List Den)(s:ByteArray)(page:Int):Int×Int:=if (flI ns ds s).2=0 then rpF ws ps es qs ns (flI ns ds s).1 page else(0,(flI ns ds s).2)
def dvB(ws:List Int)(ps:List St)(es:List Int)(qs:List Se):Bool:=(pmB ws ps&&zdk es qs)&&riB (zbs ws ps)
def rpR(ws:List Int)(ps:List St)(es:List Int)(qs:List Se)(s:ByteArray)(page:Int):Int×Int:=if 65536<s.size then(0,2)else if dvB ws ps es qs=true then rpI ws ps es qs (zbc (zbs ws ps) 16) (zbh (zbs ws ps) 24) s page else(0,1)
def fpI(ns:List Ino):Int:=zbg (fun i=>!zey (zaw (zao ns) 1) (i:Int)) 24
def fsI(ns:List Ino):Int:=zbg (fun i=>!zey (zaw (zao ns) 2) (i:Int)) 32
def wrS(ns:List Ino)(x:Int):List Mi:=if 0<=fpI ns then⟨1,312+fpI ns,x⟩::zbb [312+fpI ns] else[⟨4,fsI ns,x⟩,⟨5,0,0⟩]
def wrE(ns:List Ino):Int:=if 0<=fpI ns then 4*fpI ns+1 else 4*fsI ns+2
def wrU(i page size e:Int):List Se:=⟨48+12*i+(3+page),e⟩::(if size<=page then[⟨48+12*i+1,page+1⟩] else[])
def wrF(ns:List Ino)(i page x:Int):List Mi×Int:=if (0<=page/\page<8)/\zat x=true then(if fpI ns<0/\fsI ns<0 then([],7) else(wrS ns x++zdc (zdt (wrU i page (zcx ns i) (wrE ns))),0)) else([],4)
def wrI(ns:List Ino)(ds:List Den)(s:ByteArray)(page x:Int):List Mi×Int:=if (flI ns ds s).2=0 then wrF ns (flI ns ds s).1 page x else([],(flI ns ds s).2)
def wrR(ws:List Int)(ps:List St)(es:List Int)(qs:List Se)(s:ByteArray)(page x:Int):List Mi×Int:=if 65536<s.size then([],2)else if dvB ws ps es qs=true then wrI (zbc (zbs ws ps) 16) (zbh (zbs ws ps) 24) s page x else([],1)
def cuT(zs:List Int)(i:Int)(n k:Nat):List Se:=((List.range k).filter fun j=>decide (n<=j)&&!(zs.getD j 0 == 0)).map fun(j:Nat)=>⟨48+12*i+(3+(j:Int)),0⟩
def cuU(zs:List Int)(i:Int)(n k:Nat):List Se:=⟨48+12*i+1,(n:Int)⟩::cuT zs i n k
def cuF(ns:List Ino)(i size:Int):List Se×Int:=if 0<=size/\size<=8 then(cuU (zan ns i.toNat).map i size.toNat 8,0) else([],4)
def cuI(ns:List Ino)(ds:List Den)(s:ByteArray)(size:Int):List Se×Int:=if (flI ns ds s).2=0 then cuF ns (flI ns ds s).1 size else([],(flI ns ds s).2)
def pgL(ws:List Int)(ps:List St)(es:List Int)(qs:List Se)(x:Ino)(k:Nat):List Int:=(List.range k).map fun j=>pgV ws ps es qs (x.map.getD j 0)
def psI(ws:List Int)(ps:List St)(es:List Int)(qs:List Se)(ns:List Ino)(ds:List Den)(s:ByteArray):List Int×Int:=if (flI ns ds s).2=0 then(pgL ws ps es qs (zan ns (flI ns ds s).1.toNat) (zcx ns (flI ns ds s).1).toNat,0) else([],(flI ns ds s).2)
def psR(ws:List Int)(ps:List St)(es:List Int)(qs:List Se)(s:ByteArray):List Int×Int:=if 65536<s.size then([],2)else if dvB ws ps es qs=true then psI ws ps es qs (zbc (zbs ws ps) 16) (zbh (zbs ws ps) 24) s else([],1)
theorem yawo{zs:List Int}{i:Int}{n k:Nat}(h:n<=k)(e:¬ zs.getD k 0=0):cuT zs i n (k+1)=cuT zs i n k++[⟨48+12*i+(3+(k:Int)),0⟩]:=by
 unfold cuT;rw[List.range_succ,List.filter_append,List.map_append]
 congr 1
 rw[List.filter_cons_of_pos (by rw[decide_eq_true h];simpa using e)];rfl
theorem yazo{zs:List Int}{i:Int}{n k:Nat}(e:zs.getD k 0=0):cuT zs i n (k+1)=cuT zs i n k:=by
 unfold cuT;rw[List.range_succ,List.filter_append,List.map_append,List.filter_cons_of_neg (by rw[e];simp)];simp
theorem yajg(zs:List Int)(i:Int)(n:Nat):cuT zs i n n=[]:=by
 unfold cuT;rw[List.filter_eq_nil_iff.2 (fun j hj=>by have:=List.mem_range.1 hj;simp;omega)];rfl
theorem yabd(zs:List Int)(i:Int)(n k:Nat):(cuT zs i n k).length<=k:=by
 unfold cuT;rw[List.length_map];refine Nat.le_trans (List.length_filter_le _ _) ?_;rw[List.length_range];exact Nat.le_refl _
theorem yazl{zs:List Int}{i n k:Nat}(hi:i<16)(hk:k<=8):UpIn (cuT zs (i:Int) n k):=fun u hu=>by
 unfold cuT at hu;obtain⟨j,hm,rfl⟩:=List.mem_map.1 hu;have:=List.mem_range.1 (List.mem_filter.1 hm).1;exact⟨by show 48<=48+12*(i:Int)+(3+(j:Int));omega,by show 48+12*(i:Int)+(3+(j:Int))<312;omega⟩
theorem yasj(ws:List Int)(ps:List St)(es:List Int)(qs:List Se)(x:Ino)(k:Nat):pgL ws ps es qs x (k+1)=pgL ws ps es qs x k++[pgV ws ps es qs (x.map.getD k 0)]:=by
 unfold pgL;rw[List.range_succ,List.map_append];rfl
theorem zgl{ns:List Ino}{ds:List Den}{s:ByteArray}(I:Img ns ds)(h:(flI ns ds s).2=0):∃ i:Nat,i<16/\(flI ns ds s).1=(i:Int)/\(zan ns i).kind=1:=by
 unfold flI at h ⊢
 by_cases c:(lkI ns ds s).2=0
 ·rw[if_pos c]at h ⊢
  by_cases d:zal ns (lkI ns ds s).1=1
  ·rw[if_pos d];obtain⟨i,e,hi,_,k⟩:=zmc I c (by rw[d];omega);exact⟨i,hi,e,k⟩
  ·rw[if_neg d]at h;simp at h
 ·rw[if_neg c]at h;exact absurd h c
theorem zwf{fs:List (Nat×Int)}{g:Nat}:∀ {z:Int},(∀ f∈fs,¬ f.1=g)->zqh fs g z=z:=by
 induction fs with
 | nil=>intro z _;rfl
 | cons f fs ih =>
  intro z h
  show zqh fs g (if f.1=g then f.2 else z)=z
  rw[if_neg (h f (List.mem_cons_self ..))];exact ih (fun q hq=>h q (List.mem_cons_of_mem _ hq))
theorem yasm{fs:List (Nat×Int)}{g:Nat}(h0:∀ f∈fs,f.2=0):∀ {z:Int},(z=0\/∃ f∈fs,f.1=g)->zqh fs g z=0:=by
 induction fs with
 | nil=>intro z h;rcases h with h | ⟨_,h,_⟩;exact h;cases h
 | cons f fs ih =>
  intro z h
  show zqh fs g (if f.1=g then f.2 else z)=0
  refine ih (fun q hq=>h0 q (List.mem_cons_of_mem _ hq)) ?_
  by_cases e:f.1=g
  ·rw[if_pos e];exact .inl (h0 f (List.mem_cons_self ..))
  ·rw[if_neg e]
   rcases h with h | ⟨q,hq,hg⟩
   ·exact .inl h
   ·rcases List.mem_cons.1 hq with rfl | hq
    ·exact absurd hg e
    ·exact .inr ⟨q,hq,hg⟩
def cuFs(zs:List Int)(n:Nat):List (Nat×Int):=((List.range 8).filter fun j=>decide (n<=j)&&!(zs.getD j 0 == 0)).map fun(j:Nat)=>(3+j,0)
theorem yafy(zs:List Int)(i n:Nat):zru i ((1,(n:Int))::cuFs zs n)=cuU zs (i:Int) n 8:=by
 unfold zru cuU cuT cuFs;rw[List.map_cons,List.map_map];rfl
theorem zmz{zs:List Int}{n:Nat}{f:Nat×Int}(h:f∈cuFs zs n):∃ j,j<8/\n<=j/\f=(3+j,0):=by
 unfold cuFs at h;obtain⟨j,hm,rfl⟩:=List.mem_map.1 h;obtain⟨a,b⟩:=List.mem_filter.1 hm;rw[Bool.and_eq_true,decide_eq_true_eq]at b;exact⟨j,List.mem_range.1 a,b.1,rfl⟩
theorem yaol{zs:List Int}{n j:Nat}(hj:j<8):zqh ((1,(n:Int))::cuFs zs n) (3+j) (zs.getD j 0)=(cutM zs n).getD j 0:=by
 show zqh (cuFs zs n) (3+j) (if 1=3+j then(n:Int)else zs.getD j 0)=_
 rw[if_neg (by omega),yaot _ _ _ hj]
 by_cases c:j<n
 ·rw[if_pos c];exact zwf (fun f hf=>by obtain⟨q,_,hq,rfl⟩:=zmz hf;show ¬ 3+q=3+j;omega)
 ·rw[if_neg c];refine yasm (fun f hf=>by obtain⟨q,_,_,rfl⟩:=zmz hf;rfl) ?_
  by_cases e:zs.getD j 0=0
  ·exact .inl e
  ·refine .inr ⟨(3+j,0),?_,rfl⟩;unfold cuFs;exact List.mem_map.2 ⟨j,List.mem_filter.2 ⟨List.mem_range.2 hj,by rw[decide_eq_true (by omega:n<=j)];simpa using e⟩,rfl⟩
theorem yaec(x:Ino)(n:Nat):zzo x ((1,(n:Int))::cuFs x.map n)=zxk x.kind (n:Int) x.links (cutM x.map n):=by
 have N:∀ g,g<3->¬ g=1->∀ z,zqh ((1,(n:Int))::cuFs x.map n) g z=z:=fun g hg h1 z=>zwf (fun f hf=>by
  rcases List.mem_cons.1 hf with rfl | hf
  ·show ¬ 1=g;omega
  ·obtain⟨q,_,_,rfl⟩:=zmz hf;show ¬ 3+q=g;omega)
 have P:=fun j hj=>yaol (zs:=x.map) (n:=n) (j:=j) hj
 unfold zzo zxk
 congr 1
 ·exact N 0 (by omega) (by omega) _
 ·show zqh (cuFs x.map n) 1 (n:Int)=(n:Int)
  exact zwf (fun f hf=>by obtain⟨q,_,_,rfl⟩:=zmz hf;show ¬ 3+q=1;omega)
 ·exact N 2 (by omega) (by omega) _
 ·exact P 0 (by omega)
 ·exact P 1 (by omega)
 ·exact P 2 (by omega)
 ·exact P 3 (by omega)
 ·exact P 4 (by omega)
 ·exact P 5 (by omega)
 ·exact P 6 (by omega)
 ·exact P 7 (by omega)
theorem yazu{ls:List Int}{ns:List Ino}{ds:List Den}(h:Wi ls ns ds){s:ByteArray}{size:Int}{us:List Se}(e:cuI ns ds s size=(us,0)) :
  UpIn us/\us.length<=9/\∃ i n:Nat,i<16/\n<=8/\(flI ns ds s).1=(i:Int)/\size=(n:Int)/\Wi (zdl ls us) (ns.set i (zxk (zan ns i).kind (n:Int) (zan ns i).links (cutM (zan ns i).map n))) ds:=by
 unfold cuI at e
 by_cases c:(flI ns ds s).2=0
 ·rw[if_pos c]at e;obtain⟨i,hi,ei,k⟩:=zgl h.img c;rw[ei]at e;unfold cuF at e
  by_cases d:0<=size/\size<=8
  ·rw[if_pos d]at e
   obtain⟨n,rfl⟩:∃ n:Nat,size=(n:Int):=⟨size.toNat,by omega⟩
   rw[Int.toNat_natCast,Int.toNat_natCast]at e;obtain⟨rfl,-⟩:=Prod.mk.inj e;rw[<- yafy]
   have hf:∀ f∈(1,(n:Int))::cuFs (zan ns i).map n,f.1<11:=fun f hf=>by
    rcases List.mem_cons.1 hf with rfl | hf
    ·show 1<11;omega
    ·obtain⟨q,hq,_,rfl⟩:=zmz hf;show 3+q<11;omega
   refine⟨zxe hi hf,?_,i,n,hi,by omega,ei,rfl,?_⟩
   ·rw[yafy];have:=yabd (zan ns i).map (i:Int) n 8
    show(cuT (zan ns i).map (i:Int) n 8).length+1<=9
    omega
   ·rw[<- yaec];exact yavf h hi hf (by rw[yaec];exact yawq h.img hi k (by omega))
  ·rw[if_neg d]at e;simp at e
 ·rw[if_neg c]at e;exact absurd (Prod.mk.inj e).2 c
def wrFs(p:Nat)(e size:Int):List (Nat×Int):=(3+p,e)::(if size<=(p:Int) then[(1,(p:Int)+1)] else[])
theorem yatv(i p:Nat)(e size:Int):zru i (wrFs p e size)=wrU (i:Int) (p:Int) size e:=by
 unfold zru wrU wrFs;rw[List.map_cons]
 by_cases c:size<=(p:Int)
 ·rw[if_pos c,if_pos c]
  show[(⟨48+12*(i:Int)+((3+p:Nat):Int),e⟩:Se),⟨48+12*(i:Int)+1,(p:Int)+1⟩]=_
  rw[show 48+12*(i:Int)+((3+p:Nat):Int)=48+12*(i:Int)+(3+(p:Int)) by omega]
 ·rw[if_neg c,if_neg c]
  show[(⟨48+12*(i:Int)+((3+p:Nat):Int),e⟩:Se)]=_
  rw[show 48+12*(i:Int)+((3+p:Nat):Int)=48+12*(i:Int)+(3+(p:Int)) by omega]
theorem yann{p:Nat}{e size:Int}(hp:p<8):∀ f∈wrFs p e size,f.1<11:=fun f hf=>by
 unfold wrFs at hf
 rcases List.mem_cons.1 hf with rfl | hf
 ·show 3+p<11;omega
 ·by_cases c:size<=(p:Int)
  ·rw[if_pos c,List.mem_singleton]at hf;rw[hf];show 1<11;omega
  ·rw[if_neg c]at hf;cases hf
theorem yafh(x:Ino){p:Nat}(hp:p<8)(e:Int):zzo x (wrFs p e x.size)=zxk x.kind (if (p:Int)<x.size then x.size else(p:Int)+1) x.links (x.map.set p e):=by
 have G:∀ g z,zqh (wrFs p e x.size) g z=if g=1/\x.size<=(p:Int) then(p:Int)+1 else if g=3+p then e else z:=by
  intro g z;unfold wrFs
  by_cases c:x.size<=(p:Int)
  ·rw[if_pos c]
   show(if 1=g then(p:Int)+1 else(if 3+p=g then e else z))=_
   repeat' split
   all_goals omega
  ·rw[if_neg c]
   show(if 3+p=g then e else z)=_
   repeat' split
   all_goals omega
 have M:∀ j,j<8->zqh (wrFs p e x.size) (3+j) (x.map.getD j 0)=(x.map.set p e).getD j 0:=by
  intro j hj;rw[G,if_neg (fun q=>by omega),List.getD_eq_getElem?_getD,List.getD_eq_getElem?_getD,List.getElem?_set]
  by_cases b:j=p
  ·subst b;rw[if_pos rfl,if_pos rfl,if_pos (by show j<8;exact hj)];rfl
  ·rw[if_neg (by omega),if_neg (fun q=>b q.symm)]
 unfold zzo zxk
 congr 1
 ·rw[G,if_neg (fun q=>by omega),if_neg (by omega)]
 ·rw[G]
  by_cases c:(p:Int)<x.size
  ·rw[if_neg (fun q=>by omega),if_neg (by omega),if_pos c]
  ·rw[if_pos ⟨rfl,by omega⟩,if_neg c]
 ·rw[G,if_neg (fun q=>by omega),if_neg (by omega)]
 ·exact M 0 (by omega)
 ·exact M 1 (by omega)
 ·exact M 2 (by omega)
 ·exact M 3 (by omega)
 ·exact M 4 (by omega)
 ·exact M 5 (by omega)
 ·exact M 6 (by omega)
 ·exact M 7 (by omega)
theorem zpp{ls:List Int}{ns:List Ino}{ds:List Den}(h:Wi ls ns ds){i p:Nat}{e:Int}(hi:i<16)(k:(zan ns i).kind=1)(hp:p<8)(te:zeo e=true)(he:¬ e=0)(new:¬ e∈zao ns) :
  UpIn (wrU (i:Int) (p:Int) (zan ns i).size e)/\Wi (zdl ls (wrU (i:Int) (p:Int) (zan ns i).size e)) (ns.set i (zxk (zan ns i).kind (if (p:Int)<(zan ns i).size then(zan ns i).size else(p:Int)+1) (zan ns i).links ((zan ns i).map.set p e))) ds:=by
 rw[<- yatv,<- yafh _ hp];exact⟨zxe hi (yann hp),yavf h hi (yann hp) (by rw[yafh _ hp];exact yakl h.img hi k hp te he new rfl)⟩
theorem yayu{ls:List Int}{ns:List Ino}{ds:List Den}(h:Wi ls ns ds){i p:Nat}{e:Int}(hi:i<16)(hp:p<8)(was:¬ (zan ns i).map.getD p 0=0)(te:zeo e=true)(he:¬ e=0)(new:¬ e∈zao ns) :
  Wi (zdl ls [⟨48+12*(i:Int)+(3+(p:Int)),e⟩]) (ns.set i (zxk (zan ns i).kind (zan ns i).size (zan ns i).links ((zan ns i).map.set p e))) ds:=by
 obtain⟨sz,k⟩:=yamr (h.img.ok i hi) hp was;have q:=(zpp h hi k hp te he new).2;unfold wrU at q;rw[if_neg (by omega),if_pos sz]at q;exact q
theorem zdy{p:Nat->Bool}{n:Nat}(h:0<=zbg p n):∃ k:Nat,k<n/\zbg p n=(k:Int)/\p k=true:=by
 unfold zbg at h ⊢
 cases e:(List.range n).find? p with
 | none=>rw[e]at h;exact absurd h (by show ¬ (0:Int)<=-1;omega)
 | some k=>exact⟨k,List.mem_range.1 (List.mem_of_find?_eq_some e),rfl,List.find?_some e⟩
theorem yafc{ns:List Ino}{t:Int}{k:Nat}(ht:0<=t/\t<4)(h:(!zey (zaw (zao ns) t) (k:Int))=true):¬ 4*(k:Int)+t∈zao ns:=by
 intro m;unfold zey zaw at h;rw[Bool.not_eq_true',<- Bool.not_eq_true]at h;refine h (List.contains_iff_mem.2 (List.mem_map.2 ⟨4*(k:Int)+t,List.mem_filter.2 ⟨m,?_⟩,by omega⟩));rw[beq_iff_eq];omega
theorem yadv{ns:List Ino}(h:¬ (fpI ns<0/\fsI ns<0)):zeo (wrE ns)=true/\¬ wrE ns=0/\¬ wrE ns∈zao ns:=by
 unfold wrE
 by_cases c:0<=fpI ns
 ·rw[if_pos c];obtain⟨k,hk,e,q⟩:=zdy c;have e':fpI ns=(k:Int):=e;rw[e'];refine⟨?_,by omega,yafc (by omega) q⟩;unfold zeo zfb;simp;omega
 ·rw[if_neg c];obtain⟨k,hk,e,q⟩:=zdy (p:=fun i=>!zey (zaw (zao ns) 2) (i:Int)) (n:=32) (by have:¬ fsI ns<0:=fun z=>h ⟨by omega,z⟩;unfold fsI at this;omega);have e':fsI ns=(k:Int):=e;rw[e'];refine⟨?_,by omega,yafc (by omega) q⟩;unfold zeo zfb;simp;omega
def zqk:List Int:=(((List.replicate 336 (0:Int)).set 0 7).set 48 2).set 50 1
theorem yaks:zqk.length=336:=by kernel_rfl
theorem yahw:zbc zqk 16=⟨2,0,1,0,0,0,0,0,0,0,0⟩::List.replicate 15 zcf:=by kernel_rfl
theorem yahb:zch zqk 24=true:=by kernel_rfl
theorem yahe:zbh zqk 24=List.replicate 24 freeD:=by kernel_rfl
theorem yanm:zck (⟨2,0,1,0,0,0,0,0,0,0,0⟩::List.replicate 15 zcf) (List.replicate 24 freeD)=true:=by kernel_rfl
theorem yarc:Wi zqk (⟨2,0,1,0,0,0,0,0,0,0,0⟩::List.replicate 15 zcf) (List.replicate 24 freeD) :=
 ⟨yaks,by kernel_rfl,yahb,yahw,yahe,zbu.1 yanm⟩
def wrW(ls:List Int)(ns:List Ino)(x:Int):List Int:=if 0<=fpI ns then ls.set (312+fpI ns).toNat x else ls
theorem yaxr(ls:List Int)(ns:List Ino)(x:Int):zot (ls,[]) (wrS ns x)=(wrW ls ns x,[]):=by
 unfold wrS wrW
 by_cases c:0<=fpI ns
 ·rw[if_pos c,if_pos c];exact zjb [up (312+fpI ns) x] ls
 ·rw[if_neg c,if_neg c];rfl
theorem yaxq(ls:List Int)(ns:List Ino)(x:Int):(wrW ls ns x).length=ls.length:=by
 unfold wrW
 split
 ·rw[List.length_set]
 ·rfl
theorem yaus{ls:List Int}{ns:List Ino}{x:Int}(hl:ls.length=336){z:Int}(hz:0<=z/\z<312):wdI (wrW ls ns x) z=wdI ls z:=by
 unfold wrW
 by_cases c:0<=fpI ns
 ·rw[if_pos c];obtain⟨k,hk,e,-⟩:=zdy c;have e':fpI ns=(k:Int):=e;rw[zfa (by omega) (by rw[e'];omega) (by omega),if_neg (by omega)]
 ·rw[if_neg c]
theorem yaev{ls:List Int}{ns:List Ino}{ds:List Den}(h:Wi ls ns ds)(c0:wdI ls 8=0){s:ByteArray}{page x:Int}{l:List Mi}(e:wrI ns ds s page x=(l,0)) :
  ∃ i p:Nat,∃ ls',i<16/\p<8/\(flI ns ds s).1=(i:Int)/\page=(p:Int)/\zot (ls,[]) l=(ls',[])/\wdI ls' 8=0/\Wi ls' (ns.set i (zxk (zan ns i).kind (if (p:Int)<(zan ns i).size then(zan ns i).size else(p:Int)+1) (zan ns i).links ((zan ns i).map.set p (wrE ns)))) ds:=by
 unfold wrI at e
 by_cases c:(flI ns ds s).2=0
 ·rw[if_pos c]at e;obtain⟨i,hi,ei,k⟩:=zgl h.img c;rw[ei]at e;unfold wrF at e
  by_cases d:(0<=page/\page<8)/\zat x=true
  ·rw[if_pos d]at e
   by_cases f:fpI ns<0/\fsI ns<0
   ·rw[if_pos f]at e;simp at e
   ·rw[if_neg f]at e
    obtain⟨p,rfl⟩:∃ p:Nat,page=(p:Int):=⟨page.toNat,by omega⟩
    have hp:p<8:=by omega
    obtain⟨te,he,new⟩:=yadv f
    have l1:(wrW ls ns x).length=336:=by rw[yaxq];exact h.len
    have h1:Wi (wrW ls ns x) ns ds:=zva h l1 (fun z hz=>yaus h.len (by omega));have q:=zpp h1 hi k hp te he new
    have c1:wdI (wrW ls ns x) 8=0:=by rw[yaus h.len (by omega)];exact c0
    have sz:zcx ns (i:Int)=(zan ns i).size:=by unfold zcx;rw[Int.toNat_natCast]
    rw[sz]at e;obtain⟨rfl,-⟩:=Prod.mk.inj e;refine⟨i,p,zlp (wrW ls ns x) (wrU (i:Int) (p:Int) (zan ns i).size (wrE ns)),hi,hp,ei,rfl,?_,zrz l1 c1,yamf l1 ?_ q.1 q.2⟩
    ·rw[zdi,yaxr,znc]
    ·unfold wrU
     split<;>simp
  ·rw[if_neg d]at e;simp at e
 ·rw[if_neg c]at e;exact absurd (Prod.mk.inj e).2 c
end Go.Proofs.YtdiaiejmoocpmaaGreatDoor
