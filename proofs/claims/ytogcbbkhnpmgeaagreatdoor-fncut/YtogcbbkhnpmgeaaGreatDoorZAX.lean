import Derived.Test.YtogcbbkhnpmgeaaGreatDoorZAW
set_option maxHeartbeats 4000000
namespace Go.Proofs.YtogcbbkhnpmgeaaGreatDoor
open Go.RowKit
def seB(s:Se):Bool:=zpa s.at_&&zaz s.val
theorem yanq{s:Se}(h:seB s=true):zpa s.at_=true/\zaz s.val=true:=by unfold seB at h;simpa using h
theorem yaih{s:Se}{p:Prop}(h:seB s=false)(h1:zpa s.at_=false->p)(h2:zaz s.val=false->p):p:=by
 unfold seB at h;rw[Bool.and_eq_false_iff]at h;exact h.elim h1 h2
def sesB(ps:List Se):Bool:=decide (∀ k (h:k<ps.length),seB ps[k]=true)
theorem yafv{ps:List Se}(h:sesB ps=true):∀ k (h:k<ps.length),seB ps[k]=true:=of_decide_eq_true h
theorem yafl{ps:List Se}(h:∀ k (h:k<ps.length),seB ps[k]=true):sesB ps=true:=decide_eq_true h
theorem yanw{ps:List Se}{k:Nat}(hk:k<ps.length)(h:seB ps[k]=false):sesB ps=false:=decide_eq_false (fun x=>by have:=x k hk;rw[h]at this;cases this)
theorem yarm{ps:List Se}(h:sesB ps=false):∃ k,∃ h:k<ps.length,seB ps[k]=false:=by
 apply Classical.byContradiction;intro hn
 have:sesB ps=true:=yafl (fun k hk=>by
  cases e:seB ps[k] with
  | true=>rfl
  | false=>exact absurd ⟨k,hk,e⟩ hn)
 rw[h]at this
 cases this
theorem zmt(s:Se)(w:World):zC 111 #[.agg #[.I s.at_,.I s.val]] w fun e w'=>e=.returned (.bool (seB s))/\zB w w':=by
 have hb0:zB w (w.alloc (.cells #[.I s.at_,.I s.val] 160)):=zR.alloc zL _
 by_cases q:zpa s.at_=true
 ·have E:=zaa (show seB s=zaz s.val by unfold seB;rw[q];rfl);have Q:=zaa q;clear q;go_enter Tryz.func111,Tryz.ntmps111;go_wp2_with (first | (go_at_call 167;refine(zeh _ _).mono ?_;rw[Q.o];rintro e w' ⟨rfl,rfl⟩) | (go_at_call 95;refine(zgf _ _).mono ?_;rintro e w' ⟨rfl,rfl⟩));go_ret;exact⟨zag E.o.symm,hb0⟩
 ·have q':zpa s.at_=false:=by simpa using q
  have E:=zaa (show seB s=false by unfold seB;rw[q'];rfl);have Q:=zaa q';clear q q';go_enter Tryz.func111,Tryz.ntmps111;go_wp2_with (go_at_call 167;refine(zeh _ _).mono ?_;rw[Q.o];rintro e w' ⟨rfl,rfl⟩);go_ret;exact⟨zag E.o.symm,hb0⟩
theorem zie(v:Value)(ps:List Se)(w:World)(h:RdE w v ps)(hn:ps.length<=1048576) :
  zC 110 #[v,.func (.func 111) #[] #[]] w fun e w'=>e=.returned (.bool (sesB ps))/\zB w w':=by
 obtain⟨aP,cP,rfl,_,hcP⟩:=h.shape;clear h;go_enter Tryz.func110,Tryz.ntmps110;go_wp2
 go_loopw [6,9] (fun _ i wr=>∃ k:Nat,k<=ps.length/\i=.I k/\Hid (∀ j (h:j<ps.length),j<k->seB ps[j]=true)/\zB w wr) (fun _ i _=>ps.length-(intOf i).toNat)
 case atStart=>exact⟨0,by omega,rfl,fun j h a=>absurd a (by omega),zR⟩
 case round =>
  obtain⟨m,hm,rfl,H,hbw⟩:=hrel;have hz:=hbw.size
  by_cases hlt2:m<ps.length
  ·obtain⟨b2,o2,rfl,hbl2,hcell2⟩:=hcP (by omega);obtain⟨d0,d1⟩:=hcell2 m hlt2;have e0:=(hbw.cell (p:=⟨b2,o2+m*2,none⟩) hbl2).trans d0;have e1:=(hbw.cell (p:=⟨b2,o2+m*2+1,none⟩) hbl2).trans d1;have hb1:=zaa (hbw.alloc hz (.cells #[.I ps[m].at_,.I ps[m].val] 160));clear d0 d1 hcell2 hcP
   by_cases q:seB ps[m]=true
   ·have Q:=zaa q;clear q;go_wp2_with (go_at_call 111;refine(zmt ps[m] _).mono ?_;rw[Q.o];rintro e w' ⟨rfl,hw'⟩);have hw2:=hb1.o.trans (hw'.mono (by simp;omega));clear hb1 hw'
    go_roundw
    case rel =>
     refine⟨m+1,by omega,by go_num,fun j h a=>?_,hw2⟩
     by_cases e:j=m
     ·subst e;exact Q.o
     ·exact H.o j h (by omega)
    case measure=>simp[intOf];omega
   ·have Q:=zaa (show seB ps[m]=false by simpa using q);have E:=zaa (yanw hlt2 Q.o);clear q;go_wp2_with (go_at_call 111;refine(zmt ps[m] _).mono ?_;rw[Q.o];rintro e w' ⟨rfl,hw'⟩);have hw2:=hb1.o.trans (hw'.mono (by simp;omega));go_ret;exact⟨zag E.o.symm,hw2⟩
  ·have E:=zaa (yafl (fun j h=>H.o j h (by omega)));go_wp2;go_ret;exact⟨zag E.o.symm,hbw⟩
theorem zeo(v:Value)(ws:List Int)(ps:List Se)(w:World)(h:RdBlk w v ws ps)(hw:ws.length<=1048576)(hp:ps.length<=1048576) :
  zC 57 #[v] w fun e w'=>e=.returned (.bool (zfj ws ps))/\zB w w':=by
 obtain⟨vW,vP,rfl,h1,h2⟩:=h;obtain⟨aW,cW,rfl,_,hcW⟩:=h1.shape;obtain⟨aP,cP,rfl,_,hcP⟩:=h2.shape;have H1:=zaa h1;have H2:=zaa h2;clear h1 h2 hcW hcP;have hb0:zB w (w.alloc (.cells #[.slice aW ws.length cW,.slice aP ps.length cP] 29)):=zR.alloc zL _;have HB:=zaa hb0
 by_cases c1:ws.length=32
 case neg =>
  have E:=zaa (yaie (ps:=ps) c1)
  have c1':((ws.length:Int) == 32)=false:=by rw[beq_eq_false_iff_ne];omega
  clear c1;go_enter Tryz.func57,Tryz.ntmps57;go_wp2;go_ret;exact⟨zag E.o.symm,HB.o⟩
 have c1n:((ws.length:Int) == 32)=true:=by simp;omega
 have C1:=zaa c1;clear c1
 by_cases c2:400<ps.length
 ·have E:=zaa (yakk (ws:=ws) c2)
  have c2':decide ((ps.length:Int)<=400)=false:=by simp;omega
  go_enter Tryz.func57,Tryz.ntmps57;go_wp2;go_ret;exact⟨zag E.o.symm,HB.o⟩
 by_cases c3:zij ws=true
 case neg =>
  have c3':zij ws=false:=by simpa using c3
  obtain⟨k,hk,hkf⟩:=ztu c3';have E:=zaa (yaty (ps:=ps) hk hkf);have W0:=zaa c3';clear c3 c3' hkf hk;go_enter Tryz.func57,Tryz.ntmps57;go_wp2_with (go_at_call 94;refine(zcw _ ws _ (Rd.below H1.o HB.o) (by omega)).mono ?_;rw[W0.o];rintro e w' ⟨rfl,rfl⟩);go_ret;exact⟨zag E.o.symm,HB.o⟩
 have HW:=zaa (znk c3);have W1:=zaa c3;clear c3
 cases c4:sesB ps with
 | true =>
  have E:=zaa (yahl C1.o (by omega) HW.o (fun j h=>yanq (yafv c4 j h)));have W2:=zaa c4;clear c4;go_enter Tryz.func57,Tryz.ntmps57;go_wp2_with (first | (go_at_call 94;refine(zcw _ ws _ (Rd.below H1.o HB.o) (by omega)).mono ?_;rw[W1.o];rintro e w' ⟨rfl,rfl⟩) | (go_at_call 110;refine(zie _ ps _ (Rd.below H2.o HB.o) (by omega)).mono ?_;rw[W2.o];rintro e w' ⟨rfl,hw'⟩));go_ret;exact⟨zag E.o.symm,HB.o.trans (hw'.mono (by simp))⟩
 | false =>
  obtain⟨k,hk,hkf⟩:=yarm c4;have E:=zaa (show zfj ws ps=false from yaih hkf (yaug (ws:=ws) hk) (yasy (ws:=ws) hk));have W2:=zaa c4;clear c4 hk hkf;go_enter Tryz.func57,Tryz.ntmps57;go_wp2_with (first | (go_at_call 94;refine(zcw _ ws _ (Rd.below H1.o HB.o) (by omega)).mono ?_;rw[W1.o];rintro e w' ⟨rfl,rfl⟩) | (go_at_call 110;refine(zie _ ps _ (Rd.below H2.o HB.o) (by omega)).mono ?_;rw[W2.o];rintro e w' ⟨rfl,hw'⟩));go_ret;exact⟨zag E.o.symm,HB.o.trans (hw'.mono (by simp))⟩
def ztf(ws:List Int)(ps:List Se)(at_:Int):Int:=if zfj ws ps=false then 1 else if zpa at_=false then 14 else 0
theorem yaaf{ws:List Int}{ps:List Se}{at_:Int}(h:zfj ws ps=false):ztf ws ps at_=1:=by unfold ztf;rw[if_pos h]
theorem zqg{ws:List Int}{ps:List Se}{at_:Int}(h:zfj ws ps=true)(h2:zpa at_=false):ztf ws ps at_=14:=by unfold ztf;rw[if_neg (by rw[h];simp),if_pos h2]
theorem yaga{ws:List Int}{ps:List Se}{at_:Int}(h:zfj ws ps=true)(h2:zpa at_=true):ztf ws ps at_=0:=by unfold ztf;rw[if_neg (by rw[h];simp),if_neg (by rw[h2];simp)]
theorem zhe(v:Value)(ws:List Int)(ps:List Se)(at_:Int)(w:World)(h:RdBlk w v ws ps)(hw:ws.length<=1048576)(hp:ps.length<=1048576) :
  zC 174 #[v,.I at_] w fun e w'=>e=.returned (.I (ztf ws ps at_))/\zB w w':=by
 have HR:=zaa h;obtain⟨vW,vP,rfl,h1,h2⟩:=h;obtain⟨aW,cW,rfl,_⟩:=h1.shape;obtain⟨aP,cP,rfl,_⟩:=h2.shape;clear h1 h2;have hb0:zB w (w.alloc (.cells #[.slice aW ws.length cW,.slice aP ps.length cP] 29)):=zR.alloc zL _
 by_cases c1:zfj ws ps=true
 ·by_cases c2:zpa at_=true
  ·rw[yaga c1 c2];go_enter Tryz.func174,Tryz.ntmps174;go_wp2_with (first | (go_at_call 57;refine(zeo _ ws ps _ (HR.o.below hb0) hw hp).mono ?_;rintro e w1 ⟨rfl,hb1⟩) | (go_at_call 167;refine(zeh _ _).mono ?_;rintro e w2 ⟨rfl,rfl⟩));go_ret;exact⟨rfl,zab hb0 hb1 (by simp)⟩
  ·have c2':zpa at_=false:=by simpa using c2
   rw[zqg c1 c2'];clear c2;go_enter Tryz.func174,Tryz.ntmps174;go_wp2_with (first | (go_at_call 57;refine(zeo _ ws ps _ (HR.o.below hb0) hw hp).mono ?_;rintro e w1 ⟨rfl,hb1⟩) | (go_at_call 167;refine(zeh _ _).mono ?_;rintro e w2 ⟨rfl,rfl⟩));go_ret;exact⟨rfl,zab hb0 hb1 (by simp)⟩
 ·have c1':zfj ws ps=false:=by simpa using c1
  rw[yaaf c1'];clear c1;go_enter Tryz.func174,Tryz.ntmps174;go_wp2_with (first | (go_at_call 57;refine(zeo _ ws ps _ (HR.o.below hb0) hw hp).mono ?_;rintro e w1 ⟨rfl,hb1⟩) | (go_at_call 167;refine(zeh _ _).mono ?_;rintro e w2 ⟨rfl,rfl⟩));go_ret;exact⟨rfl,zab hb0 hb1 (by simp)⟩
def zfz(at_ d:Int)(ps:List Se):Int:=ps.foldl (fun acc p=>if p.at_=at_ then p.val else acc) d
theorem zfx{at_ d:Int}:∀ {ps:List Se},(∀ p∈ps,¬ p.at_=at_)->zfz at_ d ps=d
 | [],_=>rfl
 | p::ps,h=>by
  show zfz at_ (if p.at_=at_ then p.val else d) ps=d
  rw[if_neg (h p (by simp))];exact zfx (fun q hq=>h q (by simp[hq]))
theorem zui(at_ d:Int)(ps qs:List Se):zfz at_ d (ps++qs)=zfz at_ (zfz at_ d ps) qs:=by simp[zfz]
theorem yafe{at_ d:Int}{ps:List Se}{k:Nat}(hk:k<ps.length)(h:ps[k].at_=at_)(ha:∀ j (hj:j<ps.length),k<j->¬ ps[j].at_=at_):zfz at_ d ps=ps[k].val:=by
 have e:ps=ps.take k++(ps[k]::ps.drop (k+1)):=by rw[<- List.drop_eq_getElem_cons hk,List.take_append_drop]
 conv=>lhs;rw[e]
 rw[zui]
 show zfz at_ (if ps[k].at_=at_ then ps[k].val else _) (ps.drop (k+1))=_
 rw[if_pos h];apply zfx;intro p hp;obtain⟨i,hi,rfl⟩:=List.getElem_of_mem hp;rw[List.getElem_drop];exact ha _ _ (by omega)
theorem zyb(v:Value)(ws:List Int)(ps:List Se)(at_:Nat)(w:World)(h:RdBlk w v ws ps)(hw:ws.length<=1048576)(hp:ps.length<=1048576)(ha:at_<ws.length) :
  zC 196 #[v,.I (at_:Int)] w fun e w'=>e=.returned (.I (zfz (at_:Int) ws[at_] ps))/\zB w w':=by
 obtain⟨vW,vP,rfl,h1,h2⟩:=h;obtain⟨aW,cW,rfl,_,hcW⟩:=h1.shape;obtain⟨aP,cP,rfl,_,hcP⟩:=h2.shape;clear h1 h2;obtain⟨bW,oW,rfl,hbW,hcellW⟩:=hcW (by omega);have hb0:zB w (w.alloc (.cells #[.slice (some ⟨bW,oW,none⟩) ws.length cW,.slice aP ps.length cP] 29)):=zR.alloc zL _;have hcw:=(hb0.cell (p:=⟨bW,oW+at_,none⟩) hbW).trans (hcellW at_ ha);clear hcW hcellW;go_enter Tryz.func196,Tryz.ntmps196;go_wp2
 go_loop [5] (fun i=>∃ k:Nat,k<=ps.length/\i=.I ((k:Int)-1)/\Hid (∀ j (h:j<ps.length),k<=j->¬ ps[j].at_=(at_:Int))) (fun i=>(intOf i+1).toNat)
 case atStart=>exact⟨ps.length,Nat.le_refl _,rfl,fun j h a=>absurd h (by omega)⟩
 case round =>
  obtain⟨k,hk,rfl,H⟩:=hrel
  cases k with
  | zero =>
   have E:=zaa (zfx (d:=ws[at_]) (fun p hp=>by obtain⟨i,hi,rfl⟩:=List.getElem_of_mem hp;exact H.o i hi (by omega)));clear H hcP;go_wp2;go_ret;exact⟨zcq E.o.symm,hb0⟩
  | succ m =>
   have em:(((m+1:Nat):Int)-1)=(m:Int):=by omega
   rw[em];clear em;obtain⟨b,o,rfl,hbl,hcell⟩:=hcP (by omega);obtain⟨d0,d1⟩:=hcell m (by omega);have e0:=(hb0.cell (p:=⟨b,o+m*2,none⟩) hbl).trans d0;have e1:=(hb0.cell (p:=⟨b,o+m*2+1,none⟩) hbl).trans d1;clear d0 d1 hcell hcP
   have hm:m<ps.length:=by omega
   by_cases c:ps[m].at_=(at_:Int)
   ·have c':(ps[m].at_ == (at_:Int))=true:=by simpa using c
    have E:=zaa (yafe (d:=ws[at_]) hm c (fun j hj hlt=>H.o j hj (by omega)));clear H c;go_wp2;go_ret;exact⟨zcq E.o.symm,hb0⟩
   ·have c':(ps[m].at_ == (at_:Int))=false:=by simpa using c
    have C:=zaa c;clear c;go_wp2
    go_round
    case rel =>
     refine⟨m,by omega,by go_num,fun j hj hle=>?_⟩
     by_cases e:j=m
     ·subst e;exact C.o
     ·exact H.o j hj (by omega)
    case measure=>simp[intOf]<;>omega
def zwv(ws:List Int)(ps:List Se)(at_:Int):Int:=if ztf ws ps at_=0 then zfz at_ (ws[at_.toNat]?.getD 0) ps else 0
theorem yagp{ws:List Int}{ps:List Se}{at_:Int}(h:¬ ztf ws ps at_=0):zwv ws ps at_=0:=by unfold zwv;rw[if_neg h]
theorem yalv{ws:List Int}{ps:List Se}{k:Nat}(h:ztf ws ps (k:Int)=0)(hk:k<ws.length):zwv ws ps (k:Int)=zfz (k:Int) ws[k] ps:=by
 unfold zwv;rw[if_pos h];simp[hk]
theorem yabt(ws:List Int)(ps:List Se)(at_:Int):(ztf ws ps at_=1\/ztf ws ps at_=14)\/(ztf ws ps at_=0/\zfj ws ps=true/\∃ k:Nat,at_=(k:Int)/\k<32/\k<ws.length):=by
 by_cases c1:zfj ws ps=true
 ·by_cases c2:zpa at_=true
  ·have:=zvy c2;have hl:=(zcy c1).1;exact .inr ⟨yaga c1 c2,c1,at_.toNat,by omega,by omega,by omega⟩
  ·exact .inl (.inr (zqg c1 (by simpa using c2)))
 ·exact .inl (.inl (yaaf (by simpa using c1)))
def pgV(ws:List Int)(ps:List St)(es:List Int)(qs:List Se)(e:Int):Int:=if e%4=1 then ldW ws ps (312+e/4).toNat else if e%4=2 then zfz (e/4) (es[(e/4).toNat]?.getD 0) qs else 0
def flI(ns:List Ino)(ds:List Den)(s:ByteArray):Int×Int:=if (lkI ns ds s).2=0 then(if zai ns (lkI ns ds s).1=1 then((lkI ns ds s).1,0) else(0,9)) else(0,(lkI ns ds s).2)
def zcz(ns:List Ino)(z:Int):Int:=(zam ns z.toNat).size
def zoz(ns:List Ino)(z:Int)(p:Int):Int:=(zam ns z.toNat).map.getD p.toNat 0
def rpF(ws:List Int)(ps:List St)(es:List Int)(qs:List Se)(ns:List Ino)(i page:Int):Int×Int:=if 0<=page/\page<zcz ns i then(pgV ws ps es qs (zoz ns i page),0) else(0,4)
def rpI(ws:List Int)(ps:List St)(es:List Int)(qs:List Se)(ns:List Ino)(ds:List Den)(s:ByteArray)(page:Int):Int×Int:=if (flI ns ds s).2=0 then rpF ws ps es qs ns (flI ns ds s).1 page else(0,(flI ns ds s).2)
def dvB(ws:List Int)(ps:List St)(es:List Int)(qs:List Se):Bool:=(pmB ws ps&&zfj es qs)&&riB (zbz ws ps)
def fpI(ns:List Ino):Int:=zby (fun i=>!zha (zbn (zap ns) 1) (i:Int)) 24
def fsI(ns:List Ino):Int:=zby (fun i=>!zha (zbn (zap ns) 2) (i:Int)) 32
def wrS(ns:List Ino)(x:Int):List Mi:=if 0<=fpI ns then⟨1,312+fpI ns,x⟩::zbf [312+fpI ns] else[⟨4,fsI ns,x⟩,⟨5,0,0⟩]
def wrE(ns:List Ino):Int:=if 0<=fpI ns then 4*fpI ns+1 else 4*fsI ns+2
def wrU(i page size e:Int):List Se:=⟨48+12*i+(3+page),e⟩::(if size<=page then[⟨48+12*i+1,page+1⟩] else[])
def wrF(ns:List Ino)(i page x:Int):List Mi×Int:=if (0<=page/\page<8)/\zaz x=true then(if fpI ns<0/\fsI ns<0 then([],7) else(wrS ns x++zds (zdw (wrU i page (zcz ns i) (wrE ns))),0)) else([],4)
def wrI(ns:List Ino)(ds:List Den)(s:ByteArray)(page x:Int):List Mi×Int:=if (flI ns ds s).2=0 then wrF ns (flI ns ds s).1 page x else([],(flI ns ds s).2)
def cuT(zs:List Int)(i:Int)(n k:Nat):List Se:=((List.range k).filter fun j=>decide (n<=j)&&!(zs.getD j 0 == 0)).map fun(j:Nat)=>⟨48+12*i+(3+(j:Int)),0⟩
def cuU(zs:List Int)(i:Int)(n k:Nat):List Se:=⟨48+12*i+1,(n:Int)⟩::cuT zs i n k
def cuF(ns:List Ino)(i size:Int):List Se×Int:=if 0<=size/\size<=8 then(cuU (zam ns i.toNat).map i size.toNat 8,0) else([],4)
def cuI(ns:List Ino)(ds:List Den)(s:ByteArray)(size:Int):List Se×Int:=if (flI ns ds s).2=0 then cuF ns (flI ns ds s).1 size else([],(flI ns ds s).2)
def cuR(ns:List Ino)(ds:List Den)(s:ByteArray)(size:Int):List Se×Int:=if 65536<s.size then([],2)else if zcr ns ds=true then cuI ns ds s size else([],1)
def pgL(ws:List Int)(ps:List St)(es:List Int)(qs:List Se)(x:Ino)(k:Nat):List Int:=(List.range k).map fun j=>pgV ws ps es qs (x.map.getD j 0)
def psI(ws:List Int)(ps:List St)(es:List Int)(qs:List Se)(ns:List Ino)(ds:List Den)(s:ByteArray):List Int×Int:=if (flI ns ds s).2=0 then(pgL ws ps es qs (zam ns (flI ns ds s).1.toNat) (zcz ns (flI ns ds s).1).toNat,0) else([],(flI ns ds s).2)
def psR(ws:List Int)(ps:List St)(es:List Int)(qs:List Se)(s:ByteArray):List Int×Int:=if 65536<s.size then([],2)else if dvB ws ps es qs=true then psI ws ps es qs (zbb (zbz ws ps) 16) (zbc (zbz ws ps) 24) s else([],1)
theorem yaiq{zs:List Int}{i:Int}{n k:Nat}(h:n<=k)(e:¬ zs.getD k 0=0):cuT zs i n (k+1)=cuT zs i n k++[⟨48+12*i+(3+(k:Int)),0⟩]:=by
 unfold cuT;rw[List.range_succ,List.filter_append,List.map_append]
 congr 1
 rw[List.filter_cons_of_pos (by rw[decide_eq_true h];simpa using e)];rfl
theorem yapb{zs:List Int}{i:Int}{n k:Nat}(e:zs.getD k 0=0):cuT zs i n (k+1)=cuT zs i n k:=by
 unfold cuT;rw[List.range_succ,List.filter_append,List.map_append,List.filter_cons_of_neg (by rw[e];simp)];simp
theorem zvc(zs:List Int)(i:Int)(n:Nat):cuT zs i n n=[]:=by
 unfold cuT;rw[List.filter_eq_nil_iff.2 (fun j hj=>by have:=List.mem_range.1 hj;simp;omega)];rfl
theorem zrp(zs:List Int)(i:Int)(n k:Nat):(cuT zs i n k).length<=k:=by
 unfold cuT;rw[List.length_map];refine Nat.le_trans (List.length_filter_le _ _) ?_;rw[List.length_range];exact Nat.le_refl _
theorem yauq{zs:List Int}{i n k:Nat}(hi:i<16)(hk:k<=8):UpIn (cuT zs (i:Int) n k):=fun u hu=>by
 unfold cuT at hu;obtain⟨j,hm,rfl⟩:=List.mem_map.1 hu;have:=List.mem_range.1 (List.mem_filter.1 hm).1;exact⟨by show 48<=48+12*(i:Int)+(3+(j:Int));omega,by show 48+12*(i:Int)+(3+(j:Int))<312;omega⟩
theorem yanx(ws:List Int)(ps:List St)(es:List Int)(qs:List Se)(x:Ino)(k:Nat):pgL ws ps es qs x (k+1)=pgL ws ps es qs x k++[pgV ws ps es qs (x.map.getD k 0)]:=by
 unfold pgL;rw[List.range_succ,List.map_append];rfl
theorem zfh{ns:List Ino}{ds:List Den}{s:ByteArray}(I:Img ns ds)(h:(flI ns ds s).2=0):∃ i:Nat,i<16/\(flI ns ds s).1=(i:Int)/\(zam ns i).kind=1:=by
 unfold flI at h ⊢
 by_cases c:(lkI ns ds s).2=0
 ·rw[if_pos c]at h ⊢
  by_cases d:zai ns (lkI ns ds s).1=1
  ·rw[if_pos d];obtain⟨i,e,hi,_,k⟩:=zjy I c (by rw[d];omega);exact⟨i,hi,e,k⟩
  ·rw[if_neg d]at h;simp at h
 ·rw[if_neg c]at h;exact absurd h c
theorem zqy{fs:List (Nat×Int)}{g:Nat}:∀ {z:Int},(∀ f∈fs,¬ f.1=g)->zng fs g z=z:=by
 induction fs with
 | nil=>intro z _;rfl
 | cons f fs ih =>
  intro z h
  show zng fs g (if f.1=g then f.2 else z)=z
  rw[if_neg (h f (List.mem_cons_self ..))];exact ih (fun q hq=>h q (List.mem_cons_of_mem _ hq))
theorem yaok{fs:List (Nat×Int)}{g:Nat}(h0:∀ f∈fs,f.2=0):∀ {z:Int},(z=0\/∃ f∈fs,f.1=g)->zng fs g z=0:=by
 induction fs with
 | nil=>intro z h;rcases h with h | ⟨_,h,_⟩;exact h;cases h
 | cons f fs ih =>
  intro z h
  show zng fs g (if f.1=g then f.2 else z)=0
  refine ih (fun q hq=>h0 q (List.mem_cons_of_mem _ hq)) ?_
  by_cases e:f.1=g
  ·rw[if_pos e];exact .inl (h0 f (List.mem_cons_self ..))
  ·rw[if_neg e]
   rcases h with h | ⟨q,hq,hg⟩
   ·exact .inl h
   ·rcases List.mem_cons.1 hq with rfl | hq
    ·exact absurd hg e
    ·exact .inr ⟨q,hq,hg⟩
def cuFs(zs:List Int)(n:Nat):List (Nat×Int):=((List.range 8).filter fun j=>decide (n<=j)&&!(zs.getD j 0 == 0)).map fun(j:Nat)=>(3+j,0)
theorem yaas(zs:List Int)(i n:Nat):zmv i ((1,(n:Int))::cuFs zs n)=cuU zs (i:Int) n 8:=by
 unfold zmv cuU cuT cuFs;rw[List.map_cons,List.map_map];rfl
theorem zkd{zs:List Int}{n:Nat}{f:Nat×Int}(h:f∈cuFs zs n):∃ j,j<8/\n<=j/\f=(3+j,0):=by
 unfold cuFs at h;obtain⟨j,hm,rfl⟩:=List.mem_map.1 h;obtain⟨a,b⟩:=List.mem_filter.1 hm;rw[Bool.and_eq_true,decide_eq_true_eq]at b;exact⟨j,List.mem_range.1 a,b.1,rfl⟩
theorem yadw{zs:List Int}{n j:Nat}(hj:j<8):zng ((1,(n:Int))::cuFs zs n) (3+j) (zs.getD j 0)=(zwn zs n).getD j 0:=by
 show zng (cuFs zs n) (3+j) (if 1=3+j then(n:Int)else zs.getD j 0)=_
 rw[if_neg (by omega),zxl _ _ _ hj]
 by_cases c:j<n
 ·rw[if_pos c];exact zqy (fun f hf=>by obtain⟨q,_,hq,rfl⟩:=zkd hf;show ¬ 3+q=3+j;omega)
 ·rw[if_neg c];refine yaok (fun f hf=>by obtain⟨q,_,_,rfl⟩:=zkd hf;rfl) ?_
  by_cases e:zs.getD j 0=0
  ·exact .inl e
  ·refine .inr ⟨(3+j,0),?_,rfl⟩;unfold cuFs;exact List.mem_map.2 ⟨j,List.mem_filter.2 ⟨List.mem_range.2 hj,by rw[decide_eq_true (by omega:n<=j)];simpa using e⟩,rfl⟩
theorem zzv(x:Ino)(n:Nat):ztp x ((1,(n:Int))::cuFs x.map n)=ztd x.kind (n:Int) x.links (zwn x.map n):=by
 have N:∀ g,g<3->¬ g=1->∀ z,zng ((1,(n:Int))::cuFs x.map n) g z=z:=fun g hg h1 z=>zqy (fun f hf=>by
  rcases List.mem_cons.1 hf with rfl | hf
  ·show ¬ 1=g;omega
  ·obtain⟨q,_,_,rfl⟩:=zkd hf;show ¬ 3+q=g;omega)
 have P:=fun j hj=>yadw (zs:=x.map) (n:=n) (j:=j) hj
 unfold ztp ztd
 congr 1
 ·exact N 0 (by omega) (by omega) _
 ·show zng (cuFs x.map n) 1 (n:Int)=(n:Int)
  exact zqy (fun f hf=>by obtain⟨q,_,_,rfl⟩:=zkd hf;show ¬ 3+q=1;omega)
 ·exact N 2 (by omega) (by omega) _
 ·exact P 0 (by omega)
 ·exact P 1 (by omega)
 ·exact P 2 (by omega)
 ·exact P 3 (by omega)
 ·exact P 4 (by omega)
 ·exact P 5 (by omega)
 ·exact P 6 (by omega)
 ·exact P 7 (by omega)
theorem yaoy{ls:List Int}{ns:List Ino}{ds:List Den}(h:Wi ls ns ds){s:ByteArray}{size:Int}{us:List Se}(e:cuI ns ds s size=(us,0)) :
  UpIn us/\us.length<=9/\∃ i n:Nat,i<16/\n<=8/\(flI ns ds s).1=(i:Int)/\size=(n:Int)/\Wi (zbu ls us) (ns.set i (ztd (zam ns i).kind (n:Int) (zam ns i).links (zwn (zam ns i).map n))) ds:=by
 unfold cuI at e
 by_cases c:(flI ns ds s).2=0
 ·rw[if_pos c]at e;obtain⟨i,hi,ei,k⟩:=zfh h.img c;rw[ei]at e;unfold cuF at e
  by_cases d:0<=size/\size<=8
  ·rw[if_pos d]at e
   obtain⟨n,rfl⟩:∃ n:Nat,size=(n:Int):=⟨size.toNat,by omega⟩
   rw[Int.toNat_natCast,Int.toNat_natCast]at e;obtain⟨rfl,-⟩:=Prod.mk.inj e;rw[<- yaas]
   have hf:∀ f∈(1,(n:Int))::cuFs (zam ns i).map n,f.1<11:=fun f hf=>by
    rcases List.mem_cons.1 hf with rfl | hf
    ·show 1<11;omega
    ·obtain⟨q,hq,_,rfl⟩:=zkd hf;show 3+q<11;omega
   refine⟨zrx hi hf,?_,i,n,hi,by omega,ei,rfl,?_⟩
   ·rw[yaas];have:=zrp (zam ns i).map (i:Int) n 8
    show(cuT (zam ns i).map (i:Int) n 8).length+1<=9
    omega
   ·rw[<- zzv];exact yapn h hi hf (by rw[zzv];exact yasq h.img hi k (by omega))
  ·rw[if_neg d]at e;simp at e
 ·rw[if_neg c]at e;exact absurd (Prod.mk.inj e).2 c
def wrFs(p:Nat)(e size:Int):List (Nat×Int):=(3+p,e)::(if size<=(p:Int) then[(1,(p:Int)+1)] else[])
theorem yalt(i p:Nat)(e size:Int):zmv i (wrFs p e size)=wrU (i:Int) (p:Int) size e:=by
 unfold zmv wrU wrFs;rw[List.map_cons]
 by_cases c:size<=(p:Int)
 ·rw[if_pos c,if_pos c]
  show[(⟨48+12*(i:Int)+((3+p:Nat):Int),e⟩:Se),⟨48+12*(i:Int)+1,(p:Int)+1⟩]=_
  rw[show 48+12*(i:Int)+((3+p:Nat):Int)=48+12*(i:Int)+(3+(p:Int)) by omega]
 ·rw[if_neg c,if_neg c]
  show[(⟨48+12*(i:Int)+((3+p:Nat):Int),e⟩:Se)]=_
  rw[show 48+12*(i:Int)+((3+p:Nat):Int)=48+12*(i:Int)+(3+(p:Int)) by omega]
theorem yahd{p:Nat}{e size:Int}(hp:p<8):∀ f∈wrFs p e size,f.1<11:=fun f hf=>by
 unfold wrFs at hf
 rcases List.mem_cons.1 hf with rfl | hf
 ·show 3+p<11;omega
 ·by_cases c:size<=(p:Int)
  ·rw[if_pos c,List.mem_singleton]at hf;rw[hf];show 1<11;omega
  ·rw[if_neg c]at hf;cases hf
theorem yaav(x:Ino){p:Nat}(hp:p<8)(e:Int):ztp x (wrFs p e x.size)=ztd x.kind (if (p:Int)<x.size then x.size else(p:Int)+1) x.links (x.map.set p e):=by
 have G:∀ g z,zng (wrFs p e x.size) g z=if g=1/\x.size<=(p:Int) then(p:Int)+1 else if g=3+p then e else z:=by
  intro g z;unfold wrFs
  by_cases c:x.size<=(p:Int)
  ·rw[if_pos c]
   show(if 1=g then(p:Int)+1 else(if 3+p=g then e else z))=_
   repeat' split
   all_goals omega
  ·rw[if_neg c]
   show(if 3+p=g then e else z)=_
   repeat' split
   all_goals omega
 have M:∀ j,j<8->zng (wrFs p e x.size) (3+j) (x.map.getD j 0)=(x.map.set p e).getD j 0:=by
  intro j hj;rw[G,if_neg (fun q=>by omega),List.getD_eq_getElem?_getD,List.getD_eq_getElem?_getD,List.getElem?_set]
  by_cases b:j=p
  ·subst b;rw[if_pos rfl,if_pos rfl,if_pos (by show j<8;exact hj)];rfl
  ·rw[if_neg (by omega),if_neg (fun q=>b q.symm)]
 unfold ztp ztd
 congr 1
 ·rw[G,if_neg (fun q=>by omega),if_neg (by omega)]
 ·rw[G]
  by_cases c:(p:Int)<x.size
  ·rw[if_neg (fun q=>by omega),if_neg (by omega),if_pos c]
  ·rw[if_pos ⟨rfl,by omega⟩,if_neg c]
 ·rw[G,if_neg (fun q=>by omega),if_neg (by omega)]
 ·exact M 0 (by omega)
 ·exact M 1 (by omega)
 ·exact M 2 (by omega)
 ·exact M 3 (by omega)
 ·exact M 4 (by omega)
 ·exact M 5 (by omega)
 ·exact M 6 (by omega)
 ·exact M 7 (by omega)
theorem zrl{ls:List Int}{ns:List Ino}{ds:List Den}(h:Wi ls ns ds){i p:Nat}{e:Int}(hi:i<16)(k:(zam ns i).kind=1)(hp:p<8)(te:zef e=true)(he:¬ e=0)(new:¬ e∈zap ns) :
  UpIn (wrU (i:Int) (p:Int) (zam ns i).size e)/\Wi (zbu ls (wrU (i:Int) (p:Int) (zam ns i).size e)) (ns.set i (ztd (zam ns i).kind (if (p:Int)<(zam ns i).size then(zam ns i).size else(p:Int)+1) (zam ns i).links ((zam ns i).map.set p e))) ds:=by
 rw[<- yalt,<- yaav _ hp];exact⟨zrx hi (yahd hp),yapn h hi (yahd hp) (by rw[yaav _ hp];exact yaij h.img hi k hp te he new rfl)⟩
theorem yarr{ls:List Int}{ns:List Ino}{ds:List Den}(h:Wi ls ns ds){i p:Nat}{e:Int}(hi:i<16)(hp:p<8)(was:¬ (zam ns i).map.getD p 0=0)(te:zef e=true)(he:¬ e=0)(new:¬ e∈zap ns) :
  Wi (zbu ls [⟨48+12*(i:Int)+(3+(p:Int)),e⟩]) (ns.set i (ztd (zam ns i).kind (zam ns i).size (zam ns i).links ((zam ns i).map.set p e))) ds:=by
 obtain⟨sz,k⟩:=yahj (h.img.ok i hi) hp was;have q:=(zrl h hi k hp te he new).2;unfold wrU at q;rw[if_neg (by omega),if_pos sz]at q;exact q
theorem zcx{p:Nat->Bool}{n:Nat}(h:0<=zby p n):∃ k:Nat,k<n/\zby p n=(k:Int)/\p k=true:=by
 unfold zby at h ⊢
 cases e:(List.range n).find? p with
 | none=>rw[e]at h;exact absurd h (by show ¬ (0:Int)<=-1;omega)
 | some k=>exact⟨k,List.mem_range.1 (List.mem_of_find?_eq_some e),rfl,List.find?_some e⟩
theorem zze{ns:List Ino}{t:Int}{k:Nat}(ht:0<=t/\t<4)(h:(!zha (zbn (zap ns) t) (k:Int))=true):¬ 4*(k:Int)+t∈zap ns:=by
 intro m;unfold zha zbn at h;rw[Bool.not_eq_true',<- Bool.not_eq_true]at h;refine h (List.contains_iff_mem.2 (List.mem_map.2 ⟨4*(k:Int)+t,List.mem_filter.2 ⟨m,?_⟩,by omega⟩));rw[beq_iff_eq];omega
theorem yadv{ns:List Ino}(h:¬ (fpI ns<0/\fsI ns<0)):zef (wrE ns)=true/\¬ wrE ns=0/\¬ wrE ns∈zap ns:=by
 unfold wrE
 by_cases c:0<=fpI ns
 ·rw[if_pos c];obtain⟨k,hk,e,q⟩:=zcx c;have e':fpI ns=(k:Int):=e;rw[e'];refine⟨?_,by omega,zze (by omega) q⟩;unfold zef zgp;simp;omega
 ·rw[if_neg c];obtain⟨k,hk,e,q⟩:=zcx (p:=fun i=>!zha (zbn (zap ns) 2) (i:Int)) (n:=32) (by have:¬ fsI ns<0:=fun z=>h ⟨by omega,z⟩;unfold fsI at this;omega);have e':fsI ns=(k:Int):=e;rw[e'];refine⟨?_,by omega,zze (by omega) q⟩;unfold zef zgp;simp;omega
def zoo:List Int:=(((List.replicate 336 (0:Int)).set 0 7).set 48 2).set 50 1
theorem yaff:zoo.length=336:=by kernel_rfl
theorem yaci:zbb zoo 16=⟨2,0,1,0,0,0,0,0,0,0,0⟩::List.replicate 15 zgg:=by kernel_rfl
theorem yadc:zci zoo 24=true:=by kernel_rfl
theorem yade:zbc zoo 24=List.replicate 24 freeD:=by kernel_rfl
theorem yadq:zcr (⟨2,0,1,0,0,0,0,0,0,0,0⟩::List.replicate 15 zgg) (List.replicate 24 freeD)=true:=by kernel_rfl
theorem yalk:Wi zoo (⟨2,0,1,0,0,0,0,0,0,0,0⟩::List.replicate 15 zgg) (List.replicate 24 freeD) :=
 ⟨yaff,by kernel_rfl,yadc,yaci,yade,zbi.1 yadq⟩
end Go.Proofs.YtogcbbkhnpmgeaaGreatDoor
