import Derived.Test.YtogcbbkhnpmgeaaGreatDoorZAQ
set_option maxRecDepth 100000
set_option maxHeartbeats 4000000
namespace Go.Proofs.YtogcbbkhnpmgeaaGreatDoor
open Go.RowKit
def ztb(ws:List Int)(ps:List St)(at_:Int):Int:=if pmB ws ps=false then 1 else if zcs at_=false then 14 else 0
theorem yaaz{ws:List Int}{ps:List St}{at_:Int}(h:pmB ws ps=false):ztb ws ps at_=1:=by unfold ztb;rw[if_pos h]
theorem zqd{ws:List Int}{ps:List St}{at_:Int}(h:pmB ws ps=true)(h2:zcs at_=false):ztb ws ps at_=14:=by unfold ztb;rw[if_neg (by rw[h];simp),if_pos h2]
theorem yaib{ws:List Int}{ps:List St}{at_:Int}(h:pmB ws ps=true)(h2:zcs at_=true):ztb ws ps at_=0:=by unfold ztb;rw[if_neg (by rw[h];simp),if_neg (by rw[h2];simp)]
theorem zik(v:Value)(ws:List Int)(ps:List St)(at_:Int)(w:World)(h:RdPm w v ws ps)(hw:ws.length<=1048576)(hp:ps.length<=1048576) :
  zC 173 #[v,.I at_] w fun e w'=>e=.returned (.I (ztb ws ps at_))/\zB w w':=by
 have HR:=zaa h;obtain⟨vW,vP,rfl,h1,h2⟩:=h;obtain⟨aW,cW,rfl,_⟩:=h1.shape;obtain⟨aP,cP,rfl,_⟩:=h2.shape;clear h1 h2;have hb0:zB w (w.alloc (.cells #[.slice aW ws.length cW,.slice aP ps.length cP] 26)):=zR.alloc zL _
 by_cases c1:pmB ws ps=true
 ·by_cases c2:zcs at_=true
  ·rw[yaib c1 c2];go_enter Tryz.func173,Tryz.ntmps173;go_wp2_with (first | (go_at_call 43;refine(zdn _ ws ps _ (HR.o.below hb0) hw hp).mono ?_;rintro e w1 ⟨rfl,hb1⟩) | (go_at_call 98;refine(zdi _ _).mono ?_;rintro e w2 ⟨rfl,rfl⟩));go_ret;exact⟨rfl,zab hb0 hb1 (by simp)⟩
  ·have c2':zcs at_=false:=by simpa using c2
   rw[zqd c1 c2'];clear c2;go_enter Tryz.func173,Tryz.ntmps173;go_wp2_with (first | (go_at_call 43;refine(zdn _ ws ps _ (HR.o.below hb0) hw hp).mono ?_;rintro e w1 ⟨rfl,hb1⟩) | (go_at_call 98;refine(zdi _ _).mono ?_;rintro e w2 ⟨rfl,rfl⟩));go_ret;exact⟨rfl,zab hb0 hb1 (by simp)⟩
 ·have c1':pmB ws ps=false:=by simpa using c1
  rw[yaaz c1'];clear c1;go_enter Tryz.func173,Tryz.ntmps173;go_wp2_with (first | (go_at_call 43;refine(zdn _ ws ps _ (HR.o.below hb0) hw hp).mono ?_;rintro e w1 ⟨rfl,hb1⟩) | (go_at_call 98;refine(zdi _ _).mono ?_;rintro e w2 ⟨rfl,rfl⟩));go_ret;exact⟨rfl,zab hb0 hb1 (by simp)⟩
def zjb(at_ d:Int)(ps:List St):Int:=ps.foldl (fun acc p=>if p.at_=at_ then p.val else acc) d
theorem zhq{at_ d:Int}:∀ {ps:List St},(∀ p∈ps,¬ p.at_=at_)->zjb at_ d ps=d
 | [],_=>rfl
 | p::ps,h=>by
  show zjb at_ (if p.at_=at_ then p.val else d) ps=d
  rw[if_neg (h p (by simp))];exact zhq (fun q hq=>h q (by simp[hq]))
theorem zvv(at_ d:Int)(ps qs:List St):zjb at_ d (ps++qs)=zjb at_ (zjb at_ d ps) qs:=by simp[zjb]
theorem zvl{at_ d:Int}{ps:List St}{k:Nat}(hk:k<ps.length)(h:ps[k].at_=at_)(ha:∀ j (hj:j<ps.length),k<j->¬ ps[j].at_=at_):zjb at_ d ps=ps[k].val:=by
 have e:ps=ps.take k++(ps[k]::ps.drop (k+1)):=by rw[<- List.drop_eq_getElem_cons hk,List.take_append_drop]
 conv=>lhs;rw[e]
 rw[zvv]
 show zjb at_ (if ps[k].at_=at_ then ps[k].val else _) (ps.drop (k+1))=_
 rw[if_pos h];apply zhq;intro p hp;obtain⟨i,hi,rfl⟩:=List.getElem_of_mem hp;rw[List.getElem_drop];exact ha _ _ (by omega)
theorem znd(v:Value)(ws:List Int)(ps:List St)(at_:Nat)(w:World)(h:RdPm w v ws ps)(hw:ws.length<=1048576)(hp:ps.length<=1048576)(ha:at_<ws.length) :
  zC 139 #[v,.I (at_:Int)] w fun e w'=>e=.returned (.I (zjb (at_:Int) ws[at_] ps))/\zB w w':=by
 obtain⟨vW,vP,rfl,h1,h2⟩:=h;obtain⟨aW,cW,rfl,_,hcW⟩:=h1.shape;obtain⟨aP,cP,rfl,_,hcP⟩:=h2.shape;clear h1 h2;obtain⟨bW,oW,rfl,hbW,hcellW⟩:=hcW (by omega);have hb0:zB w (w.alloc (.cells #[.slice (some ⟨bW,oW,none⟩) ws.length cW,.slice aP ps.length cP] 26)):=zR.alloc zL _;have hcw:=(hb0.cell (p:=⟨bW,oW+at_,none⟩) hbW).trans (hcellW at_ ha);clear hcW hcellW;go_enter Tryz.func139,Tryz.ntmps139;go_wp2
 go_loop [5] (fun i=>∃ k:Nat,k<=ps.length/\i=.I ((k:Int)-1)/\Hid (∀ j (h:j<ps.length),k<=j->¬ ps[j].at_=(at_:Int))) (fun i=>(intOf i+1).toNat)
 case atStart=>exact⟨ps.length,Nat.le_refl _,rfl,fun j h a=>absurd h (by omega)⟩
 case round =>
  obtain⟨k,hk,rfl,H⟩:=hrel
  cases k with
  | zero =>
   have E:=zaa (zhq (d:=ws[at_]) (fun p hp=>by obtain⟨i,hi,rfl⟩:=List.getElem_of_mem hp;exact H.o i hi (by omega)));clear H hcP;go_wp2;go_ret;exact⟨zcq E.o.symm,hb0⟩
  | succ m =>
   have em:(((m+1:Nat):Int)-1)=(m:Int):=by omega
   rw[em];clear em;obtain⟨b,o,rfl,hbl,hcell⟩:=hcP (by omega);obtain⟨d0,d1,_⟩:=hcell m (by omega);have e0:=(hb0.cell (p:=⟨b,o+m*3,none⟩) hbl).trans d0;have e1:=(hb0.cell (p:=⟨b,o+m*3+1,none⟩) hbl).trans d1;clear d0 d1 hcell hcP
   have hm:m<ps.length:=by omega
   by_cases c:ps[m].at_=(at_:Int)
   ·have c':(ps[m].at_ == (at_:Int))=true:=by simpa using c
    have E:=zaa (zvl (d:=ws[at_]) hm c (fun j hj hlt=>H.o j hj (by omega)));clear H c;go_wp2;go_ret;exact⟨zcq E.o.symm,hb0⟩
   ·have c':(ps[m].at_ == (at_:Int))=false:=by simpa using c
    have C:=zaa c;clear c;go_wp2
    go_round
    case rel =>
     refine⟨m,by omega,by go_num,fun j hj hle=>?_⟩
     by_cases e:j=m
     ·subst e;exact C.o
     ·exact H.o j hj (by omega)
    case measure=>simp[intOf]<;>omega
def zyp(ws:List Int)(ps:List St)(at_:Int):Int:=if ztb ws ps at_=0 then zjb at_ (ws[at_.toNat]?.getD 0) ps else 0
theorem yajg{ws:List Int}{ps:List St}{at_:Int}(h:¬ ztb ws ps at_=0):zyp ws ps at_=0:=by unfold zyp;rw[if_neg h]
theorem yala{ws:List Int}{ps:List St}{k:Nat}(h:ztb ws ps (k:Int)=0)(hk:k<ws.length):zyp ws ps (k:Int)=zjb (k:Int) ws[k] ps:=by
 unfold zyp;rw[if_pos h];simp[hk]
theorem yadk(ws:List Int)(ps:List St)(at_:Int):(ztb ws ps at_=1\/ztb ws ps at_=14)\/(ztb ws ps at_=0/\pmB ws ps=true/\∃ k:Nat,at_=(k:Int)/\k<336/\k<ws.length):=by
 by_cases c1:pmB ws ps=true
 ·by_cases c2:zcs at_=true
  ·have:=zgv c2;have hl:=(zed c1).1;exact .inr ⟨yaib c1 c2,c1,at_.toNat,by omega,by omega,by omega⟩
  ·exact .inl (.inr (zqd c1 (by simpa using c2)))
 ·exact .inl (.inl (yaaz (by simpa using c1)))
theorem zpg(v:Value)(ws:List Int)(ps:List St)(at_:Int)(w:World)(h:RdPm w v ws ps)(hw:ws.length<=1048576)(hp:ps.length<=1048576) :
  zC 121 #[v,.I at_] w fun e w'=>e=.returned (.tuple #[.I (zyp ws ps at_),.I (ztb ws ps at_)])/\zB w w':=by
 have HR:=zaa h;obtain⟨vW,vP,rfl,h1,h2⟩:=h;obtain⟨aW,cW,rfl,_,hcW⟩:=h1.shape;obtain⟨aP,cP,rfl,_,hcP⟩:=h2.shape;clear h1 h2;have hb0:zB w (w.alloc (.cells #[.slice aW ws.length cW,.slice aP ps.length cP] 26)):=zR.alloc zL _
 rcases yadk ws ps at_ with hc | ⟨hc,hok,k,rfl,hk,hkl⟩
 ·have hne:(ztb ws ps at_ != 0)=true:=by rcases hc with hc | hc<;>simp[hc]
  have E:=zaa (yajg (ws:=ws) (ps:=ps) (at_:=at_) (by rcases hc with hc | hc<;>simp[hc]));clear hc hcW hcP;go_enter Tryz.func121,Tryz.ntmps121;go_wp2_with (go_at_call 173;refine(zik _ ws ps _ _ (HR.o.below hb0) hw hp).mono ?_;rintro e w1 ⟨rfl,hb1⟩);go_ret2;exact⟨zdh E.o.symm rfl,zab hb0 hb1 (by simp)⟩
 ·have E:=zaa (yala hc hkl);have C:=zaa hc;obtain⟨bW,oW,rfl,hbW,hcellW⟩:=hcW (by omega);have hcw:=zaa (hcellW k hkl);have HP:=zaa hcP;clear hc hcW hcellW hcP;go_enter Tryz.func121,Tryz.ntmps121;go_wp2_with fail;refine(zik _ ws ps _ _ (HR.o.below hb0) hw hp).mono ?_;rw[C.o];rintro e w1 ⟨rfl,hb1⟩;have V1:=(hb1.block w.heap.size (by simp)).trans (zah rfl);obtain⟨x1,x2,_,_⟩:=zac V1;have B1:=zaa (zab hb0 hb1 (by simp));have hcw1:=(B1.o.cell (p:=⟨bW,oW+k,none⟩) hbW).trans hcw.o;clear V1 hb1 hb0;go_wp2
  go_loop [7] (fun i=>∃ m:Nat,m<=ps.length/\i=.I ((m:Int)-1)/\Hid (∀ j (h:j<ps.length),m<=j->¬ ps[j].at_=(k:Int))) (fun i=>(intOf i+1).toNat)
  case atStart=>exact⟨ps.length,Nat.le_refl _,rfl,fun j h a=>absurd h (by omega)⟩
  case round =>
   obtain⟨m,hm,rfl,H⟩:=hrel
   cases m with
   | zero =>
    have E2:=zaa (zhq (d:=ws[k]) (fun p hp=>by obtain⟨i,hi,rfl⟩:=List.getElem_of_mem hp;exact H.o i hi (by omega)));clear H;go_wp2;go_ret2;exact⟨zdh (E.o.trans E2.o).symm C.o.symm,B1.o⟩
   | succ m =>
    have em:(((m+1:Nat):Int)-1)=(m:Int):=by omega
    rw[em];clear em;obtain⟨b,o,rfl,hbl,hcell⟩:=HP.o (by omega);obtain⟨d0,d1,_⟩:=hcell m (by omega);have e0:=(B1.o.cell (p:=⟨b,o+m*3,none⟩) hbl).trans d0;have e1:=(B1.o.cell (p:=⟨b,o+m*3+1,none⟩) hbl).trans d1;clear d0 d1 hcell
    have hml:m<ps.length:=by omega
    by_cases c:ps[m].at_=(k:Int)
    ·have c':(ps[m].at_ == (k:Int))=true:=by simpa using c
     have E2:=zaa (zvl (d:=ws[k]) hml c (fun j hj hlt=>H.o j hj (by omega)));clear H c;go_wp2;go_ret2;exact⟨zdh (E.o.trans E2.o).symm C.o.symm,B1.o⟩
    ·have c':(ps[m].at_ == (k:Int))=false:=by simpa using c
     have C2:=zaa c;clear c;go_wp2
     go_round
     case rel =>
      refine⟨m,by omega,by go_num,fun j hj hle=>?_⟩
      by_cases e:j=m
      ·subst e;exact C2.o
      ·exact H.o j hj (by omega)
     case measure=>simp[intOf]<;>omega
theorem zsw(ps:List St):∀ u∈sts ps,u.oneCell'=true:=by
 intro u hu;simp only[sts,List.mem_flatMap,St.cells]at hu;obtain⟨s,_,hs⟩:=hu;simp at hs
 rcases hs with rfl|rfl|rfl<;>rfl
theorem RowPm.zero(w:World)(lo hi:Nat):RowPm w lo hi (.agg #[.N,.N]) [] []:=⟨_,_,rfl,Row.nil _ _ _ _ _,Row.nil _ _ _ _ _⟩
theorem zzu(ps:List St)(s:St):sts (ps++[s])=sts ps++s.cells:=by simp[sts]
theorem RdS.form{w:World}{v:Value}{ps:List St}(h:RdS w v ps){n:Nat}(hn:ps.length=n):∃ ao cap,v=.slice ao n cap:=by
 obtain⟨ao,cap,e,_⟩:=h.shape;exact⟨ao,cap,by rw[<- hn];exact e⟩
theorem yapt{ws:List Int}{ps:List St}(h:pmB ws ps=true):∀ j (hj:j<ps.length),0<=ps[j].at_/\ps[j].at_<336:=fun j hj=>zgv (zjm h j hj).1
theorem yaua{ws:List Int}{ps:List St}(h:pmB ws ps=true):∀ j (hj:j<ps.length),0<=ps[j].at_/\ps[j].at_<ws.length:=fun j hj=>by
 have h1:=yapt h j hj;have h2:=(zed h).1;omega
theorem yaup(w1:World)(a x:Int)(f:Bool):Rd (w1.alloc (.cells #[.I a,.I x,.bool f] 138)) 3 (.slice (some ⟨w1.heap.size,0,none⟩) 1 1) 1 (St.cells ⟨a,x,f⟩):=by
 refine⟨rfl,_,_,rfl,⟨Nat.le_refl _,fun e=>by cases e⟩,fun _=>⟨w1.heap.size,0,rfl,by simp,fun j hj=>?_⟩⟩;obtain⟨e0,e1,e2⟩:=zba (zah (w:=w1) (o:=.cells #[.I a,.I x,.bool f] 138) rfl);rw[Nat.zero_add]
 rcases(show j=0\/j=1\/j=2 from by omega)with rfl|rfl|rfl
 ·exact e0
 ·exact e1
 ·exact e2
theorem yadu(p:St):∀ u∈St.cells p,u.oneCell'=true:=by
 intro u hu;simp[St.cells]at hu
 rcases hu with rfl|rfl|rfl<;>rfl
def zbz(ws:List Int)(ps:List St):List Int:=ps.foldl (fun acc p=>acc.set p.at_.toNat p.val) ws
theorem yaht(ws:List Int)(ps:List St)(p:St):zbz ws (ps++[p])=(zbz ws ps).set p.at_.toNat p.val:=by simp[zbz]
theorem zcg(ws:List Int):∀ ps:List St,(zbz ws ps).length=ws.length:=by
 intro ps;unfold zbz
 induction ps generalizing ws with
 | nil=>rfl
 | cons p ps ih=>rw[List.foldl_cons,ih];simp
theorem yafy:∀ (ps:List St) (ws:List Int) (k:Nat) (hk:k<ws.length) (_:∀ p∈ps,0<=p.at_) (hk':k<(zbz ws ps).length),(zbz ws ps)[k]=zjb (k:Int) ws[k] ps
 | [],ws,k,hk,_,_=>rfl
 | p::ps,ws,k,hk,h0,hk'=>by
  have hk2:k<(ws.set p.at_.toNat p.val).length:=by simpa using hk
  have:=yafy ps (ws.set p.at_.toNat p.val) k hk2 (fun q hq=>h0 q (by simp[hq])) hk'
  show(zbz (ws.set p.at_.toNat p.val) ps)[k]=zjb (k:Int) (if p.at_=(k:Int)then p.val else ws[k]) ps
  rw[this,List.getElem_set];have hp:=h0 p (by simp)
  by_cases e:p.at_=(k:Int)
  ·rw[if_pos (by omega),if_pos e]
  ·rw[if_neg (by omega),if_neg e]
def yaew(ws:List Int)(ps:List St):Int:=if pmB ws ps=true then 0 else 1
def yacw(ws:List Int)(ps:List St):List Int:=if pmB ws ps=true then zbz ws ps else[]
theorem zzf{ws:List Int}{ps:List St}(h:pmB ws ps=false):yaew ws ps=1/\yacw ws ps=[]:=by
 unfold yaew yacw;rw[h];exact⟨rfl,rfl⟩
theorem yakd{ws:List Int}{ps:List St}(h:pmB ws ps=true):yaew ws ps=0/\yacw ws ps=zbz ws ps:=by
 unfold yaew yacw;rw[h];exact⟨rfl,rfl⟩
theorem zph(v:Value)(ws:List Int)(ps:List St)(w:World)(h:RdPm w v ws ps)(hw:ws.length<=1048576)(hp:ps.length<=1048576) :
  zC 33 #[v] w fun e w'=>∃ v',e=.returned (.tuple #[v',.I (yaew ws ps)])/\Row w' 3 1 w.heap.size w'.heap.size v' (yacw ws ps).length (zdb (yacw ws ps))/\zB w w':=by
 have HR:=zaa h;obtain⟨vW,vP,rfl,h1,h2⟩:=h;have H1:=zaa h1;obtain⟨aW,cW,rfl,_⟩:=h1.shape;obtain⟨aP,cP,rfl,_,hcP⟩:=h2.shape;have HP:=zaa hcP;clear h1 h2 hcP;have hb0:zB w (w.alloc (.cells #[.slice aW ws.length cW,.slice aP ps.length cP] 26)):=zR.alloc zL _
 by_cases hc:pmB ws ps=true
 ·obtain⟨e1,e2⟩:=yakd hc;rw[e1,e2];clear e1 e2;have OK:=zaa (yaua hc);go_enter Tryz.func33,Tryz.ntmps33;go_wp2_with fail;refine(zdn _ ws ps _ (HR.o.below hb0) hw hp).mono ?_;rintro e w1 ⟨rfl,hb1⟩
  have hz1:w.heap.size+1<=w1.heap.size:=by have:=hb1.size;simp at this;omega
  have V0:=(hb1.block w.heap.size (by simp<;>omega)).trans (zah rfl);obtain⟨x1,x2,x3,x4⟩:=zac V0;have B1:=zaa (zab hb0 hb1 (by simp<;>omega));have VH:=zaa V0;clear hb0 hb1 V0;go_wp2_with (at_builtin;refine zae _ rfl (.const (.N)) (.tmp 11) 23 rfl w1.heap.size 3 (.I 0) 1 8 Tryz.underlying23 zjs rfl (by decide) _ 0 [] rfl (World.ownsRow_nil _ _ _ _) _ ws.length (zdb ws) rfl (Rd.below H1.o B1.o) (zfo ws) (by simp[maxLen];omega) (by omega) zL ?_);intro v2 w2 hown2 hgr2
  have hown2:w2.ownsRow w1.heap.size 3 1 v2 ws.length (zdb ws):=by simpa using hown2
  obtain⟨aW2,cW2,rfl⟩:=RdI.form (zad hown2).rd rfl;have hz2:w1.heap.size<=w2.heap.size:=hgr2.size;have B2:=B1.o.grown hgr2 (by omega) (fun k hk=>by cases hk);have V0:=(hgr2.block w.heap.size (by omega) (by simp[Value.ownBlock])).trans VH.o;obtain⟨z1,z2,z3,z4⟩:=zac V0;have START:=zaa (And.intro (zad hown2) B2);clear x1 x2 x3 x4 hown2 hgr2 B2 V0;go_wp2
  go_loopw [6,16] (fun _ i wr=>∃ m:Nat,m<=ps.length/\i=.I m/\Row wr 3 1 w1.heap.size w2.heap.size (.slice aW2 ws.length cW2) ws.length (zdb (zbz ws (ps.take m)))/\zB w wr/\w2.heap.size<=wr.heap.size) (fun _ i _=>ps.length-(intOf i).toNat)
  case atStart=>exact⟨0,by omega,rfl,START.o.1,START.o.2,Nat.le_refl _⟩
  case round =>
   obtain⟨m,hm,rfl,hrow,hb,hz⟩:=hrel
   by_cases hlt:m<ps.length
   ·obtain⟨b,o,rfl,hbl,hcell⟩:=HP.o (by omega);obtain⟨e0,e1,e2⟩:=hcell m hlt;have d0:=(hb.cell (p:=⟨b,o+m*3,none⟩) hbl).trans e0;have d1:=(hb.cell (p:=⟨b,o+m*3+1,none⟩) hbl).trans e1;have d2:=(hb.cell (p:=⟨b,o+m*3+2,none⟩) hbl).trans e2;obtain⟨q0,q1⟩:=OK.o m hlt;obtain⟨_,aw',cw',ew',_,hcw⟩:=hrow.rd
    cases ew'
    obtain⟨bw,ow,rfl,hblw,_⟩:=hcw (by omega)
    obtain⟨rfl,hb1,_,_,hfrw,hclw⟩:=(hrow.alloc hz (.cells #[.I ps[m].at_,.I ps[m].val,.bool ps[m].fl] 138)).at
    have hj:ps[m].at_.toNat<(zbz ws (ps.take m)).length:=by rw[zcg];omega
    have g0:=hfrw ps[m].at_.toNat;have g1:=(hclw ps[m].at_.toNat (by omega)).trans (zcp _ _ hj)
    have F:Hid (Row ((wr.setCell ⟨bw,ps[m].at_.toNat,none⟩ (.I ps[m].val)).alloc (.cells #[.I ps[m].at_,.I ps[m].val,.bool ps[m].fl] 138)) 3 1 w1.heap.size w2.heap.size (.slice (some ⟨bw,0,none⟩) ws.length cW2) ws.length (zdb (zbz ws (ps.take (m+1))))):=by
     rw[zei ps m hlt,yaht,<- zho];exact(hrow.stored _ _).alloc (by simp;omega) _
    have G:=zaa ((hb.setCell (p:=⟨bw,ps[m].at_.toNat,none⟩) (by simp only;omega) (.I ps[m].val)).alloc (by simp;omega) (.cells #[.I ps[m].at_,.I ps[m].val,.bool ps[m].fl] 138));clear hrow hcell e0 e1 e2 hcw hfrw hclw;go_wp2
    go_roundw
    case rel=>exact⟨m+1,by omega,by go_num,F.o,G.o,by simp;omega⟩
    case measure=>simp[intOf];omega
   ·have e:m=ps.length:=by omega
    subst e;have R:=zaa hrow;clear hrow;go_wp2;go_ret2;refine⟨_,rfl,?_,hb⟩;have:=R.o;rw[List.take_length]at this;rw[zcg];exact this.wide (by omega) hz
 ·have hc':pmB ws ps=false:=by simpa using hc
  clear hc;obtain⟨e1,e2⟩:=zzf hc';rw[e1,e2];clear e1 e2;go_enter Tryz.func33,Tryz.ntmps33;go_wp2_with fail;refine(zdn _ ws ps _ (HR.o.below hb0) hw hp).mono ?_;rintro e w1 ⟨rfl,hb1⟩;have B1:=zaa (zab hb0 hb1 (by simp<;>omega));clear hb0 hb1;go_wp2;go_ret2;exact⟨_,rfl,Row.nil _ _ _ _ _,B1.o⟩
def arrD(ds:List Nat)(j:Nat):Value:=if j<6-ds.length then .int .u8 0 else .int .u8 (96+((ds[j-(6-ds.length)]?.getD 0:Nat):Int))
theorem yank(j:Nat)(h:j<6):arrD [] j=.int .u8 0:=by unfold arrD;rw[if_pos (by simpa using h)]
theorem yaju(d:Nat)(ds:List Nat)(h:ds.length<6)(j:Nat):(if j=6-ds.length-1 then Value.int .u8 (96+(d:Int))else arrD ds j)=arrD (d::ds) j:=by
 unfold arrD
 by_cases e:j=6-ds.length-1
 ·subst e;rw[if_pos rfl,if_neg (by simp only[List.length_cons];omega)];simp only[List.length_cons];rw[show 6-ds.length-1-(6-(ds.length+1))=0 by omega];rfl
 ·rw[if_neg e];simp only[List.length_cons]
  by_cases e2:j<6-ds.length
  ·rw[if_pos e2,if_pos (by omega)]
  ·rw[if_neg e2,if_neg (by omega),show j-(6-(ds.length+1))=(j-(6-ds.length))+1 by omega];rfl
theorem yacb(ds:List Nat):strOfNums (ds.map fun d=>(96:Int)+(d:Nat))=zch ds:=by
 unfold strOfNums zch;rw[List.map_map]
 congr 2
theorem yauj(w:World)(b l:Nat)(h1:1<=l)(h6:l<=6):(Instr.sliceAt 188 (.pointer (some ⟨b,0,none⟩)) (some (.I (6-(l:Int)))) none none).run Tryz.prog w=.ok (.slice (some ⟨b,6-l,none⟩) l l) w:=by
 have al:Tryz.prog.arrayLen 188=6:=by kernel_rfl
 rw[run_sliceAt_array_l w 188 ⟨b,0,none⟩ (by kernel_rfl) .i64 (6-(l:Int)) (by omega) (by rw[al];omega),al]
 have sz:(sizeOf (Tryz.prog.elem 188)).run Tryz.prog w=.ok 1 w:=by kernel_rfl
 rw[sz];simp only[Result.andThen,slicedAt];rw[if_neg (by omega),show(6-(l:Int)).toNat=6-l by omega,show 6-(6-l)=l by omega,Nat.mul_one];simp[Addr.add];omega
theorem zjq(n:Int)(w:World)(hn:n<=9223372036854775807):zC 82 #[.I n] w fun e w'=>e=.returned (.tuple #[.string (zte n),.I (unpC n)])/\zB w w':=by
 by_cases c0:n<1
 ·have E:=zaa (zzc (zxq (n:=n) (by omega)));go_enter Tryz.func82,Tryz.ntmps82;go_wp2;go_ret2;exact⟨yabh E.o.1.symm E.o.2.symm,zR⟩
 obtain⟨N,rfl⟩:=Int.eq_ofNat_of_zero_le (show 0<=n by omega)
 have START:Hid ((w.alloc (.cells #[.int .u8 0,.int .u8 0,.int .u8 0,.int .u8 0,.int .u8 0,.int .u8 0] 188)).rowIs w.heap.size 188 6 (arrD [])):=by
  refine World.rowIs_alloc w #[.int .u8 0,.int .u8 0,.int .u8 0,.int .u8 0,.int .u8 0,.int .u8 0] 188 (arrD []) (fun i hi=>?_);have hi':i<6:=hi;rw[yank i hi']
  rcases(show i=0\/i=1\/i=2\/i=3\/i=4\/i=5 by omega)with rfl|rfl|rfl|rfl|rfl|rfl<;>rfl
 have BH:Hid (zB w (w.alloc (.cells #[.int .u8 0,.int .u8 0,.int .u8 0,.int .u8 0,.int .u8 0,.int .u8 0] 188))):=zR.alloc zL _;go_enter Tryz.func82,Tryz.ntmps82;go_wp2
 go_loopw [0,5,6] (fun x f _ wr=>∃ (m:Nat) (ds:List Nat),x=.I (m:Int)/\f=.I (6-(ds.length:Int))/\m<=N/\ds.length<=6/\Hid (Dg N m ds)/\Hid (wr.rowIs w.heap.size 188 6 (arrD ds))/\Hid (zB w wr)) (fun x _ _ _=>(intOf x).toNat)
 case atStart=>exact⟨N,[],rfl,rfl,Nat.le_refl _,by simp,Dg.start N,START.o,BH.o⟩
 case round =>
  obtain⟨m,ds,rfl,rfl,hm,hl,D,R,B⟩:=hrel
  by_cases c1:0<m
  ·have m0:(0:Int)<(m:Int):=by omega
   by_cases c2:m%27=0
   ·have E:=zaa (zzc (yaau D.o c1 c2))
    have c2':((m:Int)%27 == 0)=true:=by rw[beq_iff_eq];omega
    go_wp2;go_ret2;exact⟨yabh E.o.1.symm E.o.2.symm,B.o⟩
   ·have c2':((m:Int)%27 == 0)=false:=by rw[beq_eq_false_iff_ne];omega
    by_cases c3:6<=ds.length
    ·have E:=zaa (zzc (yamc D.o c1 c3))
     have c3':((6:Int)-(ds.length:Int) == 0)=true:=by rw[beq_iff_eq];omega
     go_wp2;go_ret2;exact⟨yabh E.o.1.symm E.o.2.symm,B.o⟩
    ·have c3':((6:Int)-(ds.length:Int) == 0)=false:=by rw[beq_eq_false_iff_ne];omega
     have D2:=zaa (D.o.step c1 c2);have g0:=R.o.frozen (6-ds.length-1);have g1:=R.o.cell (show 6-ds.length-1<6 by omega);generalize hv:arrD ds (6-ds.length-1)=v0 at g1
     have ev:(97+(m:Int)%27-1)=96+((m%27:Nat):Int):=by omega
     have R2:Hid ((wr.setCell ⟨w.heap.size,6-ds.length-1,none⟩ (.int .u8 (97+(m:Int)%27-1))).rowIs w.heap.size 188 6 (arrD (m%27::ds))):=by
      rw[ev];exact(R.o.set (6-ds.length-1) (.int .u8 (96+((m%27:Nat):Int)))).congr (fun j _=>yaju (m%27) ds (by omega) j)
     have B2:Hid (zB w (wr.setCell ⟨w.heap.size,6-ds.length-1,none⟩ (.int .u8 (97+(m:Int)%27-1)))):=B.o.setCell (by simp only;omega) _;clear ev;clear hv;go_wp2
     go_roundw
     case rel=>exact⟨m/27,m%27::ds,by go_num,by go_num,by omega,by simp;omega,D2.o,R2.o,B2.o⟩
     case measure=>simp[intOf];omega
  ·obtain rfl:m=0:=by omega
   have E:=zaa (yamo D.o (by omega) hl)
   have hconv:=fun cap=>run_convert_bytes_arg (P:=Tryz.prog) wr 22 5 Tryz.underlying22 Tryz.underlying5 w.heap.size (6-ds.length) ds.length cap (ds.map fun d=>(96:Int)+(d:Nat)) (by simp) (fun i hi=>by
    rw[R.o.cell (show 6-ds.length+i<6 by omega)];unfold arrD;rw[if_neg (by omega),show 6-ds.length+i-(6-ds.length)=i by omega]
    simp[List.getD,hi]) 9 Tryz.underlying9
   rw[yacb]at hconv
   have l1:1<=ds.length:=by
    have:=yaeo (n:=N) (by omega);rw[D.o.done]at this;exact this
   have hsl:=yauj wr w.heap.size ds.length l1 hl;have hcv:=hconv ds.length;clear hconv;go_wp2;go_ret2;exact⟨yabh E.o.1.symm E.o.2.symm,B.o⟩
theorem zsm(n:Int)(w:World)(hn:n<=9223372036854775807):zC 162 #[.I n] w fun e w'=>(∃ s,e=.returned (.tuple #[.string s,.bool (zfs n)])/\(zfs n=true->s=zte n))/\zB w w':=by
 obtain⟨N,hN,hN2,hN3⟩:∃ N:Nat,(0<n->n=(N:Int))/\(¬ 0<n->N=0)/\N<=9223372036854775807:=⟨n.toNat,fun h=>by omega,fun h=>by omega,by omega⟩
 have hdl:(zpb N).length<=14:=yamx 14 N (by omega);go_enter Tryz.func162,Tryz.ntmps162;go_wp2
 go_loopw [0,4,5] (fun x o _ wr=>∃ (y:Int) (ds:List Nat),x=.I y/\o=.string (zch ds)/\y<=9223372036854775807/\Hid ((0<n->∃ m:Nat,y=(m:Int)/\Dg N m ds)/\(¬ 0<n->¬ 0<y/\ds=[]))/\Hid (zB w wr)) (fun x _ _ _=>(intOf x).toNat)
 case atStart=>exact⟨n,[],rfl,rfl,hn,⟨fun h=>⟨N,hN h,Dg.start N⟩,fun h=>⟨h,rfl⟩⟩,zR⟩
 case round =>
  obtain⟨y,ds,rfl,rfl,hy,D,B⟩:=hrel
  by_cases c1:0<y
  ·have hp:0<n:=by
    rcases Decidable.em (0<n)with h | h
    ·exact h
    ·exact absurd c1 (D.o.2 h).1
   obtain⟨m,rfl,D1⟩:=D.o.1 hp;have D0:=zaa D1;clear D D1
   by_cases c2:m%27=0
   ·have E:Hid (zfs n=false):=by
     rw[hN hp];exact yaau D0.o (by omega) c2
    have c2':((m:Int)%27 == 0)=true:=by rw[beq_iff_eq];omega
    go_wp2;go_ret2;exact⟨⟨_,yapr rfl E.o.symm,fun h=>by rw[E.o]at h;cases h⟩,B.o⟩
   ·have c2':((m:Int)%27 == 0)=false:=by rw[beq_eq_false_iff_ne];omega
    have D2:=zaa (D0.o.step (by omega) c2);have hl14:ds.length<=14:=Nat.le_trans D0.o.len hdl
    have hcv:=run_convert_bytes_arg (P:=Tryz.prog) (wr.alloc (.cells #[.int .u8 (97+(m:Int)%27-1)] 5)) 22 5 Tryz.underlying22 Tryz.underlying5 wr.heap.size 0 1 1 [97+(m:Int)%27-1] rfl (fun i hi=>by
     obtain rfl:i=0:=by omega
     exact World.cell?_alloc_mark wr #[.int .u8 (97+(m:Int)%27-1)] 5 (0,0) 0) 9 Tryz.underlying9
    have eb:strOfNums [97+(m:Int)%27-1]=⟨#[UInt8.ofNat (96+m%27)]⟩:=by
     unfold strOfNums;simp only[List.map_cons,List.map_nil];rw[show(97+(m:Int)%27-1).toNat=96+m%27 by omega]
    rw[eb]at hcv;have had:=run_string_add_sum (P:=Tryz.prog) (wr.alloc (.cells #[.int .u8 (97+(m:Int)%27-1)] 5)) ⟨#[UInt8.ofNat (96+m%27)]⟩ (zch ds) (by rw[zce];show 1+_<=_;omega);rw[zuz]at had;have B2:Hid (zB w (wr.alloc (.cells #[.int .u8 (97+(m:Int)%27-1)] 5))):=B.o.alloc B.o.size _;clear eb;generalize hbb:(⟨#[UInt8.ofNat (96+m%27)]⟩:ByteArray)=bb at hcv had;clear hbb;go_wp2
    go_roundw
    case rel=>exact⟨(m:Int)/27,m%27::ds,rfl,rfl,by omega,⟨fun _=>⟨m/27,by omega,D2.o⟩,fun h=>absurd hp h⟩,B2.o⟩
    case measure=>simp[intOf];omega
  ·have LEN:Hid (ds.length<=14/\nmB (zch ds)=zfs n/\(zfs n=true->zch ds=zte n)):=by
    rcases Decidable.em (0<n)with hp | hp
    ·obtain⟨m,em,D1⟩:=D.o.1 hp
     obtain rfl:m=0:=by omega
     have en:=hN hp;have hl:=D1.len;have hd:=D1.done;refine⟨by omega,?_,fun h=>?_⟩
     ·by_cases c6:ds.length<=6
      ·have h1:1<=ds.length:=by rw[<- hd];exact yaeo (by omega)
       rw[zxr D1.ok h1 c6,en];exact(decide_eq_true ⟨by omega,by rw[Int.toNat_natCast,hd];exact fun d x=>(D1.ok d x).1,by rw[Int.toNat_natCast,hd];exact c6⟩).symm
      ·rw[zqw (by rw[zce];omega),en];exact(decide_eq_false (fun x=>by have:=x.2.2;rw[Int.toNat_natCast,hd]at this;omega)).symm
     ·unfold zte;rw[if_pos h,en,Int.toNat_natCast,hd]
    ·obtain⟨_,rfl⟩:=D.o.2 hp;refine⟨by simp,?_,fun h=>?_⟩
     ·rw[zuk (by rw[zce];simp),zxq hp]
     ·rw[zxq hp]at h;cases h
   have hsz:(zch ds).size<=maxLen:=by
    have:=LEN.o.1;rw[zce];unfold maxLen;omega
   go_wp2_with (go_at_call 155;refine(zee _ _ hsz).mono ?_;rintro e w' ⟨rfl,rfl⟩);go_ret2;exact⟨⟨_,yapr rfl LEN.o.2.1,LEN.o.2.2⟩,B.o⟩
end Go.Proofs.YtogcbbkhnpmgeaaGreatDoor
