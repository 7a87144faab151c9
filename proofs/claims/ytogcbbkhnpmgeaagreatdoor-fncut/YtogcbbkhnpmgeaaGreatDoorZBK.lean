import Derived.Test.YtogcbbkhnpmgeaaGreatDoorZBJ
set_option maxRecDepth 100000
set_option maxHeartbeats 8000000
namespace Go.Proofs.YtogcbbkhnpmgeaaGreatDoor
open Go.RowKit
def upB(s:Se):Bool:=decide ((48<=s.at_/\s.at_<336)/\0<=s.val/\s.val<1099511627776)
def yagv(ps:List Se):Bool:=decide (∀ k (h:k<ps.length),upB ps[k]=true)
theorem yanp{ps:List Se}(h:∀ k (h:k<ps.length),upB ps[k]=true):yagv ps=true:=decide_eq_true h
theorem yadx{ps:List Se}{k:Nat}(hk:k<ps.length)(h:upB ps[k]=false):yagv ps=false:=decide_eq_false (fun x=>by have:=x k hk;rw[h]at this;cases this)
theorem zlc(s:Se)(w:World):zC 45 #[.agg #[.I s.at_,.I s.val]] w fun e w'=>e=.returned (.bool (upB s))/\zB w w':=by
 obtain⟨a,x⟩:=s;simp only;have hb0:zB w (w.alloc (.cells #[.I a,.I x] 104)):=zR.alloc zL _
 by_cases c1:48<=a
 case neg =>
  have E:=zaa (show upB ⟨a,x⟩=false from decide_eq_false (fun h=>c1 h.1.1));go_enter Tryz.func45,Tryz.ntmps45;go_wp2;go_ret;exact⟨zag E.o.symm,hb0⟩
 by_cases c2:zcs a=true
 case neg =>
  have c2':zcs a=false:=by simpa using c2
  have E:=zaa (show upB ⟨a,x⟩=false from decide_eq_false (fun h=>c2 (decide_eq_true ⟨by omega,h.1.2⟩)));have C2:=zaa c2';clear c2 c2';go_enter Tryz.func45,Tryz.ntmps45;go_wp2_with (go_at_call 98;refine(zdi _ _).mono ?_;rw[C2.o];rintro e w' ⟨rfl,rfl⟩);go_ret;exact⟨zag E.o.symm,hb0⟩
 have E:=zaa (show upB ⟨a,x⟩=zaz x by
  unfold upB zaz;rw[decide_eq_decide];have:=zgv c2;simp only
  omega)
 have C2:=zaa c2;clear c2;go_enter Tryz.func45,Tryz.ntmps45;go_wp2_with (first | (go_at_call 98;refine(zdi _ _).mono ?_;rw[C2.o];rintro e w' ⟨rfl,rfl⟩) | (go_at_call 95;refine(zgf _ _).mono ?_;rintro e w' ⟨rfl,rfl⟩));go_ret;exact⟨zag E.o.symm,hb0⟩
theorem zoj(v:Value)(ps:List Se)(w:World)(h:RdE w v ps)(hn:ps.length<=1048576) :
  zC 44 #[v,.func (.func 45) #[] #[]] w fun e w'=>e=.returned (.bool (yagv ps))/\zB w w':=by
 obtain⟨aP,cP,rfl,_,hcP⟩:=h.shape;clear h;go_enter Tryz.func44,Tryz.ntmps44;go_wp2
 go_loopw [6,9] (fun _ i wr=>∃ k:Nat,k<=ps.length/\i=.I k/\Hid (∀ j (h:j<ps.length),j<k->upB ps[j]=true)/\zB w wr) (fun _ i _=>ps.length-(intOf i).toNat)
 case atStart=>exact⟨0,by omega,rfl,fun j h a=>absurd a (by omega),zR⟩
 case round =>
  obtain⟨m,hm,rfl,H,hbw⟩:=hrel;have hz:=hbw.size
  by_cases hlt2:m<ps.length
  ·obtain⟨b2,o2,rfl,hbl2,hcell2⟩:=hcP (by omega);obtain⟨d0,d1⟩:=hcell2 m hlt2;have e0:=(hbw.cell (p:=⟨b2,o2+m*2,none⟩) hbl2).trans d0;have e1:=(hbw.cell (p:=⟨b2,o2+m*2+1,none⟩) hbl2).trans d1;have hb1:=zaa (hbw.alloc hz (.cells #[.I ps[m].at_,.I ps[m].val] 104));clear d0 d1 hcell2 hcP
   by_cases q:upB ps[m]=true
   ·have Q:=zaa q;clear q;go_wp2_with (go_at_call 45;refine(zlc ps[m] _).mono ?_;rw[Q.o];rintro e w' ⟨rfl,hw'⟩);have hw2:=hb1.o.trans (hw'.mono (by simp;omega));clear hb1 hw'
    go_roundw
    case rel =>
     refine⟨m+1,by omega,by go_num,fun j h a=>?_,hw2⟩
     by_cases e:j=m
     ·subst e;exact Q.o
     ·exact H.o j h (by omega)
    case measure=>simp[intOf];omega
   ·have Q:=zaa (show upB ps[m]=false by simpa using q);have E:=zaa (yadx hlt2 Q.o);clear q;go_wp2_with (go_at_call 45;refine(zlc ps[m] _).mono ?_;rw[Q.o];rintro e w' ⟨rfl,hw'⟩);have hw2:=hb1.o.trans (hw'.mono (by simp;omega));go_ret;exact⟨zag E.o.symm,hw2⟩
  ·have E:=zaa (yanp (fun j h=>H.o j h (by omega)));go_wp2;go_ret;exact⟨zag E.o.symm,hbw⟩
def apW(ws:List Int)(us:List Se):List Int:=us.foldl (fun l u=>l.set u.at_.toNat u.val) ws
theorem yaoo(ws:List Int)(us:List Se)(k:Nat)(h:k<us.length):apW ws (us.take (k+1))=(apW ws (us.take k)).set us[k].at_.toNat us[k].val:=by
 unfold apW;rw[List.take_succ_eq_append_getElem h,List.foldl_append];rfl
theorem yafi(ws:List Int):∀ (us:List Se),(apW ws us).length=ws.length:=by
 intro us;unfold apW
 induction us generalizing ws with
 | nil=>rfl
 | cons u us ih=>rw[List.foldl_cons,ih,List.length_set]
def auB(ws:List Int)(ps:List St)(us:List Se):Bool:=pmB ws ps&&upsB us
def auC(ws:List Int)(ps:List St)(us:List Se):Int:=if 4096<us.length then 2 else if auB ws ps us=true then(if ps.length=0 then 0 else 15)else 1
def auW(ws:List Int)(ps:List St)(us:List Se):List Int:=if 4096<us.length then[]else if auB ws ps us=true then(if ps.length=0 then apW ws us else ws) else[]
def auP(ws:List Int)(ps:List St)(us:List Se):List St:=if 4096<us.length then[]else if auB ws ps us=true then ps else[]
theorem yamy(ws:List Int)(ps:List St)(us:List Se):(4096<us.length/\auC ws ps us=2/\auW ws ps us=[]/\auP ws ps us=[]) \/
  (¬ 4096<us.length/\pmB ws ps=false/\auC ws ps us=1/\auW ws ps us=[]/\auP ws ps us=[]) \/
  (¬ 4096<us.length/\pmB ws ps=true/\upsB us=false/\auC ws ps us=1/\auW ws ps us=[]/\auP ws ps us=[]) \/
  (¬ 4096<us.length/\pmB ws ps=true/\upsB us=true/\¬ ps.length=0/\auC ws ps us=15/\auW ws ps us=ws/\auP ws ps us=ps) \/
  (¬ 4096<us.length/\pmB ws ps=true/\upsB us=true/\ps.length=0/\auC ws ps us=0/\auW ws ps us=apW ws us/\auP ws ps us=[]):=by
 unfold auC auW auP auB
 by_cases c:4096<us.length
 ·simp[c]
 ·cases h1:pmB ws ps with
  | false=>simp[c]
  | true =>
   cases h2:upsB us with
   | false=>simp[c]
   | true =>
    by_cases h3:ps.length=0
    ·have:ps=[]:=List.eq_nil_of_length_eq_zero h3;simp[c,this]
    ·have h4:¬ ps=[]:=fun e=>h3 (by rw[e];rfl)
     simp[c,h4]
theorem yalb(us:List Se):yagv us=upsB us:=by
 unfold yagv upsB upB;simp only[decide_eq_true_eq]
structure ApI(w wr:World)(X lo:Nat)(vW vP:Value)(n:Nat)(xs:List Int):Prop where
 words:Row wr 3 1 lo X vW n (zdb xs)
 pend:Row wr 138 3 lo X vP 0 []
 box:wr.heap[X]?=some (.cells #[vW,vP] 26 (0,0))
 res:wr.heap[w.heap.size+1]?=some (.cells #[.N,.N] 26 (0,0))
 below:zB w wr
 size:X+1<=wr.heap.size
theorem ApI.grow{w wr w':World}{X lo:Nat}{vW vP:Value}{n:Nat}{xs:List Int}(h:ApI w wr X lo vW vP n xs)(hb:zB wr w'):ApI w w' X lo vW vP n xs:=by
 obtain⟨h1,h2,h3,h4,h5,h6⟩:=h;have hs:=hb.size;exact⟨h1.below hb (by omega),h2.below hb (by omega),(hb.block _ (by omega)).trans h3,(hb.block _ ((Array.getElem?_eq_some_iff.1 h4).1)).trans h4,zab h5 hb h5.size,by omega⟩
theorem ApI.hit{w wr:World}{X lo:Nat}{b n cap:Nat}{vP:Value}{m:Nat}{xs:List Int}(h:ApI w wr X lo (.slice (some ⟨b,0,none⟩) n cap) vP m xs)(hlo:w.heap.size+2<=lo)(hm:n=m)(j:Nat)(x:Int) :
  ApI w (wr.setCell ⟨b,j,none⟩ (.I x)) X lo (.slice (some ⟨b,0,none⟩) n cap) vP m (xs.set j x):=by
 subst hm;obtain⟨h1,h2,h3,h4,h5,h6⟩:=h
 obtain⟨_,hb1,hb2,_⟩:=h1.at
 refine⟨?_,?_,?_,?_,?_,?_⟩
 ·rw[<- zho];exact h1.stored _ _
 ·rcases h2.shape with ⟨rfl,_,_⟩ | ⟨b',c',rfl,_,_⟩
  ·exact Row.nil _ _ _ _ _
  ·refine h2.setOther ?_ _;intro e;simp[Value.ownBlock]at e;subst e;have e1:=h1.1;have e2:=h2.1
   rcases e1.2 with ⟨q,_⟩ | ⟨g,cp,cur,q,_,hg,_⟩
   ·cases q
   ·rcases e2.2 with ⟨q',_⟩ | ⟨g',cp',cur',q',_,hg',_⟩
    ·cases q'
    ·cases q
     cases q'
     rw[hg]at hg';injection hg' with hg';injection hg' with _ hg' _;exact absurd hg' (by decide)
 ·rw[Below.heap_setCell _ _ _ _ (by simp only;omega)];exact h3
 ·rw[Below.heap_setCell _ _ _ _ (by simp only;omega)];exact h4
 ·exact h5.setCell (by simp only;omega) _
 ·simpa[World.setCell]using h6
theorem zib(v vL:Value)(ws:List Int)(ps:List St)(us:List Se)(w:World)(h:RdPm w v ws ps)(hL:RdE w vL us)(hw:ws.length<=1048576)(hp:ps.length<=1048576)(hu:us.length<=1048576) :
  zC 19 #[v,vL] w fun e w'=>∃ v',e=.returned (.tuple #[v',.I (auC ws ps us)])/\RowPm w' w.heap.size w'.heap.size v' (auW ws ps us) (auP ws ps us)/\zB w w':=by
 have HR:=zaa h;have HL:=zaa hL;have LO:=zaa (fun w1 (hb:zB w w1)=>zdn v ws ps w1 (h.below hb) hw hp);have LU:=zaa (fun w1 (hb:zB w w1)=>zoj vL us w1 (Rd.below hL hb) hu);have LC:=zaa (fun w1 (hb:zB w w1)=>yadg v ws ps w1 (h.below hb) (by omega) (by omega));rw[yalb]at LU
 have LUB:Hid (∀ {a b:World},zB a b->zB a b):=fun h=>h
 obtain⟨vW,vP,rfl,h1,h2⟩:=h;obtain⟨aW,cW,rfl,_⟩:=h1.shape;obtain⟨aP,cP,rfl,_⟩:=h2.shape;obtain⟨aL,cL,rfl,_,hcL⟩:=hL.shape;have HC:=zaa hcL;clear h1 h2 hL hcL
 obtain⟨W,hW⟩:=zE ((w.alloc (.cells #[.slice aW ws.length cW,.slice aP ps.length cP] 26)).alloc (.cells #[.N,.N] 26))
 have BW:Hid (zB w W):=by
  rw[hW]
  repeat (refine Below.alloc ?_ (by simp<;>omega) _)
  exact zR
 have hz:W.heap.size=w.heap.size+2:=by rw[hW];simp
 have VA:Hid (W.heap[w.heap.size]?=some (.cells #[.slice aW ws.length cW,.slice aP ps.length cP] 26 (0,0))):=by rw[hW];exact zal (zah rfl)
 have VR:Hid (W.heap[w.heap.size+1]?=some (.cells #[.N,.N] 26 (0,0))):=by rw[hW];exact zah (by simp)
 rcases yamy ws ps us with ⟨c1,e1,e2,e3⟩ | ⟨c1,c2,e1,e2,e3⟩ | ⟨c1,c2,c3,e1,e2,e3⟩ | ⟨c1,c2,c3,c4,e1,e2,e3⟩ | ⟨c1,c2,c3,c4,e1,e2,e3⟩
 ·rw[e1,e2,e3]
  have c1':(us.length:Int)>4096:=by omega
  clear e1 e2 e3 c1;go_enter Tryz.func19,Tryz.ntmps19;go_wp2;refine bodyPost_ret (v:=.tuple #[.agg #[.N,.N],.I 2]) (by simp[results,Tryz.results19,go_sem]) rfl ?_;refine⟨_,rfl,RowPm.zero _ _ _,?_⟩
  repeat (first | exact zR | refine Below.alloc ?_ (by simp<;>omega) _ | refine Below.setCell ?_ (by simp only;omega) _)
 ·rw[e1,e2,e3]
  have c1':¬ (us.length:Int)>4096:=by omega
  rw[c2]at LO;clear e1 e2 e3 c1 c2;go_enter Tryz.func19,Tryz.ntmps19;obtain⟨x0,x1,_,_⟩:=zac VA.o;rw[hW]at x0 x1;go_wp2_with fail;rw[<- hW];clear hW x0 x1;refine(LO.o _ BW.o).mono ?_;rintro e w1 ⟨rfl,hb1⟩;have B1:=zaa (zab BW.o hb1 (by omega));have V1:=zaa ((hb1.block (w.heap.size+1) (by omega)).trans VR.o);have z1:W.heap.size<=w1.heap.size:=hb1.size;clear hb1;obtain⟨t1,t2,t3,t4⟩:=zac V1.o;go_wp2;refine bodyPost_ret (v:=.tuple #[.agg #[.N,.N],.I 1]) (by simp[results,Tryz.results19,go_sem,t1,t2]) rfl ?_;exact⟨_,rfl,RowPm.zero _ _ _,(B1.o.setCell (by simp only;omega) _).setCell (by simp only;omega) _⟩
 ·rw[e1,e2,e3]
  have c1':¬ (us.length:Int)>4096:=by omega
  rw[c2]at LO;rw[c3]at LU;clear e1 e2 e3 c1 c2 c3;go_enter Tryz.func19,Tryz.ntmps19;obtain⟨x0,x1,_,_⟩:=zac VA.o;rw[hW]at x0 x1;go_wp2_with fail;rw[<- hW];clear hW x0 x1;refine(LO.o _ BW.o).mono ?_;rintro e w1 ⟨rfl,hb1⟩;have B1:=zaa (zab BW.o hb1 (by omega));have V1:=zaa ((hb1.block (w.heap.size+1) (by omega)).trans VR.o);have z1:W.heap.size<=w1.heap.size:=hb1.size;clear hb1;go_wp2_with fail;refine(LU.o _ B1.o).mono ?_;rintro e w2 ⟨rfl,hb2⟩;have B2:=zaa (zab B1.o (LUB.o hb2) B1.o.size);have V2:=zaa (((LUB.o hb2).block (w.heap.size+1) (by omega)).trans V1.o);clear hb2 B1 V1;have B1:=B2;have V1:=V2;clear B2 V2;obtain⟨t1,t2,t3,t4⟩:=zac V1.o;go_wp2;refine bodyPost_ret (v:=.tuple #[.agg #[.N,.N],.I 1]) (by simp[results,Tryz.results19,go_sem,t1,t2]) rfl ?_;exact⟨_,rfl,RowPm.zero _ _ _,(B1.o.setCell (by simp only;omega) _).setCell (by simp only;omega) _⟩
 ·rw[e1,e2,e3]
  have c1':¬ (us.length:Int)>4096:=by omega
  rw[c2]at LO;rw[c3]at LU;obtain⟨l336,l400⟩:=zed c2;have UP:=zaa (of_decide_eq_true c3:∀ k (h:k<us.length),(48<=us[k].at_/\us[k].at_<336)/\0<=us[k].val/\us[k].val<1099511627776);have L336:=zaa l336;clear e1 e2 e3 c2 c3 l336;go_enter Tryz.func19,Tryz.ntmps19;obtain⟨x0,x1,_,_⟩:=zac VA.o;rw[hW]at x0 x1;go_wp2_with fail;rw[<- hW];clear hW x0 x1;refine(LO.o _ BW.o).mono ?_;rintro e w1 ⟨rfl,hb1⟩;have B1:=zaa (zab BW.o hb1 (by omega));have U1:=zaa ((hb1.block w.heap.size (by omega)).trans VA.o);have V1:=zaa ((hb1.block (w.heap.size+1) (by omega)).trans VR.o);have z1:W.heap.size<=w1.heap.size:=hb1.size;clear hb1;go_wp2_with fail;refine(LU.o _ B1.o).mono ?_;rintro e w2 ⟨rfl,hb2⟩;have B2:=zaa (zab B1.o (LUB.o hb2) B1.o.size);have U2:=zaa (((LUB.o hb2).block w.heap.size (by omega)).trans U1.o);have V2:=zaa (((LUB.o hb2).block (w.heap.size+1) (by omega)).trans V1.o);have z2:w1.heap.size<=w2.heap.size:=(LUB.o hb2).size;clear hb2 B1 V1 U1;obtain⟨x0,x1,_,_⟩:=zac U2.o;go_wp2_with fail;refine(LC.o _ B2.o).mono ?_;rintro e w3 ⟨v3,rfl,hr3,hb3⟩;obtain⟨vW3,vP3,rfl,r1,r2⟩:=hr3;obtain⟨aW3,cW3,rfl⟩:=RdI.form (show RdI _ _ ws from r1.rd) rfl;obtain⟨aP3,cP3,rfl⟩:=RdS.form (show RdS _ _ ps from r2.rd) rfl;have R1:=zaa r1;have R2:=zaa r2;have B3:=zaa (zab B2.o hb3 B2.o.size);have V3:=zaa ((hb3.block (w.heap.size+1) (by omega)).trans V2.o);have z3:w2.heap.size<=w3.heap.size:=hb3.size;clear hb3 r1 r2 B2 V2 U2 x0 x1
  have pp:(ps.length:Int)>0:=by omega
  obtain⟨t1,t2,t3,t4⟩:=zac (zal (o:=.cells #[.slice aW3 ws.length cW3,.slice aP3 ps.length cP3] 26) V3.o);go_wp2;refine bodyPost_ret (v:=.tuple #[.agg #[.slice aW3 ws.length cW3,.slice aP3 ps.length cP3],.I 15]) (by simp[results,Tryz.results19,go_sem,t1,t2]) rfl ?_;refine⟨_,rfl,⟨_,_,rfl,?_,?_⟩,?_⟩
  ·refine((R1.o.alloc zL (.cells #[.slice aW3 ws.length cW3,.slice aP3 ps.length cP3] 26)).same fun b h1 h2=>?_).wide (by omega) (by simp[World.setCell]);rw[Below.heap_setCell _ _ _ _ (by simp only;omega),Below.heap_setCell _ _ _ _ (by simp only;omega)]
  ·refine((R2.o.alloc zL (.cells #[.slice aW3 ws.length cW3,.slice aP3 ps.length cP3] 26)).same fun b h1 h2=>?_).wide (by omega) (by simp[World.setCell]);rw[Below.heap_setCell _ _ _ _ (by simp only;omega),Below.heap_setCell _ _ _ _ (by simp only;omega)]
  ·repeat (first | exact B3.o | exact B3.o.alloc B3.o.size _ | refine Below.setCell ?_ (by simp only;omega) _)
 ·rw[e1,e2,e3]
  have c1':¬ (us.length:Int)>4096:=by omega
  have C4:=zaa c4;clear c4;rw[c2]at LO;rw[c3]at LU;obtain⟨l336,l400⟩:=zed c2;have UP:=zaa (of_decide_eq_true c3:∀ k (h:k<us.length),(48<=us[k].at_/\us[k].at_<336)/\0<=us[k].val/\us[k].val<1099511627776);have L336:=zaa l336;clear e1 e2 e3 c2 c3 l336;go_enter Tryz.func19,Tryz.ntmps19;obtain⟨x0,x1,_,_⟩:=zac VA.o;rw[hW]at x0 x1;go_wp2_with fail;rw[<- hW];clear hW x0 x1;refine(LO.o _ BW.o).mono ?_;rintro e w1 ⟨rfl,hb1⟩;have B1:=zaa (zab BW.o hb1 (by omega));have U1:=zaa ((hb1.block w.heap.size (by omega)).trans VA.o);have V1:=zaa ((hb1.block (w.heap.size+1) (by omega)).trans VR.o);have z1:W.heap.size<=w1.heap.size:=hb1.size;clear hb1;go_wp2_with fail;refine(LU.o _ B1.o).mono ?_;rintro e w2 ⟨rfl,hb2⟩;have B2:=zaa (zab B1.o (LUB.o hb2) B1.o.size);have U2:=zaa (((LUB.o hb2).block w.heap.size (by omega)).trans U1.o);have V2:=zaa (((LUB.o hb2).block (w.heap.size+1) (by omega)).trans V1.o);have z2:w1.heap.size<=w2.heap.size:=(LUB.o hb2).size;clear hb2 B1 V1 U1;obtain⟨x0,x1,_,_⟩:=zac U2.o;go_wp2_with fail;refine(LC.o _ B2.o).mono ?_;rintro e w3 ⟨v3,rfl,hr3,hb3⟩;obtain⟨vW3,vP3,rfl,r1,r2⟩:=hr3;obtain⟨aW3,cW3,rfl⟩:=RdI.form (show RdI _ _ ws from r1.rd) rfl;obtain⟨aP3,cP3,rfl⟩:=RdS.form (show RdS _ _ ps from r2.rd) rfl;have R1:=zaa r1;have R2:=zaa r2;have B3:=zaa (zab B2.o hb3 B2.o.size);have V3:=zaa ((hb3.block (w.heap.size+1) (by omega)).trans V2.o);have z3:w2.heap.size<=w3.heap.size:=hb3.size;clear hb3 r1 r2 B2 V2 U2 x0 x1;have e0:ps=[]:=List.eq_nil_of_length_eq_zero C4.o;subst e0
  rcases R1.o.shape with ⟨_,e5,_⟩ | ⟨b,c5,e5,hc5,_⟩
  ·have:=L336.o;omega
  cases e5
  have START:Hid (ApI w (w3.alloc (.cells #[.slice (some ⟨b,0,none⟩) ws.length cW3,.slice aP3 0 cP3] 26)) w3.heap.size w2.heap.size (.slice (some ⟨b,0,none⟩) ws.length cW3) (.slice aP3 0 cP3) ws.length (apW ws (us.take 0))) :=
   ⟨R1.o.alloc zL _,R2.o.alloc zL _,zah rfl,zal V3.o,B3.o.alloc B3.o.size _,by simp⟩
  obtain⟨x5,x6,x7,x8⟩:=zac START.o.box;simp only[List.length_nil];clear R1 R2 V3 B3 C4;go_wp2
  go_loopg [8,31] us.length (fun g _ i wr=>∃ k:Nat,k+g=us.length/\i=.I k/\Hid (ApI w wr w3.heap.size w2.heap.size (.slice (some ⟨b,0,none⟩) ws.length cW3) (.slice aP3 0 cP3) ws.length (apW ws (us.take k))))
  case atStart=>exact⟨0,by omega,rfl,START⟩
  case round =>
   obtain⟨k,hk,rfl,I⟩:=hrel;clear START x5 x6 x7 x8
   have k0:(0:Int)<=(k:Int):=by omega
   have NX:Hid (∀ h:k<us.length,apW ws (us.take (k+1))=(apW ws (us.take k)).set us[k].at_.toNat us[k].val):=fun h=>yaoo ws us k h
   have AL:=yafi ws (us.take k)
   by_cases hlt:k<us.length
   ·obtain⟨bL,oL,rfl,hblL,hcellL⟩:=HC.o (by omega);obtain⟨a0,a1⟩:=hcellL k hlt;have d0:=(I.o.below.cell (p:=⟨bL,oL+k*2,none⟩) hblL).trans a0;have d1:=(I.o.below.cell (p:=⟨bL,oL+k*2+1,none⟩) hblL).trans a1
    have k1:(k:Int)<(us.length:Int):=by omega
    obtain⟨⟨u0,u1⟩,-⟩:=UP.o k hlt;have NXk:=zaa (NX.o hlt)
    have g24:gk-1<gk:=by omega
    have hk':(k+1)+(gk-1)=us.length:=by omega
    clear a0 a1 hcellL NX;generalize us[k]=x at *;obtain⟨xa,xv⟩:=x;simp only at d0 d1 u0 u1 NXk
    obtain⟨j,rfl⟩:∃ j:Nat,xa=(j:Int):=⟨xa.toNat,by omega⟩
    have j0:(0:Int)<=(j:Int):=by omega
    have j1:(j:Int)<(ws.length:Int):=by have:=L336.o;omega
    obtain⟨-,_,_,_,hfr,hcl⟩:=I.o.words.at
    have g0:=hfr j;have g1:=(hcl j (by omega)).trans (zcp _ j (by omega));obtain⟨s1,s2,_,_⟩:=zac I.o.box;rw[Int.toNat_natCast]at NXk;have I1:=zaa ((I.o.hit (by omega) rfl j xv).grow (zR.alloc zL (.cells #[.I (j:Int),.I xv] 104)));rw[<- NXk.o]at I1;obtain⟨q1,q2,_,_⟩:=zac (zal (o:=.cells #[.I (j:Int),.I xv] 104) I.o.box)
    obtain⟨-,_,_,_,hfr2,hcl2⟩:=(I.o.words.alloc (by have:=I.o.size;omega) (.cells #[.I (j:Int),.I xv] 104)).at
    have o0:=hfr2 j;have o1:=(hcl2 j (by omega)).trans (zcp _ j (by omega));clear hfr hcl hfr2 hcl2 I NXk;go_wp2
    go_roundg (gk-1)
    case measure=>exact g24
    case rel=>exact⟨k+1,hk',by go_num,I1⟩
   ·obtain rfl:k=us.length:=by omega
    rw[List.take_length]at I;obtain⟨t1,t2,t3,t4⟩:=zac I.o.res;obtain⟨s1,s2,_,_⟩:=zac I.o.box;have hsz:=I.o.size;clear NX AL;go_wp2;have I2:=I.o;refine bodyPost_ret (v:=.tuple #[.agg #[.slice (some ⟨b,0,none⟩) ws.length cW3,.slice aP3 0 cP3],.I 0]) (by simp[results,Tryz.results19,go_sem,t1,t2]) rfl ?_;refine⟨_,rfl,⟨_,_,rfl,?_,?_⟩,(I2.below.setCell (by simp only;omega) _).setCell (by simp only;omega) _⟩
    ·rw[yafi];refine(I2.words.same fun b h1 h2=>?_).wide (by omega) (by simp;omega);rw[Below.heap_setCell _ _ _ _ (by simp only;omega),Below.heap_setCell _ _ _ _ (by simp only;omega)]
    ·refine(I2.pend.same fun b h1 h2=>?_).wide (by omega) (by simp;omega);rw[Below.heap_setCell _ _ _ _ (by simp only;omega),Below.heap_setCell _ _ _ _ (by simp only;omega)]
end Go.Proofs.YtogcbbkhnpmgeaaGreatDoor

namespace Go.Proofs.YtogcbbkhnpmgeaaGreatDoor
theorem zuh:∀ (us:List Se) (ls:List Int),(∀ x∈ls,zaz x=true)->(∀ u∈us,0<=u.val/\u.val<1099511627776)->∀ x∈zbu ls us,zaz x=true
 | [],ls,h,_=>h
 | u::us,ls,h,k=>by
  rw[zfy];refine zuh us _ (fun x hx=>?_) (fun v hv=>k v (List.mem_cons_of_mem _ hv))
  rcases List.mem_or_eq_of_mem_set hx with q | rfl
  ·exact h x q
  ·exact decide_eq_true (k u List.mem_cons_self)
end Go.Proofs.YtogcbbkhnpmgeaaGreatDoor

namespace Go.Proofs.YtogcbbkhnpmgeaaGreatDoor
theorem zzk{ls es:List Int}{ns ns':List Ino}{ds ds':List Den}{us:List Se}(h:Idle ls es ns ds)(ui:UpIn us)(ul:us.length<=16)(uv:Wv us)(W:Wi (zbu ls us) ns' ds') :
  auC ls [] us=0/\auW ls [] us=zbu ls us/\auP ls [] us=[]/\pmB (zbu ls us) []=true/\riC (zbu ls us) []=0/\riN (zbu ls us) []=ns'/\riD (zbu ls us) []=ds':=by
 have up:upsB us=true:=decide_eq_true (fun j hj=>by have a:=ui _ (List.getElem_mem hj);have b:=uv _ (List.getElem_mem hj);omega)
 have ab:auB ls [] us=true:=by unfold auB;rw[h.pm,up];rfl
 have pw:pmB (zbu ls us) []=true:=ziq.2 ⟨W.len,by simp,zuh us ls (ziq.1 h.pm).2.2.1 uv,fun p hp=>by cases hp⟩
 have c:riC (zbu ls us) []=0:=by unfold riC;rw[if_pos pw,if_pos (show riB (zbz (zbu ls us) [])=true from W.ri)]
 refine⟨?_,?_,?_,pw,c,?_,?_⟩
 ·unfold auC;rw[if_neg (by omega),if_pos ab];rfl
 ·unfold auW;rw[if_neg (by omega),if_pos ab];rfl
 ·unfold auP;rw[if_neg (by omega),if_pos ab]
 ·unfold riN;rw[if_pos c];exact W.inos
 ·unfold riD;rw[if_pos c];exact W.dens
theorem yaed{ws:List Ino}{i:Nat}{x:Ino}(hx:x.kind=(zam ws i).kind)(z:Int):zai (ws.set i x) z=zai ws z:=by
 unfold zai;rw[List.getD_eq_getElem?_getD,List.getD_eq_getElem?_getD]
 by_cases e:i=z.toNat
 ·subst e
  by_cases h:z.toNat<ws.length
  ·rw[List.getElem?_set_self h,List.getElem?_eq_getElem h]
   show x.kind=_
   rw[hx,zbj h];rfl
  ·rw[List.getElem?_eq_none (by rw[List.length_set];omega),List.getElem?_eq_none (by omega)]
 ·rw[List.getElem?_set_ne e]
end Go.Proofs.YtogcbbkhnpmgeaaGreatDoor

namespace Go.Proofs.YtogcbbkhnpmgeaaGreatDoor
theorem yael:∀ (us:List Se) (ls:List Int),UpIn us->wdI (zbu ls us) 8=wdI ls 8
 | [],_,_=>rfl
 | u::us,ls,h=>by
  rw[zfy,yael us _ (fun v hv=>h v (List.mem_cons_of_mem _ hv))];have q:=h u List.mem_cons_self;unfold wdI;rw[List.getD_eq_getElem?_getD,List.getD_eq_getElem?_getD,List.getElem?_set_ne (by omega)]
theorem yami{ls es:List Int}{ns ns':List Ino}{ds ds':List Den}{us:List Se}(h:Idle ls es ns ds)(ui:UpIn us)(ul:us.length<=16)(uv:Wv us)(W:Wi (zbu ls us) ns' ds'):Idle (zbu ls us) es ns' ds' :=
 ⟨W,(yael us ls ui).trans h.c0,(zzk h ui ul uv W).2.2.2.1,h.bk⟩
end Go.Proofs.YtogcbbkhnpmgeaaGreatDoor

namespace Go.Proofs.YtogcbbkhnpmgeaaGreatDoor
theorem yaho{k:Nat}(hk:312<=k):∀ (us:List Se) (ls:List Int),UpIn us->(zbu ls us)[k]?=ls[k]?
 | [],_,_=>rfl
 | u::us,ls,h=>by
  rw[zfy,yaho hk us _ (fun v hv=>h v (List.mem_cons_of_mem _ hv))];have q:=h u List.mem_cons_self;rw[List.getElem?_set_ne (by omega)]
theorem yasc{ls es:List Int}{us:List Se}(ui:UpIn us){e:Int}(he:0<=e):pgV (zbu ls us) [] es [] e=pgV ls [] es [] e:=by
 unfold pgV
 by_cases c:e%4=1
 ·rw[if_pos c,if_pos c]
  show((zbu ls us)[(312+e/4).toNat]?.getD 0)=(ls[(312+e/4).toNat]?.getD 0)
  rw[yaho (by omega) us ls ui]
 ·rw[if_neg c,if_neg c]
theorem yarp{x:Ino}(h:zdp x=true){j:Nat}(hj:j<8):0<=x.map.getD j 0/\(x.size<=(j:Int)->x.map.getD j 0=0):=by
 have m:=zhb (zbr h).2.2.2.1 j hj;unfold zpp at m;rw[Bool.and_eq_true]at m;have t:=zdv m.1;refine⟨t.1,fun hs=>?_⟩;rw[Bool.or_eq_true]at m
 rcases m.2 with q | q
 ·simpa using q
 ·have:=of_decide_eq_true q;omega
theorem yagr{ns ns':List Ino}{ds:List Den}(hk:∀ z,zai ns' z=zai ns z):∀ (xs:List ByteArray) (z:Int),wk ns' ds z xs=wk ns ds z xs
 | [],_=>rfl
 | n::xs,z=>by
  by_cases q:zai ns z=2
  ·cases e:zbs ds z n with
   | none=>rw[ziz q e,ziz ((hk z).trans q) e]
   | some j=>rw[zja q e,zja ((hk z).trans q) e];exact yagr hk xs _
  ·rw[zgt q,zgt (by rw[hk];exact q)]
theorem yart{ns ns':List Ino}{ds:List Den}{s:ByteArray}(hk:∀ z,zai ns' z=zai ns z):flI ns' ds s=flI ns ds s:=by
 unfold flI lkI;rw[yagr hk,hk]
theorem zxc{ls es:List Int}{ns:List Ino}{ds:List Den}{s:ByteArray}(h:Idle ls es ns ds)(hs:s.size<=65536):psR ls [] es [] s=psI ls [] es [] ns ds s:=by
 unfold psR;rw[if_neg (by omega),if_pos (by unfold dvB;rw[h.pm,h.bk,show riB (zbz ls [])=true from h.wi.ri];rfl)];rw[show zbb (zbz ls []) 16=ns from h.wi.inos,show zbc (zbz ls []) 24=ds from h.wi.dens]
theorem zjn(ls es:List Int)(x:Ino)(k:Nat):(pgL ls [] es [] x k).length=k:=by simp[pgL]
theorem yaph{ls es:List Int}{x:Ino}{k j:Nat}(hj:j<(pgL ls [] es [] x k).length):(pgL ls [] es [] x k)[j]=pgV ls [] es [] (x.map.getD j 0):=by simp[pgL]
theorem yanv{ls es:List Int}{ns:List Ino}{ds:List Den}{s:ByteArray}{size:Int}{us:List Se}(h:Idle ls es ns ds)(hs:s.size<=65536)(e:cuI ns ds s size=(us,0)) :
  us.length<=16/\(auC ls [] us=0/\auW ls [] us=zbu ls us/\auP ls [] us=[])/\∃ L L':List Int,psR ls [] es [] s=(L,0)/\psR (zbu ls us) [] es [] s=(L',0)/\(L'.length:Int)=size/\L.length<=8/\L'.length<=8/\∀ j (hj:j<L'.length),L'[j]=if hl:j<L.length then L[j]else 0:=by
 obtain⟨ui,ul,i,n,i16,n8,ef,es',W⟩:=yaoy h.wi e;have uv:=(yaov h.wi.img e).2.2
 have fz:(flI ns ds s).2=0:=by
  unfold cuI at e
  by_cases c:(flI ns ds s).2=0
  ·exact c
  ·rw[if_neg c]at e;exact(Prod.mk.inj e).2
 obtain⟨a1,a2,a3,-⟩:=zzk h ui (by omega) uv W;have I:=yami h ui (by omega) uv W
 have hi:i<ns.length:=by have:=h.wi.img.l16;omega
 have kk:∀ z,zai (ns.set i (ztd (zam ns i).kind (n:Int) (zam ns i).links (zwn (zam ns i).map n))) z=zai ns z:=fun z=>yaed (x:=ztd (zam ns i).kind (n:Int) (zam ns i).links (zwn (zam ns i).map n)) (ws:=ns) (i:=i) rfl z
 have ff:=yart (ds:=ds) (s:=s) kk
 have ix:zam (ns.set i (ztd (zam ns i).kind (n:Int) (zam ns i).links (zwn (zam ns i).map n))) i=ztd (zam ns i).kind (n:Int) (zam ns i).links (zwn (zam ns i).map n):=by rw[zbj (by rw[List.length_set];exact hi),List.getElem_set_self]
 have ok:=h.wi.img.ok i i16;have sz:=(zbr ok).2.1
 have p1:psR ls [] es [] s=(pgL ls [] es [] (zam ns i) (zam ns i).size.toNat,0):=by
  rw[zxc h hs];unfold psI zcz;rw[if_pos fz,ef,Int.toNat_natCast]
 have p2:psR (zbu ls us) [] es [] s=(pgL (zbu ls us) [] es [] (ztd (zam ns i).kind (n:Int) (zam ns i).links (zwn (zam ns i).map n)) n,0):=by
  rw[zxc I hs];unfold psI zcz;rw[ff,if_pos fz,ef,Int.toNat_natCast,ix];rfl
 refine⟨by omega,⟨a1,a2,a3⟩,_,_,p1,p2,?_,?_,?_,fun j hj=>?_⟩
 ·rw[zjn];exact es'.symm
 ·rw[zjn];omega
 ·rw[zjn];omega
 ·have jn:j<n:=by rw[zjn]at hj;exact hj
  rw[yaph hj,zjh (zsg _ _),zxl _ _ _ (by omega),if_pos jn];have en:=yarp ok (j:=j) (by omega);rw[yasc ui en.1]
  split
  ·rename_i hl;rw[yaph hl]
  ·rename_i hl;rw[zjn]at hl;rw[en.2 (by omega)];rfl
theorem yamr{ns:List Ino}{ds:List Den}{s:ByteArray}{size:Int}(h0:0<=size/\size<=8):(cuI ns ds s size).2=(flI ns ds s).2:=by
 unfold cuI
 by_cases c:(flI ns ds s).2=0
 ·rw[if_pos c];unfold cuF;rw[if_pos h0,c]
 ·rw[if_neg c]
theorem yaml{ls es:List Int}{ns:List Ino}{ds:List Den}{s:ByteArray}:(psI ls [] es [] ns ds s).2=(flI ns ds s).2:=by
 unfold psI
 by_cases c:(flI ns ds s).2=0
 ·rw[if_pos c,c]
 ·rw[if_neg c]
end Go.Proofs.YtogcbbkhnpmgeaaGreatDoor
