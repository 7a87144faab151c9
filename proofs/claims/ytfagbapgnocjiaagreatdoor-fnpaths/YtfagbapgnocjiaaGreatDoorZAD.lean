import Derived.Test.YtfagbapgnocjiaaGreatDoorZAA
import Derived.Deep.RegionLaw
import Derived.ProofKit
import Derived.OpenShut
import Derived.ShutString
import Derived.ChangeOld
import Derived.Lib.SmallJoins
import Derived.Deep.Slices
import Derived.Deep.Strs
import Derived.BigRegion
import Derived.Deep.DeepCutAuto
set_option maxRecDepth 100000
set_option maxHeartbeats 4000000
namespace Go.Proofs.YtfagbapgnocjiaaGreatDoor
open Go.RowKit
theorem zkv:(Tryz.prog.info? 208).map (fun i=>(i.zero,i.size,i.bytes))=some (some (.agg #[.I 0,.I 0]),2,16):=by kernel_rfl
def pmB(ws:List Int)(ps:List St):Bool:=decide (ws.length=336/\ps.length<=400/\(∀ k (h:k<ws.length),zbz ws[k]=true)/\∀ k (h:k<ps.length),zvh ps[k].at_=true/\zbz ps[k].val=true)
theorem yasi{ws:List Int}{ps:List St}(h1:ws.length=336)(h2:ps.length<=400)(h3:∀ k (h:k<ws.length),zbz ws[k]=true)(h4:∀ k (h:k<ps.length),zvh ps[k].at_=true/\zbz ps[k].val=true):pmB ws ps=true:=decide_eq_true ⟨h1,h2,h3,h4⟩
theorem zhx{ws:List Int}{ps:List St}(h:pmB ws ps=true):ws.length=336/\ps.length<=400:=⟨(of_decide_eq_true h).1,(of_decide_eq_true h).2.1⟩
theorem yaad{ws:List Int}{ps:List St}(h:pmB ws ps=true)(k:Nat)(hk:k<ws.length):zbz ws[k]=true:=(of_decide_eq_true h).2.2.1 k hk
theorem zjq{ws:List Int}{ps:List St}(h:pmB ws ps=true)(k:Nat)(hk:k<ps.length):zvh ps[k].at_=true/\zbz ps[k].val=true:=(of_decide_eq_true h).2.2.2 k hk
def zpe(ws:List Int)(ps:List Se):Bool:=decide (ws.length=32/\ps.length<=400/\(∀ k (h:k<ws.length),zbz ws[k]=true)/\∀ k (h:k<ps.length),secB ps[k].at_=true/\zbz ps[k].val=true)
theorem yaoa{ws:List Int}{ps:List Se}(h1:ws.length=32)(h2:ps.length<=400)(h3:∀ k (h:k<ws.length),zbz ws[k]=true)(h4:∀ k (h:k<ps.length),secB ps[k].at_=true/\zbz ps[k].val=true):zpe ws ps=true:=decide_eq_true ⟨h1,h2,h3,h4⟩
theorem zet{ws:List Int}{ps:List Se}(h:zpe ws ps=true):ws.length=32/\ps.length<=400:=⟨(of_decide_eq_true h).1,(of_decide_eq_true h).2.1⟩
theorem yade{ws:List Int}{ps:List Se}(h:zpe ws ps=true)(k:Nat)(hk:k<ws.length):zbz ws[k]=true:=(of_decide_eq_true h).2.2.1 k hk
theorem zqd{ws:List Int}{ps:List Se}(h:zpe ws ps=true)(k:Nat)(hk:k<ps.length):secB ps[k].at_=true/\zbz ps[k].val=true:=(of_decide_eq_true h).2.2.2 k hk
def zjy(at_ d:Int)(ps:List St):Int:=ps.foldl (fun acc p=>if p.at_=at_ then p.val else acc) d
theorem zke{at_ d:Int}:∀ {ps:List St},(∀ p∈ps,¬ p.at_=at_)->zjy at_ d ps=d
 | [],_=>rfl
 | p::ps,h=>by
  show zjy at_ (if p.at_=at_ then p.val else d) ps=d
  rw[if_neg (h p (by simp))];exact zke (fun q hq=>h q (by simp[hq]))
theorem ztk(at_ d:Int)(ps qs:List St):zjy at_ d (ps++qs)=zjy at_ (zjy at_ d ps) qs:=by simp[zjy]
theorem yaef{at_ d:Int}{ps:List St}{k:Nat}(hk:k<ps.length)(h:ps[k].at_=at_)(ha:∀ j (hj:j<ps.length),k<j->¬ ps[j].at_=at_):zjy at_ d ps=ps[k].val:=by
 have e:ps=ps.take k++(ps[k]::ps.drop (k+1)):=by rw[<- List.drop_eq_getElem_cons hk,List.take_append_drop]
 conv=>lhs;rw[e]
 rw[ztk]
 show zjy at_ (if ps[k].at_=at_ then ps[k].val else _) (ps.drop (k+1))=_
 rw[if_pos h];apply zke;intro p hp;obtain⟨i,hi,rfl⟩:=List.getElem_of_mem hp;rw[List.getElem_drop];exact ha _ _ (by omega)
theorem zmo(v:Value)(ws:List Int)(ps:List St)(at_:Nat)(w:World)(h:RdPm w v ws ps)(hw:ws.length<=1048576)(hp:ps.length<=1048576)(ha:at_<ws.length) :
  zC 55 #[v,.I (at_:Int)] w fun e w'=>e=.returned (.I (zjy (at_:Int) ws[at_] ps))/\zB w w':=by
 obtain⟨vW,vP,rfl,h1,h2⟩:=h;obtain⟨aW,cW,rfl,_,hcW⟩:=h1.shape;obtain⟨aP,cP,rfl,_,hcP⟩:=h2.shape;clear h1 h2;obtain⟨bW,oW,rfl,hbW,hcellW⟩:=hcW (by omega);have hb0:zB w (w.alloc (.cells #[.slice (some ⟨bW,oW,none⟩) ws.length cW,.slice aP ps.length cP] 73)):=zR.alloc zL _;have hcw:=(hb0.cell (p:=⟨bW,oW+at_,none⟩) hbW).trans (hcellW at_ ha);clear hcW hcellW;go_enter Tryz.func55,Tryz.ntmps55;go_wp2
 go_loop [5] (fun i=>∃ k:Nat,k<=ps.length/\i=.I ((k:Int)-1)/\Hid (∀ j (h:j<ps.length),k<=j->¬ ps[j].at_=(at_:Int))) (fun i=>(intOf i+1).toNat)
 case atStart=>exact⟨ps.length,Nat.le_refl _,rfl,fun j h a=>absurd h (by omega)⟩
 case round =>
  obtain⟨k,hk,rfl,H⟩:=hrel
  cases k with
  | zero =>
   have E:=zaa (zke (d:=ws[at_]) (fun p hp=>by obtain⟨i,hi,rfl⟩:=List.getElem_of_mem hp;exact H.o i hi (by omega)));clear H hcP;go_wp2;go_ret;exact⟨zcx E.o.symm,hb0⟩
  | succ m =>
   have em:(((m+1:Nat):Int)-1)=(m:Int):=by omega
   rw[em];clear em;obtain⟨b,o,rfl,hbl,hcell⟩:=hcP (by omega);obtain⟨d0,d1,_⟩:=hcell m (by omega);have e0:=(hb0.cell (p:=⟨b,o+m*3,none⟩) hbl).trans d0;have e1:=(hb0.cell (p:=⟨b,o+m*3+1,none⟩) hbl).trans d1;clear d0 d1 hcell hcP
   have hm:m<ps.length:=by omega
   by_cases c:ps[m].at_=(at_:Int)
   ·have c':(ps[m].at_ == (at_:Int))=true:=by simpa using c
    have E:=zaa (yaef (d:=ws[at_]) hm c (fun j hj hlt=>H.o j hj (by omega)));clear H c;go_wp2;go_ret;exact⟨zcx E.o.symm,hb0⟩
   ·have c':(ps[m].at_ == (at_:Int))=false:=by simpa using c
    have C:=zaa c;clear c;go_wp2
    go_round
    case rel =>
     refine⟨m,by omega,by go_num,fun j hj hle=>?_⟩
     by_cases e:j=m
     ·subst e;exact C.o
     ·exact H.o j hj (by omega)
    case measure=>simp[intOf]<;>omega
theorem zxk(ps:List St):∀ u∈sts ps,u.oneCell'=true:=by
 intro u hu;simp only[sts,List.mem_flatMap,St.cells]at hu;obtain⟨s,_,hs⟩:=hu;simp at hs
 rcases hs with rfl|rfl|rfl<;>rfl
theorem yaas(ps:List St)(s:St):sts (ps++[s])=sts ps++s.cells:=by simp[sts]
theorem RdS.form{w:World}{v:Value}{ps:List St}(h:RdS w v ps){n:Nat}(hn:ps.length=n):∃ ao cap,v=.slice ao n cap:=by
 obtain⟨ao,cap,e,_⟩:=h.shape;exact⟨ao,cap,by rw[<- hn];exact e⟩
theorem yasa{ws:List Int}{ps:List St}(h:pmB ws ps=true):∀ j (hj:j<ps.length),0<=ps[j].at_/\ps[j].at_<336:=fun j hj=>znc (zjq h j hj).1
theorem yash(w1:World)(a x:Int)(f:Bool):Rd (w1.alloc (.cells #[.I a,.I x,.bool f] 140)) 3 (.slice (some ⟨w1.heap.size,0,none⟩) 1 1) 1 (St.cells ⟨a,x,f⟩):=by
 refine⟨rfl,_,_,rfl,⟨Nat.le_refl _,fun e=>by cases e⟩,fun _=>⟨w1.heap.size,0,rfl,by simp,fun j hj=>?_⟩⟩;obtain⟨e0,e1,e2⟩:=zaz (zai (w:=w1) (o:=.cells #[.I a,.I x,.bool f] 140) rfl);rw[Nat.zero_add]
 rcases(show j=0\/j=1\/j=2 from by omega)with rfl|rfl|rfl
 ·exact e0
 ·exact e1
 ·exact e2
theorem yahr(p:St):∀ u∈St.cells p,u.oneCell'=true:=by
 intro u hu;simp[St.cells]at hu
 rcases hu with rfl|rfl|rfl<;>rfl
def zkx(at_ d:Int)(ps:List Se):Int:=ps.foldl (fun acc p=>if p.at_=at_ then p.val else acc) d
theorem zka{at_ d:Int}:∀ {ps:List Se},(∀ p∈ps,¬ p.at_=at_)->zkx at_ d ps=d
 | [],_=>rfl
 | p::ps,h=>by
  show zkx at_ (if p.at_=at_ then p.val else d) ps=d
  rw[if_neg (h p (by simp))];exact zka (fun q hq=>h q (by simp[hq]))
theorem zvv(at_ d:Int)(ps qs:List Se):zkx at_ d (ps++qs)=zkx at_ (zkx at_ d ps) qs:=by simp[zkx]
theorem yajo{at_ d:Int}{ps:List Se}{k:Nat}(hk:k<ps.length)(h:ps[k].at_=at_)(ha:∀ j (hj:j<ps.length),k<j->¬ ps[j].at_=at_):zkx at_ d ps=ps[k].val:=by
 have e:ps=ps.take k++(ps[k]::ps.drop (k+1)):=by rw[<- List.drop_eq_getElem_cons hk,List.take_append_drop]
 conv=>lhs;rw[e]
 rw[zvv]
 show zkx at_ (if ps[k].at_=at_ then ps[k].val else _) (ps.drop (k+1))=_
 rw[if_pos h];apply zka;intro p hp;obtain⟨i,hi,rfl⟩:=List.getElem_of_mem hp;rw[List.getElem_drop];exact ha _ _ (by omega)
theorem zxz(v:Value)(ws:List Int)(ps:List Se)(at_:Nat)(w:World)(h:RdBlk w v ws ps)(hw:ws.length<=1048576)(hp:ps.length<=1048576)(ha:at_<ws.length) :
  zC 168 #[v,.I (at_:Int)] w fun e w'=>e=.returned (.I (zkx (at_:Int) ws[at_] ps))/\zB w w':=by
 obtain⟨vW,vP,rfl,h1,h2⟩:=h;obtain⟨aW,cW,rfl,_,hcW⟩:=h1.shape;obtain⟨aP,cP,rfl,_,hcP⟩:=h2.shape;clear h1 h2;obtain⟨bW,oW,rfl,hbW,hcellW⟩:=hcW (by omega);have hb0:zB w (w.alloc (.cells #[.slice (some ⟨bW,oW,none⟩) ws.length cW,.slice aP ps.length cP] 76)):=zR.alloc zL _;have hcw:=(hb0.cell (p:=⟨bW,oW+at_,none⟩) hbW).trans (hcellW at_ ha);clear hcW hcellW;go_enter Tryz.func168,Tryz.ntmps168;go_wp2
 go_loop [5] (fun i=>∃ k:Nat,k<=ps.length/\i=.I ((k:Int)-1)/\Hid (∀ j (h:j<ps.length),k<=j->¬ ps[j].at_=(at_:Int))) (fun i=>(intOf i+1).toNat)
 case atStart=>exact⟨ps.length,Nat.le_refl _,rfl,fun j h a=>absurd h (by omega)⟩
 case round =>
  obtain⟨k,hk,rfl,H⟩:=hrel
  cases k with
  | zero =>
   have E:=zaa (zka (d:=ws[at_]) (fun p hp=>by obtain⟨i,hi,rfl⟩:=List.getElem_of_mem hp;exact H.o i hi (by omega)));clear H hcP;go_wp2;go_ret;exact⟨zcx E.o.symm,hb0⟩
  | succ m =>
   have em:(((m+1:Nat):Int)-1)=(m:Int):=by omega
   rw[em];clear em;obtain⟨b,o,rfl,hbl,hcell⟩:=hcP (by omega);obtain⟨d0,d1⟩:=hcell m (by omega);have e0:=(hb0.cell (p:=⟨b,o+m*2,none⟩) hbl).trans d0;have e1:=(hb0.cell (p:=⟨b,o+m*2+1,none⟩) hbl).trans d1;clear d0 d1 hcell hcP
   have hm:m<ps.length:=by omega
   by_cases c:ps[m].at_=(at_:Int)
   ·have c':(ps[m].at_ == (at_:Int))=true:=by simpa using c
    have E:=zaa (yajo (d:=ws[at_]) hm c (fun j hj hlt=>H.o j hj (by omega)));clear H c;go_wp2;go_ret;exact⟨zcx E.o.symm,hb0⟩
   ·have c':(ps[m].at_ == (at_:Int))=false:=by simpa using c
    have C:=zaa c;clear c;go_wp2
    go_round
    case rel =>
     refine⟨m,by omega,by go_num,fun j hj hle=>?_⟩
     by_cases e:j=m
     ·subst e;exact C.o
     ·exact H.o j hj (by omega)
    case measure=>simp[intOf]<;>omega
theorem yafs(ps:List Se):∀ u∈ses ps,u.oneCell'=true:=by
 intro u hu;simp only[ses,List.mem_flatMap,Se.cells]at hu;obtain⟨s,_,hs⟩:=hu;simp at hs
 rcases hs with rfl|rfl<;>rfl
theorem yame(ps:List Se)(s:Se):ses (ps++[s])=ses ps++s.cells:=by simp[ses]
theorem RdE.form{w:World}{v:Value}{ps:List Se}(h:RdE w v ps){n:Nat}(hn:ps.length=n):∃ ao cap,v=.slice ao n cap:=by
 obtain⟨ao,cap,e,_⟩:=h.shape;exact⟨ao,cap,by rw[<- hn];exact e⟩
theorem yata(w1:World)(a x:Int):Rd (w1.alloc (.cells #[.I a,.I x] 213)) 2 (.slice (some ⟨w1.heap.size,0,none⟩) 1 1) 1 (Se.cells ⟨a,x⟩):=by
 refine⟨rfl,_,_,rfl,⟨Nat.le_refl _,fun e=>by cases e⟩,fun _=>⟨w1.heap.size,0,rfl,by simp,fun j hj=>?_⟩⟩;obtain⟨e0,e1,_,_⟩:=zad (zai (w:=w1) (o:=.cells #[.I a,.I x] 213) rfl);rw[Nat.zero_add]
 rcases(show j=0\/j=1 from by omega)with rfl|rfl
 ·exact e0
 ·exact e1
def yapn(w:World)(lo hi:Nat)(v:Value)(ws:List Int)(ps:List Se):Prop:=∃ vW vP,v=.agg #[vW,vP]/\Row w 3 1 lo hi vW ws.length (zeh ws)/\Row w 213 2 lo hi vP ps.length (ses ps)
theorem yaby(v:Value)(ws:List Int)(ps:List Se)(w:World)(h:RdBlk w v ws ps)(hw:ws.length<=2147483648)(hp:ps.length<=2147483648) :
  zC 150 #[v] w fun e w'=>∃ v',e=.returned v'/\yapn w' w.heap.size w'.heap.size v' ws ps/\zB w w':=by
 obtain⟨vW,vP,rfl,h1,h2⟩:=h;have H1:=zaa h1;have H2:=zaa h2;obtain⟨aW,cW,rfl,_⟩:=h1.shape;obtain⟨aP,cP,rfl,_⟩:=h2.shape;clear h1 h2
 have hb0:zB w (((w.alloc (.cells #[.slice aW ws.length cW,.slice aP ps.length cP] 76)).alloc (.cells #[.N,.N] 76)).alloc (.cells #[] 3)):=by
  repeat (refine Below.alloc ?_ (by simp<;>omega) _)
  exact zR
 have ho0:(((w.alloc (.cells #[.slice aW ws.length cW,.slice aP ps.length cP] 76)).alloc (.cells #[.N,.N] 76)).alloc (.cells #[] 3)).ownsRow (w.heap.size+2) 3 1 (.slice (some ⟨w.heap.size+1+1,0,none⟩) 0 0) 0 []:=by
  simpa using World.ownsRow_lit (base:=w.heap.size+2) (e:=3) (size:=1) ((w.alloc (.cells #[.slice aW ws.length cW,.slice aP ps.length cP] 76)).alloc (.cells #[.N,.N] 76)) #[] 0 (by simp) (by simp) rfl
 have HO:=zaa ho0;have HB:=zaa hb0;clear ho0 hb0;go_enter Tryz.func150,Tryz.ntmps150;go_wp2_with (at_builtin;refine zaf _ rfl (.tmp 3) (.tmp 5) 70 rfl (w.heap.size+2) 3 (.I 0) 1 8 Tryz.underlying70 zmu rfl (by decide) _ 0 [] rfl HO.o _ ws.length (zeh ws) rfl (Rd.below H1.o HB.o) (zhg ws) (by simp[maxLen];omega) (by omega) (by simp) ?_);intro v1 w1 hown1 hgr1
 have hown1:w1.ownsRow (w.heap.size+2) 3 1 v1 ws.length (zeh ws):=by simpa using hown1
 have R1:=zaa (zac hown1);obtain⟨_,a1,c1,rfl,_⟩:=(zac hown1).rd
 have hz1:w.heap.size+3<=w1.heap.size:=by have:=hgr1.size;simp at this;omega
 have V0:=(hgr1.block w.heap.size (by simp<;>omega) (by simp[Value.ownBlock]<;>omega)).trans (zak (zak (zai rfl)));have V1:=(hgr1.block (w.heap.size+1) (by simp<;>omega) (by simp[Value.ownBlock]<;>omega)).trans (zak (zai (by simp)));have B1:=HB.o.grown hgr1 (by simp<;>omega) (fun k hk=>by simp[Value.ownBlock]at hk;omega);have V0':=zak (o:=.cells #[] 213) (zlt V0 (.slice a1 ws.length c1));have V1':=zak (o:=.cells #[] 213) ((Below.heap_setCell w1 ⟨w.heap.size,0,none⟩ (.slice a1 ws.length c1) (w.heap.size+1) (by simp)).trans V1);obtain⟨x1,x2,x3,x4⟩:=zad V0;obtain⟨x5,x6,x7,x8⟩:=zad V0';have HV:=zaa (And.intro V0' V1');have hB2:=(B1.setCell (p:=⟨w.heap.size,0,none⟩) zL (.slice a1 ws.length c1)).alloc (by simp;omega) (.cells #[] 213)
 have ho2:((w1.setCell ⟨w.heap.size,0,none⟩ (.slice a1 ws.length c1)).alloc (.cells #[] 213)).ownsRow w1.heap.size 213 2 (.slice (some ⟨w1.heap.size,0,none⟩) 0 0) 0 []:=by
  simpa using World.ownsRow_lit (base:=w1.heap.size) (e:=213) (size:=2) (w1.setCell ⟨w.heap.size,0,none⟩ (.slice a1 ws.length c1)) #[] 0 (by simp) (by simp) rfl
 have HB2:=zaa hB2;have HO2:=zaa ho2;clear hown1 hgr1 V0 V1 B1 V0' V1' hB2 ho2;go_wp2_with (at_builtin;refine zaf _ rfl (.tmp 8) (.tmp 10) 74 rfl w1.heap.size 213 (.agg #[.I 0,.I 0]) 2 16 Tryz.underlying74 zxo rfl (by decide) _ 0 [] rfl HO2.o _ ps.length (ses ps) rfl (Rd.below H2.o HB2.o) (yafs ps) (by simp[maxLen];omega) (by omega) (by simp) ?_);intro v2 w2 hown2 hgr2
 have hown2:w2.ownsRow w1.heap.size 213 2 v2 ps.length (ses ps):=by simpa using hown2
 have R2:=zaa (zac hown2);obtain⟨_,a2,c2,rfl,_⟩:=(zac hown2).rd
 have hz2:w1.heap.size+1<=w2.heap.size:=by have:=hgr2.size;simp at this;omega
 have V0:=(hgr2.block w.heap.size (by simp<;>omega) (by simp[Value.ownBlock];omega)).trans HV.o.1;have V1:=(hgr2.block (w.heap.size+1) (by simp<;>omega) (by simp[Value.ownBlock];omega)).trans HV.o.2;have B2:=zaa (HB2.o.grown hgr2 (by simp<;>omega) (fun k hk=>by simp[Value.ownBlock]at hk;omega))
 have K2:Hid (∀ b,w.heap.size+2<=b->b<w1.heap.size->w2.heap[b]?=w1.heap[b]?):=by
  intro b h1 h2;rw[hgr2.block b (by simp<;>omega) (by simp[Value.ownBlock];omega),zev,if_neg (by simp;omega),Below.heap_setCell _ _ _ _ (by simp only;omega)]
 obtain⟨z1,z2,z3,z4⟩:=zad V0;obtain⟨t1,t2,t3,t4⟩:=zad V1;clear hown2 hgr2 V0 V1;go_wp2;refine bodyPost_ret (v:=.agg #[.slice a1 ws.length c1,.slice a2 ps.length c2]) (by simp[results,Tryz.results150,go_sem,t1,t2]) rfl ?_;refine⟨_,rfl,⟨_,_,rfl,(R1.o.same fun b h1 h2=>?_).wide (by omega) (by simp;omega),(R2.o.same fun b h1 h2=>?_).wide (by omega) (by simp)⟩,?_⟩
 ·rw[Below.heap_setCell _ _ _ _ (by simp only;omega),Below.heap_setCell _ _ _ _ (by simp only;omega),Below.heap_setCell _ _ _ _ (by simp only;omega),K2.o b h1 h2]
 ·rw[Below.heap_setCell _ _ _ _ (by simp only;omega),Below.heap_setCell _ _ _ _ (by simp only;omega),Below.heap_setCell _ _ _ _ (by simp only;omega)]
 ·exact((B2.o.setCell (by simp only;omega) _).setCell (by simp only;omega) _).setCell (by simp only;omega) _
theorem zps(v:Value)(ws:List Int)(ps:List Se)(w:World)(h:RdBlk w v ws ps)(hw:ws.length<=2147483648)(hp:ps.length<=2147483648) :
  zC 150 #[v] w fun e w'=>∃ v',e=.returned v'/\RowBlk w' w.heap.size w'.heap.size v' ws ps/\zB w w' :=
 (yaby v ws ps w h hw hp).mono fun _ _ ⟨v',he,⟨vW,vP,hv,h1,h2⟩,hb⟩=>⟨v',he,⟨vW,vP,hv,h1.z,h2⟩,hb⟩
def Mi.cells(s:Mi):List Value:=[.I s.kind,.I s.at_,.I s.val]
def mis(ps:List Mi):List Value:=ps.flatMap Mi.cells
theorem Mi.cells_len(s:Mi):s.cells.length=3:=rfl
theorem yajf(ps:List Mi)(k:Nat)(h:k<ps.length):(mis ps)[k*3]?=some (.I ps[k].kind):=zbe _ 3 Mi.cells_len ps k 0 h (by omega)
theorem yaek(ps:List Mi)(k:Nat)(h:k<ps.length):(mis ps)[k*3+1]?=some (.I ps[k].at_):=zbe _ 3 Mi.cells_len ps k 1 h (by omega)
theorem yadj(ps:List Mi)(k:Nat)(h:k<ps.length):(mis ps)[k*3+2]?=some (.I ps[k].val):=zbe _ 3 Mi.cells_len ps k 2 h (by omega)
def RdM(w:World)(v:Value)(ps:List Mi):Prop:=Rd w 3 v ps.length (mis ps)
theorem RdM.shape{w:World}{v:Value}{ps:List Mi}(h:RdM w v ps):∃ ao cap,v=.slice ao ps.length cap/\ps.length<=cap/\(0<ps.length->∃ b o,ao=some ⟨b,o,none⟩/\b<w.heap.size /\
  ∀ k (h:k<ps.length),w.cell? ⟨b,o+k*3,none⟩=some (.I ps[k].kind)/\w.cell? ⟨b,o+k*3+1,none⟩=some (.I ps[k].at_)/\w.cell? ⟨b,o+k*3+2,none⟩=some (.I ps[k].val)):=by
 obtain⟨_,ao,cap,rfl,h2,h3⟩:=h;refine⟨ao,cap,rfl,h2.1,fun hn=>?_⟩;obtain⟨b,o,rfl,hb,hc⟩:=h3 hn;exact⟨b,o,rfl,hb,fun k hk=>⟨(hc (k*3) (by omega)).trans (yajf ps k hk),(hc (k*3+1) (by omega)).trans (yaek ps k hk),(hc (k*3+2) (by omega)).trans (yadj ps k hk)⟩⟩
theorem zbr:(Tryz.prog.info? 173).map (fun i=>(i.zero,i.size,i.bytes))=some (some (.agg #[.I 0,.I 0,.I 0]),3,24):=by kernel_rfl
end Go.Proofs.YtfagbapgnocjiaaGreatDoor

namespace Go.Proofs.YtfagbapgnocjiaaGreatDoor
open Go.ChangeShapes Go.WideShapes Go.ChangeAt Go.RowKit Go.Joins
theorem own:ownKnob Tryz.prog.godebug=none:=by kernel_rfl
theorem zsm:laidOutB Tryz.prog=true:=by kernel_rfl
theorem zzt:Tryz.prog.cellsOf 3=1:=by kernel_rfl
section
variable {H:Type} {enc:TypeId×Value->H} {W:World} {sp:Nat->Bool} {held:Bool} {fuel:Nat} {v:Value} {y:DataW H×List MemPlace}
end
end Go.Proofs.YtfagbapgnocjiaaGreatDoor

namespace Go.Proofs.YtfagbapgnocjiaaGreatDoor
def up(a v:Int):St:=⟨a,v,false⟩
def stM(p:St):Mi:=⟨1,p.at_,p.val⟩
def yagk(ks:List Int)(i:Nat):Bool:=(List.range i).any (fun k=>ks[k]?.getD 0/8 == ks[i]?.getD 0/8)
def nl(ks:List Int):Nat->List Mi
 | 0=>[]
 | i+1=>if yagk ks i=true then nl ks i else nl ks i++[⟨2,ks[i]?.getD 0,0⟩]
def zbg(ks:List Int):List Mi:=nl ks ks.length++[⟨3,0,0⟩]
def seg(S:List St):List Mi:=S.map stM++zbg (S.map (·.at_))
def jrn:Nat->List St->List St
 | _,[]=>[]
 | i,u::us=>⟨9+2*(i:Int),u.at_,false⟩::⟨9+2*(i:Int)+1,u.val,false⟩::jrn (i+1) us
def cnt(n:Int):List St:=[⟨8,n,false⟩]
def zht(us:List St):List Mi:=seg us++seg (cnt 0)
def zdh(us:List St):List Mi:=if us.length=0 then[]else seg (jrn 0 us)++seg (cnt (us.length:Int))++zht us
end Go.Proofs.YtfagbapgnocjiaaGreatDoor

namespace Go.Proofs.YtfagbapgnocjiaaGreatDoor
open Go.RowKit
theorem zzd(l:List Mi)(m:Mi):mis (l++[m])=mis l++m.cells:=by simp[mis]
theorem zpk(l l':List Mi):mis (l++l')=mis l++mis l':=by simp[mis]
theorem zhy(m:Mi):∀ u∈m.cells,u.oneCell'=true:=by
 intro u hu;simp[Mi.cells]at hu
 rcases hu with rfl|rfl|rfl<;>rfl
theorem zct(l:List Mi):∀ u∈mis l,u.oneCell'=true:=by
 intro u hu;simp only[mis,List.mem_flatMap]at hu;obtain⟨m,_,hm⟩:=hu;exact zhy m u hm
theorem zpi(w1:World)(k a x:Int):Rd (w1.alloc (.cells #[.I k,.I a,.I x] 173)) 3 (.slice (some ⟨w1.heap.size,0,none⟩) 1 1) 1 (Mi.cells ⟨k,a,x⟩):=by
 refine⟨rfl,_,_,rfl,⟨Nat.le_refl _,fun e=>by cases e⟩,fun _=>⟨w1.heap.size,0,rfl,by simp,fun j hj=>?_⟩⟩;obtain⟨e0,e1,e2⟩:=zaz (zai (w:=w1) (o:=.cells #[.I k,.I a,.I x] 173) rfl);rw[Nat.zero_add]
 rcases(show j=0\/j=1\/j=2 from by omega)with rfl|rfl|rfl
 ·exact e0
 ·exact e1
 ·exact e2
theorem RdM.form{w:World}{v:Value}{ps:List Mi}(h:RdM w v ps){n:Nat}(hn:ps.length=n):∃ ao cap,v=.slice ao n cap:=by
 obtain⟨ao,cap,e,_⟩:=h.shape;exact⟨ao,cap,hn ▸ e⟩
theorem yacd{w:World}{base:Nat}{e:TypeId}{size:Nat}{v:Value}{n:Nat}{xs:List Value}(h:w.ownsRow base e size v n xs)(k:Nat):(w.drewN k).ownsRow base e size v n xs:=by
 induction k with
 | zero=>exact h
 | succ k ih=>exact ih
theorem zyn{B:Nat}{a w:World}(h:Below B a w)(n:Nat):Below B a (w.drewN n):=by
 induction n with
 | zero=>exact h
 | succ n ih=>exact⟨ih.os,ih.tape,ih.output,ih.size,ih.block⟩
theorem yace(w:World)(n:Nat):(w.drewN n).heap.size=w.heap.size:=by
 induction n with
 | zero=>rfl
 | succ n ih=>exact ih
def zjk(ks:List Int)(i k:Nat):Bool:=(List.range k).any (fun j=>ks[j]?.getD 0/8 == ks[i]?.getD 0/8)
theorem zww(ks:List Int)(i k:Nat):zjk ks i (k+1)=(zjk ks i k||(ks[k]?.getD 0/8 == ks[i]?.getD 0/8)):=by
 unfold zjk;rw[List.range_succ,List.any_append];simp
theorem yagw(ks:List Int):∀ i,(nl ks i).length<=i
 | 0=>Nat.le_refl _
 | i+1=>by
  rw[nl]
  split
  ·have:=yagw ks i;omega
  ·have:=yagw ks i;simp;omega
theorem zcu(v:Value)(zs:List Int)(w:World)(h:RdI w v zs)(hn:zs.length<=4096)(hz0:∀ k (h:k<zs.length),0<=zs[k]/\zs[k]<336) :
  zC 144 #[v] w fun e w'=>∃ v',e=.returned v'/\Row w' 173 3 w.heap.size w'.heap.size v' (zbg zs).length (mis (zbg zs))/\zB w w':=by
 obtain⟨aZ,cZ,rfl,_,hcZ⟩:=h.shape;have HZ:=zaa hcZ;have Z0:=zaa hz0;clear h hcZ hz0
 have ho:(w.alloc (.cells #[] 173)).ownsRow w.heap.size 173 3 (.slice (some ⟨w.heap.size,0,none⟩) 0 0) 0 []:=by
  simpa using World.ownsRow_lit (base:=w.heap.size) (e:=173) (size:=3) w #[] 0 (by simp) (by simp) rfl
 have START:=zaa (And.intro ho ((Below.refl w.heap.size w).alloc zL (.cells #[] 173)));clear ho;go_enter Tryz.func144,Tryz.ntmps144;go_wp2
 go_loopw [3,4,5,6] (fun vL i _ _ wr=>∃ m:Nat,m<=zs.length/\i=.I m/\Hid (wr.ownsRow w.heap.size 173 3 vL (nl zs m).length (mis (nl zs m))/\zB w wr)/\w.heap.size<=wr.heap.size) (fun _ i _ _ _=>zs.length-(intOf i).toNat)
 case atStart=>exact⟨0,by omega,rfl,⟨by simpa[nl,mis]using START.o.1,START.o.2⟩,by simp⟩
 case round =>
  obtain⟨m,hm,rfl,I,hz⟩:=hrel
  by_cases hlt:m<zs.length
  ·obtain⟨b,o,rfl,hbl,hcell⟩:=HZ.o (by omega);have CELL:=zaa hcell;clear hcell
   have m0:(0:Int)<=(m:Int):=by omega
   have m1:(m:Int)<(zs.length:Int):=by omega
   go_wp2
   go_loopw [5,6] (fun f kk wr2=>∃ k:Nat,k<=m/\kk=.I k/\f=.bool (zjk zs m k)/\Hid (wr2.ownsRow w.heap.size 173 3 u3 (nl zs m).length (mis (nl zs m))/\zB w wr2)/\w.heap.size<=wr2.heap.size) (fun _ kk _=>m-(intOf kk).toNat)
   case atStart=>exact⟨0,by omega,rfl,rfl,I,hz⟩
   case round =>
    obtain⟨k,hk,rfl,rfl,J,hz2⟩:=hrel
    by_cases hlk:k<m
    ·have k0:(0:Int)<=(k:Int):=by omega
     have k1:(k:Int)<(m:Int):=by omega
     have k2:(k:Int)<(zs.length:Int):=by omega
     have hkz:k<zs.length:=by omega
     have d0:=(J.o.2.cell (p:=⟨b,o+k,none⟩) hbl).trans (CELL.o k hkz);have d1:=(J.o.2.cell (p:=⟨b,o+m,none⟩) hbl).trans (CELL.o m hlt);have p0:=Z0.o k hkz;have p1:=Z0.o m hlt;have SU:=zaa (show zjk zs m (k+1)=(zjk zs m k||(zs[k]/8 == zs[m]/8)) by rw[zww,List.getElem?_eq_getElem hkz,List.getElem?_eq_getElem hlt];rfl);generalize zs[k]=x at *;generalize zs[m]=y at *;generalize zjk zs m k=fb at *
     rcases(show fb=true\/(fb=false/\(x/8 == y/8)=true)\/(fb=false/\(x/8 == y/8)=false) by cases fb<;>cases (x/8 == y/8)<;>simp)with rfl | ⟨rfl,q⟩ | ⟨rfl,q⟩
     all_goals
      go_wp2
      go_quiet (fail)
      go_wp2
      go_roundw
      case rel=>exact⟨k+1,by omega,by go_num,by rw[SU.o];first | rfl | (rw[q];rfl),⟨yacd J.o.1 _,zyn J.o.2 _⟩,by rw[yace];exact hz2⟩
      case measure=>simp[intOf];omega
    ·obtain rfl:k=m:=by omega
     by_cases c:zjk zs k k=true
     ·have E:=zaa (show nl zs (k+1)=nl zs k by rw[nl];exact if_pos c);rw[c];clear c;go_wp2
      go_roundw
      case rel=>exact⟨k+1,by omega,by go_num,by rw[E.o];exact J,hz2⟩
      case measure=>simp[intOf];omega
     ·have c':zjk zs k k=false:=by simpa using c
      have d1:=(J.o.2.cell (p:=⟨b,o+k,none⟩) hbl).trans (CELL.o k hlt)
      have E:=zaa (show nl zs (k+1)=nl zs k++[⟨2,zs[k],0⟩] by
       rw[nl]
       have:¬ yagk zs k=true:=fun x=>c x
       rw[if_neg this,List.getElem?_eq_getElem hlt]
       rfl)
      rw[c'];clear c c';generalize zs[k]=y at *;have O2:=zaa (J.o.1.alloc (.cells #[.I 2,.I y,.I 0] 173));have HRD:=zaa (zpi wr 2 y 0);have hle:=yagw zs k;go_wp2_with (at_builtin;refine zaf _ rfl (.tmp 35) (.tmp 41) 79 rfl w.heap.size 173 (.agg #[.I 0,.I 0,.I 0]) 3 24 Tryz.underlying79 zbr rfl (by decide) _ _ _ rfl O2.o _ 1 _ rfl HRD.o (zhy _) (by simp[maxLen];omega) (by omega) (by simp;omega) ?_);intro vN wN hownN hgrN
      have hl:=fun q hq=>(O2.o.lt q hq).1
      have hzN:=hgrN.size;simp only[World.size_alloc]at hzN
      have G:Hid (wN.ownsRow w.heap.size 173 3 vN (nl zs (k+1)).length (mis (nl zs (k+1)))/\zB w wN):=by
       refine⟨?_,(J.o.2.alloc (by omega) (.cells #[.I 2,.I y,.I 0] 173)).grown hgrN (by simp;omega) (fun q hq=>hl q hq)⟩;rw[E.o,zzd,List.length_append];exact hownN
      clear hownN hgrN hl;go_wp2
      go_roundw
      case rel=>exact⟨k+1,by omega,by go_num,G,by omega⟩
      case measure=>simp[intOf];omega
  ·obtain rfl:m=zs.length:=by omega
   have E:=zaa (show zbg zs=nl zs zs.length++[⟨3,0,0⟩]from rfl);have O2:=zaa (I.o.1.alloc (.cells #[.I 3,.I 0,.I 0] 173));have HRD:=zaa (zpi wr 3 0 0);have hle:=yagw zs zs.length;go_wp2_with (at_builtin;refine zaf _ rfl (.tmp 43) (.tmp 45) 79 rfl w.heap.size 173 (.agg #[.I 0,.I 0,.I 0]) 3 24 Tryz.underlying79 zbr rfl (by decide) _ _ _ rfl O2.o _ 1 _ rfl HRD.o (zhy _) (by simp[maxLen];omega) (by omega) (by simp;omega) ?_);intro vN wN hownN hgrN
   have hl:=fun q hq=>(O2.o.lt q hq).1
   have G:Hid (wN.ownsRow w.heap.size 173 3 vN (zbg zs).length (mis (zbg zs))/\zB w wN):=by
    refine⟨?_,(I.o.2.alloc (by omega) (.cells #[.I 3,.I 0,.I 0] 173)).grown hgrN (by simp;omega) (fun q hq=>hl q hq)⟩;rw[E.o,zzd,List.length_append];exact hownN
   clear hownN hgrN hl;obtain⟨aL,cL,hvL⟩:=RdM.form (zac G.o.1).rd rfl;subst hvL;go_wp2;go_ret;exact⟨_,rfl,zac G.o.1,G.o.2⟩
theorem zbp(zs:List Int):(zbg zs).length<=zs.length+1:=by
 unfold zbg;have:=yagw zs zs.length;simp;omega
theorem znd(w:World)(t:TypeId)(size:Nat):Row (w.alloc (.cells #[] t)) t size w.heap.size (w.alloc (.cells #[] t)).heap.size (.slice (some ⟨w.heap.size,0,none⟩) 0 0) 0 [] :=
 zac (by simpa using World.ownsRow_lit (base:=w.heap.size) (e:=t) (size:=size) w #[] 0 (by simp) (by simp) (by simp))
end Go.Proofs.YtfagbapgnocjiaaGreatDoor
