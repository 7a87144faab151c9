import Derived.Test.YtogcbbkhnpmgeaaGreatDoorZAC
import Derived.Deep.DeepCutAuto
set_option maxRecDepth 100000
set_option maxHeartbeats 4000000
namespace Go.Proofs.YtogcbbkhnpmgeaaGreatDoor
open Go.RowKit
def zxm(ws:List Int)(ps:List Se)(at_:Int):Int:=if zfp ws ps=false then 1 else if znd at_=false then 14 else 0
theorem yafb{ws:List Int}{ps:List Se}{at_:Int}(h:zfp ws ps=false):zxm ws ps at_=1:=by unfold zxm;rw[if_pos h]
theorem ztx{ws:List Int}{ps:List Se}{at_:Int}(h:zfp ws ps=true)(h2:znd at_=false):zxm ws ps at_=14:=by unfold zxm;rw[if_neg (by rw[h];simp),if_pos h2]
theorem yaqx{ws:List Int}{ps:List Se}{at_:Int}(h:zfp ws ps=true)(h2:znd at_=true):zxm ws ps at_=0:=by unfold zxm;rw[if_neg (by rw[h];simp),if_neg (by rw[h2];simp)]
theorem zjj(v:Value)(ws:List Int)(ps:List Se)(at_:Int)(w:World)(h:RdBlk w v ws ps)(hw:ws.length<=1048576)(hp:ps.length<=1048576) :
  zC 174 #[v,.I at_] w fun e w'=>e=.returned (.I (zxm ws ps at_))/\zB w w':=by
 have HR:=zaa h;obtain⟨vW,vP,rfl,h1,h2⟩:=h;obtain⟨aW,cW,rfl,_⟩:=h1.shape;obtain⟨aP,cP,rfl,_⟩:=h2.shape;clear h1 h2;have hb0:zB w (w.alloc (.cells #[.slice aW ws.length cW,.slice aP ps.length cP] 29)):=zR.alloc zL _
 by_cases c1:zfp ws ps=true
 ·by_cases c2:znd at_=true
  ·rw[yaqx c1 c2];go_enter Tryz.func174,Tryz.ntmps174;go_wp2_with (first | (go_at_call 57;refine(zfy _ ws ps _ (HR.o.below hb0) hw hp).mono ?_;rintro e w1 ⟨rfl,hb1⟩) | (go_at_call 167;refine(zff _ _).mono ?_;rintro e w2 ⟨rfl,rfl⟩));go_ret;exact⟨rfl,zab hb0 hb1 (by simp)⟩
  ·have c2':znd at_=false:=by simpa using c2
   rw[ztx c1 c2'];clear c2;go_enter Tryz.func174,Tryz.ntmps174;go_wp2_with (first | (go_at_call 57;refine(zfy _ ws ps _ (HR.o.below hb0) hw hp).mono ?_;rintro e w1 ⟨rfl,hb1⟩) | (go_at_call 167;refine(zff _ _).mono ?_;rintro e w2 ⟨rfl,rfl⟩));go_ret;exact⟨rfl,zab hb0 hb1 (by simp)⟩
 ·have c1':zfp ws ps=false:=by simpa using c1
  rw[yafb c1'];clear c1;go_enter Tryz.func174,Tryz.ntmps174;go_wp2_with (first | (go_at_call 57;refine(zfy _ ws ps _ (HR.o.below hb0) hw hp).mono ?_;rintro e w1 ⟨rfl,hb1⟩) | (go_at_call 167;refine(zff _ _).mono ?_;rintro e w2 ⟨rfl,rfl⟩));go_ret;exact⟨rfl,zab hb0 hb1 (by simp)⟩
def zhq(at_ d:Int)(ps:List Se):Int:=ps.foldl (fun acc p=>if p.at_=at_ then p.val else acc) d
theorem zhj{at_ d:Int}:∀ {ps:List Se},(∀ p∈ps,¬ p.at_=at_)->zhq at_ d ps=d
 | [],_=>rfl
 | p::ps,h=>by
  show zhq at_ (if p.at_=at_ then p.val else d) ps=d
  rw[if_neg (h p (by simp))];exact zhj (fun q hq=>h q (by simp[hq]))
theorem yaaw(at_ d:Int)(ps qs:List Se):zhq at_ d (ps++qs)=zhq at_ (zhq at_ d ps) qs:=by simp[zhq]
theorem yakq{at_ d:Int}{ps:List Se}{k:Nat}(hk:k<ps.length)(h:ps[k].at_=at_)(ha:∀ j (hj:j<ps.length),k<j->¬ ps[j].at_=at_):zhq at_ d ps=ps[k].val:=by
 have e:ps=ps.take k++(ps[k]::ps.drop (k+1)):=by rw[<- List.drop_eq_getElem_cons hk,List.take_append_drop]
 conv=>lhs;rw[e]
 rw[yaaw]
 show zhq at_ (if ps[k].at_=at_ then ps[k].val else _) (ps.drop (k+1))=_
 rw[if_pos h];apply zhj;intro p hp;obtain⟨i,hi,rfl⟩:=List.getElem_of_mem hp;rw[List.getElem_drop];exact ha _ _ (by omega)
theorem yacu(v:Value)(ws:List Int)(ps:List Se)(at_:Nat)(w:World)(h:RdBlk w v ws ps)(hw:ws.length<=1048576)(hp:ps.length<=1048576)(ha:at_<ws.length) :
  zC 196 #[v,.I (at_:Int)] w fun e w'=>e=.returned (.I (zhq (at_:Int) ws[at_] ps))/\zB w w':=by
 obtain⟨vW,vP,rfl,h1,h2⟩:=h;obtain⟨aW,cW,rfl,_,hcW⟩:=h1.shape;obtain⟨aP,cP,rfl,_,hcP⟩:=h2.shape;clear h1 h2;obtain⟨bW,oW,rfl,hbW,hcellW⟩:=hcW (by omega);have hb0:zB w (w.alloc (.cells #[.slice (some ⟨bW,oW,none⟩) ws.length cW,.slice aP ps.length cP] 29)):=zR.alloc zL _;have hcw:=(hb0.cell (p:=⟨bW,oW+at_,none⟩) hbW).trans (hcellW at_ ha);clear hcW hcellW;go_enter Tryz.func196,Tryz.ntmps196;go_wp2
 go_loop [5] (fun i=>∃ k:Nat,k<=ps.length/\i=.I ((k:Int)-1)/\Hid (∀ j (h:j<ps.length),k<=j->¬ ps[j].at_=(at_:Int))) (fun i=>(intOf i+1).toNat)
 case atStart=>exact⟨ps.length,Nat.le_refl _,rfl,fun j h a=>absurd h (by omega)⟩
 case round =>
  obtain⟨k,hk,rfl,H⟩:=hrel
  cases k with
  | zero =>
   have E:=zaa (zhj (d:=ws[at_]) (fun p hp=>by obtain⟨i,hi,rfl⟩:=List.getElem_of_mem hp;exact H.o i hi (by omega)));clear H hcP;go_wp2;go_ret;exact⟨zcx E.o.symm,hb0⟩
  | succ m =>
   have em:(((m+1:Nat):Int)-1)=(m:Int):=by omega
   rw[em];clear em;obtain⟨b,o,rfl,hbl,hcell⟩:=hcP (by omega);obtain⟨d0,d1⟩:=hcell m (by omega);have e0:=(hb0.cell (p:=⟨b,o+m*2,none⟩) hbl).trans d0;have e1:=(hb0.cell (p:=⟨b,o+m*2+1,none⟩) hbl).trans d1;clear d0 d1 hcell hcP
   have hm:m<ps.length:=by omega
   by_cases c:ps[m].at_=(at_:Int)
   ·have c':(ps[m].at_ == (at_:Int))=true:=by simpa using c
    have E:=zaa (yakq (d:=ws[at_]) hm c (fun j hj hlt=>H.o j hj (by omega)));clear H c;go_wp2;go_ret;exact⟨zcx E.o.symm,hb0⟩
   ·have c':(ps[m].at_ == (at_:Int))=false:=by simpa using c
    have C:=zaa c;clear c;go_wp2
    go_round
    case rel =>
     refine⟨m,by omega,by go_num,fun j hj hle=>?_⟩
     by_cases e:j=m
     ·subst e;exact C.o
     ·exact H.o j hj (by omega)
    case measure=>simp[intOf]<;>omega
def yady(ws:List Int)(ps:List Se)(at_:Int):Int:=if zxm ws ps at_=0 then zhq at_ (ws[at_.toNat]?.getD 0) ps else 0
theorem yaqo{ws:List Int}{ps:List Se}{at_:Int}(h:¬ zxm ws ps at_=0):yady ws ps at_=0:=by unfold yady;rw[if_neg h]
theorem yasd{ws:List Int}{ps:List Se}{k:Nat}(h:zxm ws ps (k:Int)=0)(hk:k<ws.length):yady ws ps (k:Int)=zhq (k:Int) ws[k] ps:=by
 unfold yady;rw[if_pos h];simp[hk]
theorem yahr(ws:List Int)(ps:List Se)(at_:Int):(zxm ws ps at_=1\/zxm ws ps at_=14)\/(zxm ws ps at_=0/\zfp ws ps=true/\∃ k:Nat,at_=(k:Int)/\k<32/\k<ws.length):=by
 by_cases c1:zfp ws ps=true
 ·by_cases c2:znd at_=true
  ·have:=yabi c2;have hl:=(zdu c1).1;exact .inr ⟨yaqx c1 c2,c1,at_.toNat,by omega,by omega,by omega⟩
  ·exact .inl (.inr (ztx c1 (by simpa using c2)))
 ·exact .inl (.inl (yafb (by simpa using c1)))
theorem yaoq(ps:List Se):∀ u∈ses ps,u.oneCell'=true:=by
 intro u hu;simp only[ses,List.mem_flatMap,Se.cells]at hu;obtain⟨s,_,hs⟩:=hu;simp at hs
 rcases hs with rfl|rfl<;>rfl
theorem yatg(ps:List Se)(s:Se):ses (ps++[s])=ses ps++s.cells:=by simp[ses]
theorem RdE.form{w:World}{v:Value}{ps:List Se}(h:RdE w v ps){n:Nat}(hn:ps.length=n):∃ ao cap,v=.slice ao n cap:=by
 obtain⟨ao,cap,e,_⟩:=h.shape;exact⟨ao,cap,by rw[<- hn];exact e⟩
theorem ybbb(w1:World)(a x:Int):Rd (w1.alloc (.cells #[.I a,.I x] 160)) 2 (.slice (some ⟨w1.heap.size,0,none⟩) 1 1) 1 (Se.cells ⟨a,x⟩):=by
 refine⟨rfl,_,_,rfl,⟨Nat.le_refl _,fun e=>by cases e⟩,fun _=>⟨w1.heap.size,0,rfl,by simp,fun j hj=>?_⟩⟩;obtain⟨e0,e1,_,_⟩:=zac (zaf (w:=w1) (o:=.cells #[.I a,.I x] 160) rfl);rw[Nat.zero_add]
 rcases(show j=0\/j=1 from by omega)with rfl|rfl
 ·exact e0
 ·exact e1
def yaym(w:World)(lo hi:Nat)(v:Value)(ws:List Int)(ps:List Se):Prop:=∃ vW vP,v=.agg #[vW,vP]/\Row w 3 1 lo hi vW ws.length (zeg ws)/\Row w 160 2 lo hi vP ps.length (ses ps)
theorem yaih(v:Value)(ws:List Int)(ps:List Se)(w:World)(h:RdBlk w v ws ps)(hw:ws.length<=2147483648)(hp:ps.length<=2147483648) :
  zC 166 #[v] w fun e w'=>∃ v',e=.returned v'/\yaym w' w.heap.size w'.heap.size v' ws ps/\zB w w':=by
 obtain⟨vW,vP,rfl,h1,h2⟩:=h;have H1:=zaa h1;have H2:=zaa h2;obtain⟨aW,cW,rfl,_⟩:=h1.shape;obtain⟨aP,cP,rfl,_⟩:=h2.shape;clear h1 h2
 have hb0:zB w (((w.alloc (.cells #[.slice aW ws.length cW,.slice aP ps.length cP] 29)).alloc (.cells #[.N,.N] 29)).alloc (.cells #[] 3)):=by
  repeat (refine Below.alloc ?_ (by simp<;>omega) _)
  exact zR
 have ho0:(((w.alloc (.cells #[.slice aW ws.length cW,.slice aP ps.length cP] 29)).alloc (.cells #[.N,.N] 29)).alloc (.cells #[] 3)).ownsRow (w.heap.size+2) 3 1 (.slice (some ⟨w.heap.size+1+1,0,none⟩) 0 0) 0 []:=by
  simpa using World.ownsRow_lit (base:=w.heap.size+2) (e:=3) (size:=1) ((w.alloc (.cells #[.slice aW ws.length cW,.slice aP ps.length cP] 29)).alloc (.cells #[.N,.N] 29)) #[] 0 (by simp) (by simp) rfl
 have HO:=zaa ho0;have HB:=zaa hb0;clear ho0 hb0;go_enter Tryz.func166,Tryz.ntmps166;go_wp2_with (at_builtin;refine zae _ rfl (.tmp 3) (.tmp 5) 23 rfl (w.heap.size+2) 3 (.I 0) 1 8 Tryz.underlying23 zmo rfl (by decide) _ 0 [] rfl HO.o _ ws.length (zeg ws) rfl (Rd.below H1.o HB.o) (zgp ws) (by simp[maxLen];omega) (by omega) (by simp) ?_);intro v1 w1 hown1 hgr1
 have hown1:w1.ownsRow (w.heap.size+2) 3 1 v1 ws.length (zeg ws):=by simpa using hown1
 have R1:=zaa (zad hown1);obtain⟨_,a1,c1,rfl,_⟩:=(zad hown1).rd
 have hz1:w.heap.size+3<=w1.heap.size:=by have:=hgr1.size;simp at this;omega
 have V0:=(hgr1.block w.heap.size (by simp<;>omega) (by simp[Value.ownBlock]<;>omega)).trans (zal (zal (zaf rfl)));have V1:=(hgr1.block (w.heap.size+1) (by simp<;>omega) (by simp[Value.ownBlock]<;>omega)).trans (zal (zaf (by simp)));have B1:=HB.o.grown hgr1 (by simp<;>omega) (fun k hk=>by simp[Value.ownBlock]at hk;omega);have V0':=zal (o:=.cells #[] 160) (zmn V0 (.slice a1 ws.length c1));have V1':=zal (o:=.cells #[] 160) ((Below.heap_setCell w1 ⟨w.heap.size,0,none⟩ (.slice a1 ws.length c1) (w.heap.size+1) (by simp)).trans V1);obtain⟨x1,x2,x3,x4⟩:=zac V0;obtain⟨x5,x6,x7,x8⟩:=zac V0';have HV:=zaa (And.intro V0' V1');have hB2:=(B1.setCell (p:=⟨w.heap.size,0,none⟩) zL (.slice a1 ws.length c1)).alloc (by simp;omega) (.cells #[] 160)
 have ho2:((w1.setCell ⟨w.heap.size,0,none⟩ (.slice a1 ws.length c1)).alloc (.cells #[] 160)).ownsRow w1.heap.size 160 2 (.slice (some ⟨w1.heap.size,0,none⟩) 0 0) 0 []:=by
  simpa using World.ownsRow_lit (base:=w1.heap.size) (e:=160) (size:=2) (w1.setCell ⟨w.heap.size,0,none⟩ (.slice a1 ws.length c1)) #[] 0 (by simp) (by simp) rfl
 have HB2:=zaa hB2;have HO2:=zaa ho2;clear hown1 hgr1 V0 V1 B1 V0' V1' hB2 ho2;go_wp2_with (at_builtin;refine zae _ rfl (.tmp 8) (.tmp 10) 27 rfl w1.heap.size 160 (.agg #[.I 0,.I 0]) 2 16 Tryz.underlying27 yadm rfl (by decide) _ 0 [] rfl HO2.o _ ps.length (ses ps) rfl (Rd.below H2.o HB2.o) (yaoq ps) (by simp[maxLen];omega) (by omega) (by simp) ?_);intro v2 w2 hown2 hgr2
 have hown2:w2.ownsRow w1.heap.size 160 2 v2 ps.length (ses ps):=by simpa using hown2
 have R2:=zaa (zad hown2);obtain⟨_,a2,c2,rfl,_⟩:=(zad hown2).rd
 have hz2:w1.heap.size+1<=w2.heap.size:=by have:=hgr2.size;simp at this;omega
 have V0:=(hgr2.block w.heap.size (by simp<;>omega) (by simp[Value.ownBlock];omega)).trans HV.o.1;have V1:=(hgr2.block (w.heap.size+1) (by simp<;>omega) (by simp[Value.ownBlock];omega)).trans HV.o.2;have B2:=zaa (HB2.o.grown hgr2 (by simp<;>omega) (fun k hk=>by simp[Value.ownBlock]at hk;omega))
 have K2:Hid (∀ b,w.heap.size+2<=b->b<w1.heap.size->w2.heap[b]?=w1.heap[b]?):=by
  intro b h1 h2;rw[hgr2.block b (by simp<;>omega) (by simp[Value.ownBlock];omega),zft,if_neg (by simp;omega),Below.heap_setCell _ _ _ _ (by simp only;omega)]
 obtain⟨z1,z2,z3,z4⟩:=zac V0;obtain⟨t1,t2,t3,t4⟩:=zac V1;clear hown2 hgr2 V0 V1;go_wp2;refine bodyPost_ret (v:=.agg #[.slice a1 ws.length c1,.slice a2 ps.length c2]) (by simp[results,Tryz.results166,go_sem,t1,t2]) rfl ?_;refine⟨_,rfl,⟨_,_,rfl,(R1.o.same fun b h1 h2=>?_).wide (by omega) (by simp;omega),(R2.o.same fun b h1 h2=>?_).wide (by omega) (by simp)⟩,?_⟩
 ·rw[Below.heap_setCell _ _ _ _ (by simp only;omega),Below.heap_setCell _ _ _ _ (by simp only;omega),Below.heap_setCell _ _ _ _ (by simp only;omega),K2.o b h1 h2]
 ·rw[Below.heap_setCell _ _ _ _ (by simp only;omega),Below.heap_setCell _ _ _ _ (by simp only;omega),Below.heap_setCell _ _ _ _ (by simp only;omega)]
 ·exact((B2.o.setCell (by simp only;omega) _).setCell (by simp only;omega) _).setCell (by simp only;omega) _
theorem zud(v:Value)(ws:List Int)(ps:List Se)(w:World)(h:RdBlk w v ws ps)(hw:ws.length<=2147483648)(hp:ps.length<=2147483648) :
  zC 166 #[v] w fun e w'=>∃ v',e=.returned v'/\RowBlk w' w.heap.size w'.heap.size v' ws ps/\zB w w' :=
 (yaih v ws ps w h hw hp).mono fun _ _ ⟨v',he,⟨vW,vP,hv,h1,h2⟩,hb⟩=>⟨v',he,⟨vW,vP,hv,h1.z,h2⟩,hb⟩
theorem zzl(vW vP:Value)(ws:List Int)(ps:List Se)(at_ x:Int)(w:World)(h:RdBlk w (.agg #[vW,vP]) ws ps)(hp:ps.length<=1048576) :
  zC 210 #[.agg #[vW,vP],.I at_,.I x] w fun e w'=>∃ vP',e=.returned (.agg #[vW,vP'])/\RdBlk w' (.agg #[vW,vP']) ws (ps++[⟨at_,x⟩])/\(∀ k,vP'.ownBlock=some k->w.heap.size<=k)/\zB w w':=by
 obtain⟨_,_,e0,h1,h2⟩:=h
 cases e0
 have H1:=zaa h1;have H2:=zaa h2;obtain⟨aW,cW,rfl,_⟩:=h1.shape;obtain⟨aP,cP,rfl,_⟩:=h2.shape;clear h1 h2
 have hb0:zB w (((w.alloc (.cells #[.slice aW ws.length cW,.slice aP ps.length cP] 29)).alloc (.cells #[.N,.N] 29)).alloc (.cells #[] 160)):=by
  repeat (refine Below.alloc ?_ (by simp<;>omega) _)
  exact zR
 have ho0:(((w.alloc (.cells #[.slice aW ws.length cW,.slice aP ps.length cP] 29)).alloc (.cells #[.N,.N] 29)).alloc (.cells #[] 160)).ownsRow (w.heap.size+2) 160 2 (.slice (some ⟨w.heap.size+1+1,0,none⟩) 0 0) 0 []:=by
  simpa using World.ownsRow_lit (base:=w.heap.size+2) (e:=160) (size:=2) ((w.alloc (.cells #[.slice aW ws.length cW,.slice aP ps.length cP] 29)).alloc (.cells #[.N,.N] 29)) #[] 0 (by simp) (by simp) rfl
 have HO:=zaa ho0;have HB:=zaa hb0;clear ho0 hb0;go_enter Tryz.func210,Tryz.ntmps210;go_wp2_with (at_builtin;refine zae _ rfl (.tmp 7) (.tmp 9) 27 rfl (w.heap.size+2) 160 (.agg #[.I 0,.I 0]) 2 16 Tryz.underlying27 yadm rfl (by decide) _ 0 [] rfl HO.o _ ps.length (ses ps) rfl (Rd.below H2.o HB.o) (yaoq ps) (by simp[maxLen];omega) (by omega) (by simp) ?_);intro v1 w1 hown1 hgr1
 have hown1:w1.ownsRow (w.heap.size+2) 160 2 v1 ps.length (ses ps):=by simpa using hown1
 have hz1:w.heap.size+3<=w1.heap.size:=by have:=hgr1.size;simp at this;omega
 have V0:=(hgr1.block w.heap.size (by simp<;>omega) (by simp[Value.ownBlock]<;>omega)).trans (zal (zal (zaf rfl)));have V1:=(hgr1.block (w.heap.size+1) (by simp<;>omega) (by simp[Value.ownBlock]<;>omega)).trans (zal (zaf (by simp)));have B1:=HB.o.grown hgr1 (by simp<;>omega) (fun k hk=>by simp[Value.ownBlock]at hk;omega);have hB2:=B1.alloc (by omega) (.cells #[.I at_,.I x] 160);have V0':=zal (o:=.cells #[.I at_,.I x] 160) V0;have V1':=zal (o:=.cells #[.I at_,.I x] 160) V1;have ho2:=hown1.alloc (.cells #[.I at_,.I x] 160);have hr2:=ybbb w1 at_ x;have HV:=zaa (And.intro V0' V1');have HB2:=zaa hB2;have HO2:=zaa ho2;have HR2:=zaa hr2;clear hown1 hgr1 V0 V1 B1 V0' V1' hB2 ho2 hr2;go_wp2_with (at_builtin;refine zae _ rfl (.tmp 10) (.tmp 14) 27 rfl (w.heap.size+2) 160 (.agg #[.I 0,.I 0]) 2 16 Tryz.underlying27 yadm rfl (by decide) _ ps.length (ses ps) rfl HO2.o _ 1 (Se.cells ⟨at_,x⟩) rfl HR2.o (fun u hu=>by simp[Se.cells]at hu;rcases hu with rfl|rfl<;>rfl) (by simp[maxLen];omega) (by omega) (by simp;omega) ?_);intro v2 w2 hown2 hgr2
 have hr3:RdE w2 v2 (ps++[⟨at_,x⟩]):=by
  have:=(zad hown2).rd;unfold RdE;rw[yatg,List.length_append];exact this
 have L3:=zaa (fun k hk=>(hown2.lt k hk).1);have R3:Hid (RdE w2 v2 (ps++[⟨at_,x⟩])):=hr3;obtain⟨_,a2,c2,e2,_⟩:=hr3;simp only[List.length_append,List.length_singleton]at e2;subst e2
 have hz2:w1.heap.size+1<=w2.heap.size:=by have:=hgr2.size;simp at this;omega
 have hne:∀ b,b<w.heap.size+2->¬ some b=Value.ownBlock v1:=by
  intro b hb e;have:=(HO2.o.lt b e.symm).1;omega
 have V0:=(hgr2.block w.heap.size (by simp<;>omega) (hne _ (by omega))).trans HV.o.1;have V1:=(hgr2.block (w.heap.size+1) (by simp<;>omega) (hne _ (by omega))).trans HV.o.2;have B2:=zaa (HB2.o.grown hgr2 (by simp<;>omega) (fun k hk=>by have:=(HO2.o.lt k hk).1;omega));obtain⟨z1,z2,z3,z4⟩:=zac V0;obtain⟨t1,t2,t3,t4⟩:=zac V1;clear hown2 hgr2 V0 V1;go_wp2;refine bodyPost_ret (v:=.agg #[.slice aW ws.length cW,.slice a2 (ps.length+1) c2]) (by simp[results,Tryz.results210,go_sem,t1,t2]) rfl ?_;have B3:=((B2.o.setCell (p:=⟨w.heap.size,1,none⟩) zL (.slice a2 (ps.length+1) c2)).setCell (p:=⟨w.heap.size+1,0,none⟩) (by simp only;omega) (.slice aW ws.length cW)).setCell (p:=⟨w.heap.size+1,1,none⟩) (by simp only;omega) (.slice a2 (ps.length+1) c2);refine⟨_,rfl,⟨_,_,rfl,Rd.below H1.o B3,Rd.same R3.o (by simp) (fun b _ hb=>?_)⟩,fun b hb=>by have:=L3.o b hb;omega,B3⟩;have:=L3.o b hb;rw[Below.heap_setCell _ _ _ _ (by simp only;omega),Below.heap_setCell _ _ _ _ (by simp only;omega),Below.heap_setCell _ _ _ _ (by simp only;omega)]
theorem zyt(v:Value)(ws:List Int)(ps:List Se)(at_ x:Int)(w:World)(h:RdBlk w v ws ps)(hp:ps.length<=1048576) :
  zC 210 #[v,.I at_,.I x] w fun e w'=>∃ v',e=.returned v'/\RdBlk w' v' ws (ps++[⟨at_,x⟩])/\zB w w':=by
 obtain⟨vW,vP,rfl,h1,h2⟩:=h
 exact(zzl vW vP ws ps at_ x w ⟨_,_,rfl,h1,h2⟩ hp).mono fun _ _ ⟨vP',he,hr,_,hb⟩=>⟨_,he,hr,hb⟩
def layE(ws:List Int)(ps:List Se):List Int:=ps.foldl (fun acc p=>acc.set p.at_.toNat p.val) ws
theorem yana(ws:List Int)(ps:List Se)(p:Se):layE ws (ps++[p])=(layE ws ps).set p.at_.toNat p.val:=by simp[layE]
theorem zpk(ws:List Int):∀ ps:List Se,(layE ws ps).length=ws.length:=by
 intro ps;unfold layE
 induction ps generalizing ws with
 | nil=>rfl
 | cons p ps ih=>rw[List.foldl_cons,ih];simp
structure BarInv(w wr:World)(eZ:TypeId)(ws:List Int)(ps:List Se)(lo hi:Nat)(vW vP:Value)(m:Nat):Prop where
 words:Row wr eZ 1 lo hi vW ws.length (zeg (layE ws (ps.take m)))
 pend:Row wr 160 2 lo hi vP ps.length (ses ps)
 box:wr.heap[w.heap.size]?=some (.cells #[vW,vP] 29 (0,0))
 res:wr.heap[w.heap.size+1]?=some (.cells #[.N,.N] 29 (0,0))
 below:zB w wr
 size:hi<=wr.heap.size
theorem BarInv.hit{w wr:World}{eZ:TypeId}{ws:List Int}{ps:List Se}{lo hi:Nat}{b n cap:Nat}{vP:Value}{m:Nat}(h:BarInv w wr eZ ws ps lo hi (.slice (some ⟨b,0,none⟩) n cap) vP m)(he:eZ≠160)(hm:m<ps.length)(hlo:w.heap.size+2<=lo)(hn:n=ws.length) :
  BarInv w (wr.setCell ⟨b,ps[m].at_.toNat,none⟩ (.I ps[m].val)) eZ ws ps lo hi (.slice (some ⟨b,0,none⟩) n cap) vP (m+1):=by
 subst hn;obtain⟨h1,h3,h4,h5,h6,h7⟩:=h
 obtain⟨_,hb1,hb2,_⟩:=h1.at
 have e1:layE ws (ps.take (m+1))=(layE ws (ps.take m)).set ps[m].at_.toNat ps[m].val:=by rw[zfh ps m hm,yana]
 refine⟨?_,?_,?_,?_,?_,?_⟩
 ·rw[e1,<- zna];exact h1.stored _ _
 ·exact h3.apart h1 (Ne.symm he) (World.ownsRow.stored h1.1 _ _).2
 ·rw[Below.heap_setCell _ _ _ _ (by simp only;omega)];exact h4
 ·rw[Below.heap_setCell _ _ _ _ (by simp only;omega)];exact h5
 ·exact h6.setCell (by simp only;omega) _
 ·simpa using h7
theorem BarInv.drew{w wr:World}{eZ:TypeId}{ws:List Int}{ps:List Se}{lo hi:Nat}{vW vP:Value}{m:Nat}(h:BarInv w wr eZ ws ps lo hi vW vP m):BarInv w wr.drew eZ ws ps lo hi vW vP m:=by
 obtain⟨h1,h2,h4,h5,h6,h7⟩:=h;exact⟨h1.same (fun _ _ _=>rfl),h2.same (fun _ _ _=>rfl),h4,h5,h6.drew,h7⟩
theorem zts(v:Value)(ws:List Int)(ps:List Se)(w:World)(h:RdBlk w v ws ps)(hw:ws.length<=1048576)(hp:ps.length<=1048576)(hok:∀ j (h:j<ps.length),0<=ps[j].at_/\ps[j].at_<ws.length) :
  zC 211 #[v] w fun e w'=>∃ v',e=.returned v'/\RowBlk w' w.heap.size w'.heap.size v' (layE ws ps) []/\zB w w':=by
 have HR:=zaa h;obtain⟨vW,vP,rfl,h1,h2⟩:=h;obtain⟨aW,cW,rfl,_⟩:=h1.shape;obtain⟨aP,cP,rfl,_⟩:=h2.shape;have HOK:=zaa hok;clear h1 h2 hok
 have hb0:zB w ((w.alloc (.cells #[.slice aW ws.length cW,.slice aP ps.length cP] 29)).alloc (.cells #[.N,.N] 29)):=by
  repeat (refine Below.alloc ?_ (by simp<;>omega) _)
  exact zR
 go_enter Tryz.func211,Tryz.ntmps211;go_wp2_with fail;refine(zud _ ws ps _ (HR.o.below hb0) (by omega) (by omega)).mono ?_;rintro e w2 ⟨v2,rfl,hr2,hb2⟩;obtain⟨vW2,vP2,rfl,hI2,hS2⟩:=hr2;obtain⟨aW2,cW2,rfl⟩:=RdI.form hI2.rd rfl;obtain⟨aP2,cP2,rfl⟩:=RdE.form hS2.rd rfl;obtain⟨eZ,heZ,hI2⟩:=hI2;simp only[World.size_alloc]at hI2 hS2;have HE:=zaa heZ
 have hz2:w.heap.size+2<=w2.heap.size:=by have:=hb2.size;simp at this;omega
 have V0:=(hb2.block w.heap.size (by simp<;>omega)).trans (zal (zaf rfl));have V1:=(hb2.block (w.heap.size+1) (by simp)).trans (zaf (by simp));have B2:=zab hb0 hb2 (by simp<;>omega);obtain⟨x1,x2,x3,x4⟩:=zac V0
 have INV:Hid (BarInv w ((w2.setCell ⟨w.heap.size,0,none⟩ (.slice aW2 ws.length cW2)).setCell ⟨w.heap.size,1,none⟩ (.slice aP2 ps.length cP2)) eZ ws ps (w.heap.size+1+1) w2.heap.size (.slice aW2 ws.length cW2) (.slice aP2 ps.length cP2) 0):=by
  refine⟨?_,?_,?_,?_,?_,?_⟩
  ·refine hI2.same fun b hb1 _=>?_
   rw[Below.heap_setCell _ _ _ _ (by simp only;omega),Below.heap_setCell _ _ _ _ (by simp only;omega)]
  ·refine hS2.same fun b hb1 _=>?_
   rw[Below.heap_setCell _ _ _ _ (by simp only;omega),Below.heap_setCell _ _ _ _ (by simp only;omega)]
  ·exact zpr (zmn V0 _) _
  ·rw[Below.heap_setCell _ _ _ _ (by simp only;omega),Below.heap_setCell _ _ _ _ (by simp only;omega)];exact V1
  ·exact(B2.setCell (by simp only;omega) _).setCell (by simp only;omega) _
  ·simp
 clear hb0 hb2 hI2 hS2 V0 V1 B2 heZ;go_wp2
 go_loopw [3] (fun i wr=>∃ m:Nat,m<=ps.length/\i=.I m/\Hid (BarInv w wr eZ ws ps (w.heap.size+1+1) w2.heap.size (.slice aW2 ws.length cW2) (.slice aP2 ps.length cP2) m)) (fun i _=>ps.length-(intOf i).toNat)
 case atStart=>exact⟨0,by omega,rfl,INV⟩
 case round =>
  obtain⟨m,hm,rfl,I⟩:=hrel;obtain⟨y1,y2,y3,y4⟩:=zac I.o.box
  by_cases hlt:m<ps.length
  ·obtain⟨_,ao',cap',e',_,hc⟩:=I.o.pend.rd
   cases e'
   obtain⟨b,o,rfl,hbl,_⟩:=hc (by omega)
   obtain⟨rfl,_,_,_,hfr,hcl⟩:=I.o.pend.at
   have e0:=(hcl (m*2) (by omega)).trans (zxe _ m hlt);have e1:=(hcl (m*2+1) (by omega)).trans (yanr _ m hlt);obtain⟨q0,q1⟩:=HOK.o m hlt;obtain⟨_,aw',cw',ew',_,hcw⟩:=I.o.words.rd
   cases ew'
   obtain⟨bw,ow,rfl,hblw,_⟩:=hcw (by omega)
   obtain⟨rfl,_,_,_,hfrw,hclw⟩:=I.o.words.at
   have hj:ps[m].at_.toNat<(layE ws (ps.take m)).length:=by rw[zpk];omega
   have g0:=hfrw ps[m].at_.toNat;have g1:=(hclw ps[m].at_.toNat (by omega)).trans (zdx _ _ hj);have q1':ps[m].at_<(ws.length:Int):=q1
   have hlt':(m:Int)<(ps.length:Int):=by omega
   have hge:(0:Int)<=(m:Int):=by omega
   clear hc hfr hcl hcw hfrw hclw;go_wp2
   go_region
   all_goals
    go_wp2
    go_roundw
    case rel =>
     refine⟨m+1,by omega,by go_num,?_⟩
     first | exact(I.o.hit HE.o hlt zL rfl).drew | exact I.o.drew.hit HE.o hlt zL rfl
    case measure=>simp[intOf];omega
  ·have e:m=ps.length:=by omega
   subst e;have hsz:=I.o.size;obtain⟨z1,z2,z3,z4⟩:=zac (zal (o:=.cells #[] 160) I.o.box);obtain⟨t1,t2,t3,t4⟩:=zac (zal (o:=.cells #[] 160) I.o.res)
   have ho:(wr.alloc (.cells #[] 160)).ownsRow wr.heap.size 160 2 (.slice (some ⟨wr.heap.size,0,none⟩) 0 0) 0 []:=by
    simpa using World.ownsRow_lit (base:=wr.heap.size) (e:=160) (size:=2) wr #[] 0 (by simp) (by simp) rfl
   have HO:=zaa ho;clear ho;go_wp2;have I2:=I.o;refine bodyPost_ret (v:=.agg #[.slice aW2 ws.length cW2,.slice (some ⟨wr.heap.size,0,none⟩) 0 0]) (by simp[results,Tryz.results211,go_sem,t1,t2]) rfl ?_;refine⟨_,rfl,⟨_,_,rfl,⟨eZ,HE.o,?_⟩,?_⟩,(((I2.below.alloc (by omega) _).setCell (by simp only;omega) _).setCell (by simp only;omega) _).setCell (by simp only;omega) _⟩
   ·rw[zpk];have:=I2.words;rw[List.take_length]at this;refine((this.alloc hsz (.cells #[] 160)).same fun b h1 h2=>?_).wide (by omega) (by simp;omega);rw[Below.heap_setCell _ _ _ _ (by simp only;omega),Below.heap_setCell _ _ _ _ (by simp only;omega),Below.heap_setCell _ _ _ _ (by simp only;omega)]
   ·refine((zad HO.o).same fun b h1 h2=>?_).wide (by omega) (by simp);rw[Below.heap_setCell _ _ _ _ (by simp only;omega),Below.heap_setCell _ _ _ _ (by simp only;omega),Below.heap_setCell _ _ _ _ (by simp only;omega)]
def doW(m:Mi)(ws:List Int)(ps:List St):List Int:=if m.kind=3 then zqi ws ps else ws
def doP(m:Mi)(ps:List St):List St:=if m.kind=1 then ps++[⟨m.at_,m.val,false⟩]else if m.kind=2 then ps.map (fl1 m.at_)else if m.kind=3 then zog ps else ps
def doE(m:Mi)(es:List Int)(qs:List Se):List Int:=if m.kind=5 then layE es qs else es
def doQ(m:Mi)(qs:List Se):List Se:=if m.kind=4 then qs++[⟨m.at_,m.val⟩]else if m.kind=5 then[]else qs
theorem Rd.boxless{w w':World}{size:Nat}{v:Value}{n:Nat}{xs:List Value}{b:Nat}{cs:Array Value}{t:TypeId}{fr:Nat×Nat}(h:Rd w size v n xs)(h0:0<n*size->∃ z,xs[0]?=some (.I z))(hb:w.heap[b]?=some (.cells cs t fr))(hcs:∀ (o:Nat) (z:Int),¬ cs[o]?=some (.I z))(hz:w.heap.size<=w'.heap.size)(ho:∀ j,j<w.heap.size->¬ j=b->w'.heap[j]?=w.heap[j]?):Rd w' size v n xs:=by
 by_cases hn:0<n*size
 ·refine h.same hz (fun j hj he=>ho j hj (fun e=>?_));subst e;obtain⟨hl,ao,cap,rfl,_,hc⟩:=h
  have hn':0<n:=by
   rcases Nat.eq_zero_or_pos n with e | e
   ·subst e;simp at hn
   ·exact e
  obtain⟨b',o,rfl,_,hc⟩:=hc hn';simp only[Value.ownBlock,Option.some.injEq]at he;subst he;obtain⟨z,e⟩:=h0 hn;have:=hc 0 hn;rw[e]at this;simp only[World.cell?,hb]at this;exact hcs o z (by simpa using this)
 ·obtain⟨h3,ao,cap,rfl,h4,h5⟩:=h;refine⟨h3,ao,cap,rfl,h4,fun hp=>?_⟩;obtain⟨b',o,e,hlt,hc⟩:=h5 hp;exact⟨b',o,e,by omega,fun j hj=>absurd (Nat.lt_of_le_of_lt (Nat.zero_le _) hj) hn⟩
theorem RdI.boxless{w w':World}{v:Value}{zs:List Int}{b:Nat}{cs:Array Value}{t:TypeId}{fr:Nat×Nat}(h:RdI w v zs)(hb:w.heap[b]?=some (.cells cs t fr))(hcs:∀ (o:Nat) (z:Int),¬ cs[o]?=some (.I z))(hz:w.heap.size<=w'.heap.size)(ho:∀ j,j<w.heap.size->¬ j=b->w'.heap[j]?=w.heap[j]?):RdI w' v zs :=
 Rd.boxless h (fun hn=>⟨zs[0]'(by simpa using hn),zdx zs 0 (by simpa using hn)⟩) hb hcs hz ho
theorem RdPm.boxless{w w':World}{v:Value}{ws:List Int}{ps:List St}{b:Nat}{cs:Array Value}{t:TypeId}{fr:Nat×Nat}(h:RdPm w v ws ps)(hb:w.heap[b]?=some (.cells cs t fr))(hcs:∀ (o:Nat) (z:Int),¬ cs[o]?=some (.I z))(hz:w.heap.size<=w'.heap.size)(ho:∀ j,j<w.heap.size->¬ j=b->w'.heap[j]?=w.heap[j]?):RdPm w' v ws ps:=by
 obtain⟨vW,vP,rfl,h1,h2⟩:=h;refine⟨vW,vP,rfl,RdI.boxless h1 hb hcs hz ho,Rd.boxless h2 (fun hn=>?_) hb hcs hz ho⟩
 have hl:0<ps.length:=by omega
 have:=zqj ps 0 hl;rw[Nat.zero_mul]at this;exact⟨_,this⟩
theorem RdBlk.boxless{w w':World}{v:Value}{ws:List Int}{ps:List Se}{b:Nat}{cs:Array Value}{t:TypeId}{fr:Nat×Nat}(h:RdBlk w v ws ps)(hb:w.heap[b]?=some (.cells cs t fr))(hcs:∀ (o:Nat) (z:Int),¬ cs[o]?=some (.I z))(hz:w.heap.size<=w'.heap.size)(ho:∀ j,j<w.heap.size->¬ j=b->w'.heap[j]?=w.heap[j]?):RdBlk w' v ws ps:=by
 obtain⟨vW,vP,rfl,h1,h2⟩:=h;refine⟨vW,vP,rfl,RdI.boxless h1 hb hcs hz ho,Rd.boxless h2 (fun hn=>?_) hb hcs hz ho⟩
 have hl:0<ps.length:=by omega
 have:=zxe ps 0 hl;rw[Nat.zero_mul]at this;exact⟨_,this⟩
theorem zea{a b c d:Value}(ha:∀ z,¬ a=.I z)(hb:∀ z,¬ b=.I z)(hc:∀ z,¬ c=.I z)(hd:∀ z,¬ d=.I z):∀ (o:Nat) (z:Int),¬ (#[a,b,c,d]:Array Value)[o]?=some (.I z):=fun o z e=>by
 match o with
 | 0=>simp at e;exact ha z e
 | 1=>simp at e;exact hb z e
 | 2=>simp at e;exact hc z e
 | 3=>simp at e;exact hd z e
 | o+4=>simp at e
theorem zah(a:Option Addr)(n c:Nat)(z:Int):¬ Value.slice a n c=.I z:=fun e=>by cases e
def putD(w:World)(bD bR i j:Nat)(x y a b c d:Value):World:=(((((w.setCell ⟨bD,i,none⟩ x).setCell ⟨bD,j,none⟩ y).setCell ⟨bR,0,none⟩ a).setCell ⟨bR,1,none⟩ b).setCell ⟨bR,2,none⟩ c).setCell ⟨bR,3,none⟩ d
theorem zyl(w:World)(bD bR i j:Nat)(x y a b c d:Value):(putD w bD bR i j x y a b c d).heap.size=w.heap.size:=by simp[putD,World.setCell]
theorem yajt(w:World)(bD bR i j:Nat)(x y a b c d:Value)(k:Nat)(h1:¬ k=bD)(h2:¬ k=bR):(putD w bD bR i j x y a b c d).heap[k]?=w.heap[k]?:=by
 unfold putD;rw[Below.heap_setCell _ _ _ _ h2,Below.heap_setCell _ _ _ _ h2,Below.heap_setCell _ _ _ _ h2,Below.heap_setCell _ _ _ _ h2,Below.heap_setCell _ _ _ _ h1,Below.heap_setCell _ _ _ _ h1]
theorem Rd.put{w:World}{size:Nat}{v:Value}{n:Nat}{xs:List Value}{bD bR i j:Nat}{x y a b c d:Value}{cs cs':Array Value}{t t':TypeId}{fr fr':Nat×Nat}(h:Rd w size v n xs)(h0:0<n*size->∃ z,xs[0]?=some (.I z))(hD:w.heap[bD]?=some (.cells cs t fr))(hcs:∀ (o:Nat) (z:Int),¬ cs[o]?=some (.I z))(hR:w.heap[bR]?=some (.cells cs' t' fr'))(hcs':∀ (o:Nat) (z:Int),¬ cs'[o]?=some (.I z)):Rd (putD w bD bR i j x y a b c d) size v n xs:=by
 by_cases e:v.ownBlock=some bD\/v.ownBlock=some bR
 ·obtain⟨h3,ao,cap,rfl,h4,h5⟩:=h;refine⟨h3,ao,cap,rfl,h4,fun hp=>?_⟩;obtain⟨b',o,rfl,hlt,hc⟩:=h5 hp;refine⟨b',o,rfl,by rw[zyl];exact hlt,fun k hk=>?_⟩;exfalso;obtain⟨z,ez⟩:=h0 (Nat.lt_of_le_of_lt (Nat.zero_le _) hk);have:=hc 0 (Nat.lt_of_le_of_lt (Nat.zero_le _) hk);rw[ez]at this;simp only[Value.ownBlock,Option.some.injEq]at e
  rcases e with rfl|rfl
  ·simp only[World.cell?,hD]at this;exact hcs o z (by simpa using this)
  ·simp only[World.cell?,hR]at this;exact hcs' o z (by simpa using this)
 ·refine h.same (Nat.le_of_eq (zyl ..).symm) (fun k _ he=>yajt _ _ _ _ _ _ _ _ _ _ _ k (fun x=>?_) (fun x=>?_))
  ·subst x;exact e (.inl he)
  ·subst x;exact e (.inr he)
theorem RdI.put{w:World}{v:Value}{zs:List Int}{bD bR i j:Nat}{x y a b c d:Value}{cs cs':Array Value}{t t':TypeId}{fr fr':Nat×Nat}(h:RdI w v zs)(hD:w.heap[bD]?=some (.cells cs t fr))(hcs:∀ (o:Nat) (z:Int),¬ cs[o]?=some (.I z))(hR:w.heap[bR]?=some (.cells cs' t' fr'))(hcs':∀ (o:Nat) (z:Int),¬ cs'[o]?=some (.I z)):RdI (putD w bD bR i j x y a b c d) v zs :=
 Rd.put h (fun hn=>⟨zs[0]'(by simpa using hn),zdx zs 0 (by simpa using hn)⟩) hD hcs hR hcs'
theorem RdPm.put{w:World}{v:Value}{ws:List Int}{ps:List St}{bD bR i j:Nat}{x y a b c d:Value}{cs cs':Array Value}{t t':TypeId}{fr fr':Nat×Nat}(h:RdPm w v ws ps)(hD:w.heap[bD]?=some (.cells cs t fr))(hcs:∀ (o:Nat) (z:Int),¬ cs[o]?=some (.I z))(hR:w.heap[bR]?=some (.cells cs' t' fr'))(hcs':∀ (o:Nat) (z:Int),¬ cs'[o]?=some (.I z)):RdPm (putD w bD bR i j x y a b c d) v ws ps:=by
 obtain⟨vW,vP,rfl,h1,h2⟩:=h;refine⟨vW,vP,rfl,RdI.put h1 hD hcs hR hcs',Rd.put h2 (fun hn=>?_) hD hcs hR hcs'⟩;have:=zqj ps 0 (by omega);rw[Nat.zero_mul]at this;exact⟨_,this⟩
theorem RdBlk.put{w:World}{v:Value}{ws:List Int}{ps:List Se}{bD bR i j:Nat}{x y a b c d:Value}{cs cs':Array Value}{t t':TypeId}{fr fr':Nat×Nat}(h:RdBlk w v ws ps)(hD:w.heap[bD]?=some (.cells cs t fr))(hcs:∀ (o:Nat) (z:Int),¬ cs[o]?=some (.I z))(hR:w.heap[bR]?=some (.cells cs' t' fr'))(hcs':∀ (o:Nat) (z:Int),¬ cs'[o]?=some (.I z)):RdBlk (putD w bD bR i j x y a b c d) v ws ps:=by
 obtain⟨vW,vP,rfl,h1,h2⟩:=h;refine⟨vW,vP,rfl,RdI.put h1 hD hcs hR hcs',Rd.put h2 (fun hn=>?_) hD hcs hR hcs'⟩;have:=zxe ps 0 (by omega);rw[Nat.zero_mul]at this;exact⟨_,this⟩
theorem zhr{B:Nat}{a0 w:World}(h:Below B a0 w){bD bR:Nat}(h1:B<=bD)(h2:B<=bR)(i j:Nat)(x y a b c d:Value):Below B a0 (putD w bD bR i j x y a b c d):=by
 unfold putD
 repeat (refine Below.setCell ?_ (by simp only;omega) _)
 exact h
end Go.Proofs.YtogcbbkhnpmgeaaGreatDoor
