import Derived.Test.YtdiaiejmoocpmaaGreatDoorZBC
set_option maxRecDepth 100000
set_option maxHeartbeats 8000000
namespace Go.Proofs.YtdiaiejmoocpmaaGreatDoor
open Go.RowKit
def SB(w:World):Prop:=∃ t fr,w.heap[0]?=some (.cells #[.I 0,.I 0,.I 336,.I 1099511627776,.I 336,.I 1,.I 1,.I 1,.I 32,.I 1099511627776,.I 1,.I 1] t fr)
theorem SB.lt{w:World}(h:SB w):0<w.heap.size:=by
 obtain⟨t,fr,h⟩:=h;exact(Array.getElem?_eq_some_iff.1 h).1
theorem SB.below{w w':World}(h:SB w)(hb:zB w w'):SB w':=by
 have hl:=h.lt;obtain⟨t,fr,h⟩:=h;exact⟨t,fr,(hb.block _ hl).trans h⟩
theorem SB.cells{w:World}(h:SB w):w.cell? ⟨0,0,none⟩=some (.I 0)/\w.cell? ⟨0,1,none⟩=some (.I 0)/\w.cell? ⟨0,2,none⟩=some (.I 336)/\w.cell? ⟨0,3,none⟩=some (.I 1099511627776)/\w.cell? ⟨0,4,none⟩=some (.I 336)/\w.cell? ⟨0,5,none⟩=some (.I 1)/\w.cell? ⟨0,6,none⟩=some (.I 1)/\w.cell? ⟨0,7,none⟩=some (.I 1)/\w.cell? ⟨0,8,none⟩=some (.I 32)/\w.cell? ⟨0,9,none⟩=some (.I 1099511627776)/\w.cell? ⟨0,10,none⟩=some (.I 1)/\w.cell? ⟨0,11,none⟩=some (.I 1):=by
 obtain⟨t,fr,h⟩:=h;simp[World.cell?,h]
theorem zkj{k a x:Int}(h:(k=1/\(0<=a/\a<336)/\0<=x/\x<1099511627776)\/(k=2/\(0<=a/\a<336)/\x=0)\/(k=4/\(0<=a/\a<32)/\0<=x/\x<1099511627776)\/((k=3\/k=5)/\a=0/\x=0)):miB ⟨k,a,x⟩=true:=(zjk k a x).2 h
theorem zfq{k a x:Int}(h:¬ ((k=1/\(0<=a/\a<336)/\0<=x/\x<1099511627776)\/(k=2/\(0<=a/\a<336)/\x=0)\/(k=4/\(0<=a/\a<32)/\0<=x/\x<1099511627776)\/((k=3\/k=5)/\a=0/\x=0))):miB ⟨k,a,x⟩=false:=by
 cases e:miB ⟨k,a,x⟩ with
 | false=>rfl
 | true=>exact absurd ((zjk k a x).1 e) h
theorem zxy(k a x:Int)(w:World)(hS:SB w):zC 31 #[.agg #[.I k,.I a,.I x]] w fun e w'=>e=.returned (.bool (miB ⟨k,a,x⟩))/\zB w w':=by
 have hb0:zB w (w.alloc (.cells #[.I k,.I a,.I x] 84)):=zR.alloc zL _;obtain⟨c0,c1,c2,c3,c4,c5,c6,c7,c8,c9,c10,c11⟩:=(hS.below hb0).cells;clear hS
 by_cases hk:0<=k/\k<6
 case neg =>
  have E:=zaa (zfq (k:=k) (a:=a) (x:=x) (by omega));have HK:=zaa hk;clear hk c0 c1 c2 c3 c4 c5 c6 c7 c8 c9 c10 c11;go_enter Tryz.func31,Tryz.ntmps31;go_wp2_with (go_at_call 50;refine(zbe _ _ _ HK.o).mono ?_;rintro e w' ⟨rfl,rfl⟩);go_ret;exact⟨zag E.o.symm,hb0⟩
 rcases(show k=0\/k=1\/k=2\/k=3\/k=4\/k=5 by omega)with rfl|rfl|rfl|rfl|rfl|rfl
 ·have hb1:zB w ((w.alloc (.cells #[.I 0,.I a,.I x] 84)).alloc (.cells #[.I 0,.I 0] 126)):=hb0.alloc (by simp) _;clear c2 c3 c4 c5 c6 c7 c8 c9 c10 c11;have E:=zaa (zfq (k:=0) (a:=a) (x:=x) (by omega))
  have HA:Hid (¬ (0<=a/\a<0)):=fun h=>by omega
  go_enter Tryz.func31,Tryz.ntmps31;go_wp2_with (first | (go_at_call 50;refine(zaq _ _ _ (by omega)).mono ?_;rintro e w' ⟨rfl,rfl⟩) | (go_at_call 50;refine(zbe _ _ _ HA.o).mono ?_;rintro e w' ⟨rfl,rfl⟩));go_ret;exact⟨zag E.o.symm,hb1⟩
 ·have hb1:zB w ((w.alloc (.cells #[.I 1,.I a,.I x] 84)).alloc (.cells #[.I 336,.I 1099511627776] 126)):=hb0.alloc (by simp) _;clear c0 c1 c4 c5 c6 c7 c8 c9 c10 c11
  by_cases ha:0<=a/\a<336
  ·by_cases hx:0<=x/\x<1099511627776
   ·have E:=zaa (zkj (k:=1) (a:=a) (x:=x) (by omega));go_enter Tryz.func31,Tryz.ntmps31;go_wp2_with (go_at_call 50;refine(zaq _ _ _ (by omega)).mono ?_;rintro e w' ⟨rfl,rfl⟩);go_ret;exact⟨zag E.o.symm,hb1⟩
   ·have E:=zaa (zfq (k:=1) (a:=a) (x:=x) (by omega));have HX:=zaa hx;clear hx;go_enter Tryz.func31,Tryz.ntmps31;go_wp2_with (first | (go_at_call 50;refine(zaq _ _ _ (by omega)).mono ?_;rintro e w' ⟨rfl,rfl⟩) | (go_at_call 50;refine(zbe _ _ _ HX.o).mono ?_;rintro e w' ⟨rfl,rfl⟩));go_ret;exact⟨zag E.o.symm,hb1⟩
  ·have E:=zaa (zfq (k:=1) (a:=a) (x:=x) (by omega));have HA:=zaa ha;clear ha;go_enter Tryz.func31,Tryz.ntmps31;go_wp2_with (first | (go_at_call 50;refine(zaq _ _ _ (by omega)).mono ?_;rintro e w' ⟨rfl,rfl⟩) | (go_at_call 50;refine(zbe _ _ _ HA.o).mono ?_;rintro e w' ⟨rfl,rfl⟩));go_ret;exact⟨zag E.o.symm,hb1⟩
 ·have hb1:zB w ((w.alloc (.cells #[.I 2,.I a,.I x] 84)).alloc (.cells #[.I 336,.I 1] 126)):=hb0.alloc (by simp) _;clear c0 c1 c2 c3 c6 c7 c8 c9 c10 c11
  by_cases ha:0<=a/\a<336
  ·by_cases hx:0<=x/\x<1
   ·have E:=zaa (zkj (k:=2) (a:=a) (x:=x) (by omega));go_enter Tryz.func31,Tryz.ntmps31;go_wp2_with (go_at_call 50;refine(zaq _ _ _ (by omega)).mono ?_;rintro e w' ⟨rfl,rfl⟩);go_ret;exact⟨zag E.o.symm,hb1⟩
   ·have E:=zaa (zfq (k:=2) (a:=a) (x:=x) (by omega));have HX:=zaa hx;clear hx;go_enter Tryz.func31,Tryz.ntmps31;go_wp2_with (first | (go_at_call 50;refine(zaq _ _ _ (by omega)).mono ?_;rintro e w' ⟨rfl,rfl⟩) | (go_at_call 50;refine(zbe _ _ _ HX.o).mono ?_;rintro e w' ⟨rfl,rfl⟩));go_ret;exact⟨zag E.o.symm,hb1⟩
  ·have E:=zaa (zfq (k:=2) (a:=a) (x:=x) (by omega));have HA:=zaa ha;clear ha;go_enter Tryz.func31,Tryz.ntmps31;go_wp2_with (first | (go_at_call 50;refine(zaq _ _ _ (by omega)).mono ?_;rintro e w' ⟨rfl,rfl⟩) | (go_at_call 50;refine(zbe _ _ _ HA.o).mono ?_;rintro e w' ⟨rfl,rfl⟩));go_ret;exact⟨zag E.o.symm,hb1⟩
 ·have hb1:zB w ((w.alloc (.cells #[.I 3,.I a,.I x] 84)).alloc (.cells #[.I 1,.I 1] 126)):=hb0.alloc (by simp) _;clear c0 c1 c2 c3 c4 c5 c8 c9 c10 c11
  by_cases ha:0<=a/\a<1
  ·by_cases hx:0<=x/\x<1
   ·have E:=zaa (zkj (k:=3) (a:=a) (x:=x) (by omega));go_enter Tryz.func31,Tryz.ntmps31;go_wp2_with (go_at_call 50;refine(zaq _ _ _ (by omega)).mono ?_;rintro e w' ⟨rfl,rfl⟩);go_ret;exact⟨zag E.o.symm,hb1⟩
   ·have E:=zaa (zfq (k:=3) (a:=a) (x:=x) (by omega));have HX:=zaa hx;clear hx;go_enter Tryz.func31,Tryz.ntmps31;go_wp2_with (first | (go_at_call 50;refine(zaq _ _ _ (by omega)).mono ?_;rintro e w' ⟨rfl,rfl⟩) | (go_at_call 50;refine(zbe _ _ _ HX.o).mono ?_;rintro e w' ⟨rfl,rfl⟩));go_ret;exact⟨zag E.o.symm,hb1⟩
  ·have E:=zaa (zfq (k:=3) (a:=a) (x:=x) (by omega));have HA:=zaa ha;clear ha;go_enter Tryz.func31,Tryz.ntmps31;go_wp2_with (first | (go_at_call 50;refine(zaq _ _ _ (by omega)).mono ?_;rintro e w' ⟨rfl,rfl⟩) | (go_at_call 50;refine(zbe _ _ _ HA.o).mono ?_;rintro e w' ⟨rfl,rfl⟩));go_ret;exact⟨zag E.o.symm,hb1⟩
 ·have hb1:zB w ((w.alloc (.cells #[.I 4,.I a,.I x] 84)).alloc (.cells #[.I 32,.I 1099511627776] 126)):=hb0.alloc (by simp) _;clear c0 c1 c2 c3 c4 c5 c6 c7 c10 c11
  by_cases ha:0<=a/\a<32
  ·by_cases hx:0<=x/\x<1099511627776
   ·have E:=zaa (zkj (k:=4) (a:=a) (x:=x) (by omega));go_enter Tryz.func31,Tryz.ntmps31;go_wp2_with (go_at_call 50;refine(zaq _ _ _ (by omega)).mono ?_;rintro e w' ⟨rfl,rfl⟩);go_ret;exact⟨zag E.o.symm,hb1⟩
   ·have E:=zaa (zfq (k:=4) (a:=a) (x:=x) (by omega));have HX:=zaa hx;clear hx;go_enter Tryz.func31,Tryz.ntmps31;go_wp2_with (first | (go_at_call 50;refine(zaq _ _ _ (by omega)).mono ?_;rintro e w' ⟨rfl,rfl⟩) | (go_at_call 50;refine(zbe _ _ _ HX.o).mono ?_;rintro e w' ⟨rfl,rfl⟩));go_ret;exact⟨zag E.o.symm,hb1⟩
  ·have E:=zaa (zfq (k:=4) (a:=a) (x:=x) (by omega));have HA:=zaa ha;clear ha;go_enter Tryz.func31,Tryz.ntmps31;go_wp2_with (first | (go_at_call 50;refine(zaq _ _ _ (by omega)).mono ?_;rintro e w' ⟨rfl,rfl⟩) | (go_at_call 50;refine(zbe _ _ _ HA.o).mono ?_;rintro e w' ⟨rfl,rfl⟩));go_ret;exact⟨zag E.o.symm,hb1⟩
 ·have hb1:zB w ((w.alloc (.cells #[.I 5,.I a,.I x] 84)).alloc (.cells #[.I 1,.I 1] 126)):=hb0.alloc (by simp) _;clear c0 c1 c2 c3 c4 c5 c6 c7 c8 c9
  by_cases ha:0<=a/\a<1
  ·by_cases hx:0<=x/\x<1
   ·have E:=zaa (zkj (k:=5) (a:=a) (x:=x) (by omega));go_enter Tryz.func31,Tryz.ntmps31;go_wp2_with (go_at_call 50;refine(zaq _ _ _ (by omega)).mono ?_;rintro e w' ⟨rfl,rfl⟩);go_ret;exact⟨zag E.o.symm,hb1⟩
   ·have E:=zaa (zfq (k:=5) (a:=a) (x:=x) (by omega));have HX:=zaa hx;clear hx;go_enter Tryz.func31,Tryz.ntmps31;go_wp2_with (first | (go_at_call 50;refine(zaq _ _ _ (by omega)).mono ?_;rintro e w' ⟨rfl,rfl⟩) | (go_at_call 50;refine(zbe _ _ _ HX.o).mono ?_;rintro e w' ⟨rfl,rfl⟩));go_ret;exact⟨zag E.o.symm,hb1⟩
  ·have E:=zaa (zfq (k:=5) (a:=a) (x:=x) (by omega));have HA:=zaa ha;clear ha;go_enter Tryz.func31,Tryz.ntmps31;go_wp2_with (first | (go_at_call 50;refine(zaq _ _ _ (by omega)).mono ?_;rintro e w' ⟨rfl,rfl⟩) | (go_at_call 50;refine(zbe _ _ _ HA.o).mono ?_;rintro e w' ⟨rfl,rfl⟩));go_ret;exact⟨zag E.o.symm,hb1⟩
def misB(ps:List Mi):Bool:=decide (∀ k (h:k<ps.length),miB ps[k]=true)
theorem yakt{ps:List Mi}(h:misB ps=true):∀ k (h:k<ps.length),miB ps[k]=true:=of_decide_eq_true h
theorem yaye{ps:List Mi}(h:∀ k (h:k<ps.length),miB ps[k]=true):misB ps=true:=decide_eq_true h
theorem yatx{ps:List Mi}{k:Nat}(hk:k<ps.length)(h:miB ps[k]=false):misB ps=false:=decide_eq_false (fun x=>by have:=x k hk;rw[h]at this;cases this)
theorem zml(v:Value)(ps:List Mi)(w:World)(hS:SB w)(h:RdM w v ps)(hn:ps.length<=1048576) :
  zC 30 #[v,.func (.func 31) #[] #[]] w fun e w'=>e=.returned (.bool (misB ps))/\zB w w':=by
 obtain⟨aP,cP,rfl,_,hcP⟩:=h.shape;have HS:=zaa hS;clear h hS;go_enter Tryz.func30,Tryz.ntmps30;go_wp2
 go_loopw [6,9] (fun _ i wr=>∃ k:Nat,k<=ps.length/\i=.I k/\Hid (∀ j (h:j<ps.length),j<k->miB ps[j]=true)/\zB w wr) (fun _ i _=>ps.length-(intOf i).toNat)
 case atStart=>exact⟨0,by omega,rfl,fun j h a=>absurd a (by omega),zR⟩
 case round =>
  obtain⟨m,hm,rfl,H,hbw⟩:=hrel;have hz:=hbw.size
  by_cases hlt2:m<ps.length
  ·obtain⟨b2,o2,rfl,hbl2,hcell2⟩:=hcP (by omega);obtain⟨d0,d1,d2⟩:=hcell2 m hlt2;have e0:=(hbw.cell (p:=⟨b2,o2+m*3,none⟩) hbl2).trans d0;have e1:=(hbw.cell (p:=⟨b2,o2+m*3+1,none⟩) hbl2).trans d1;have e2:=(hbw.cell (p:=⟨b2,o2+m*3+2,none⟩) hbl2).trans d2;have hb1:=zaa (hbw.alloc hz (.cells #[.I ps[m].kind,.I ps[m].at_,.I ps[m].val] 84));clear d0 d1 d2 hcell2 hcP
   by_cases q:miB ps[m]=true
   ·have Q:=zaa q;clear q;go_wp2_with (go_at_call 31;refine(zxy ps[m].kind ps[m].at_ ps[m].val _ (HS.o.below hb1.o)).mono ?_;rw[Q.o];rintro e w' ⟨rfl,hw'⟩);have hw2:=hb1.o.trans (hw'.mono (by simp;omega));clear hb1 hw'
    go_roundw
    case rel =>
     refine⟨m+1,by omega,by go_num,fun j h a=>?_,hw2⟩
     by_cases e:j=m
     ·subst e;exact Q.o
     ·exact H.o j h (by omega)
    case measure=>simp[intOf];omega
   ·have Q:=zaa (show miB ps[m]=false by simpa using q);have E:=zaa (yatx hlt2 Q.o);clear q;go_wp2_with (go_at_call 31;refine(zxy ps[m].kind ps[m].at_ ps[m].val _ (HS.o.below hb1.o)).mono ?_;rw[Q.o];rintro e w' ⟨rfl,hw'⟩);have hw2:=hb1.o.trans (hw'.mono (by simp;omega));go_ret;exact⟨zag E.o.symm,hw2⟩
  ·have E:=zaa (yaye (fun j h=>H.o j h (by omega)));go_wp2;go_ret;exact⟨zag E.o.symm,hbw⟩
theorem zfe(v:Value)(ws:List Int)(ps:List St)(es:List Int)(qs:List Se)(w:World)(h:RdDev w v ws ps es qs)(hw:ws.length<=1048576)(hp:ps.length<=1048576)(he:es.length<=1048576)(hq:qs.length<=1048576) :
  zC 29 #[v] w fun e w'=>e=.returned (.bool (pmB ws ps&&zdk es qs))/\zB w w':=by
 obtain⟨aW,cW,aP,cP,aS,cS,aQ,cQ,rfl,h1,h2⟩:=h.form;have H1:=zaa h1;have H2:=zaa h2;clear h h1 h2;have hb0:zB w (w.alloc (.cells #[.slice aW ws.length cW,.slice aP ps.length cP,.slice aS es.length cS,.slice aQ qs.length cQ] 31)):=zR.alloc zL _
 by_cases c:pmB ws ps=true
 ·have C:=zaa c;rw[c];clear c;go_enter Tryz.func29,Tryz.ntmps29;go_wp2_with fail;refine(zcr _ ws ps _ (H1.o.below hb0) hw hp).mono ?_;rw[C.o];rintro e w1 ⟨rfl,hb1⟩;obtain⟨x0,x1,x2,x3,-,-,-,-⟩:=zai ((hb1.block w.heap.size (by simp)).trans (zaf rfl));have B1:=zaa (zab hb0 hb1 (by simp));clear hb0 hb1;go_wp2_with fail;refine(zdd _ es qs _ (H2.o.below B1.o) he hq).mono ?_;rintro e w2 ⟨rfl,hb2⟩;have B2:=zaa (zab B1.o hb2 B1.o.size);clear hb2;go_wp2;go_ret;exact⟨rfl,B2.o⟩
 ·have c':pmB ws ps=false:=by simpa using c
  have C:=zaa c';rw[c'];clear c c';go_enter Tryz.func29,Tryz.ntmps29;go_wp2_with fail;refine(zcr _ ws ps _ (H1.o.below hb0) hw hp).mono ?_;rw[C.o];rintro e w1 ⟨rfl,hb1⟩;have B1:=zaa (zab hb0 hb1 (by simp));clear hb0 hb1;go_wp2;go_ret;exact⟨rfl,B1.o⟩
def CopyInvB(w a:World)(x y:Value):Prop:=zB w a/\a.heap[w.heap.size]?=some (.cells #[x,y] 29 (0,0))/\a.heap[w.heap.size+1]?=some (.cells #[.N,.N] 29 (0,0))
theorem CopyInvB.grown{w a b:World}{x y:Value}(h:CopyInvB w a x y)(hg:a.grownBy b none):CopyInvB w b x y:=by
 obtain⟨h1,h2,h3⟩:=h;have l2:=(Array.getElem?_eq_some_iff.1 h2).1;have l3:=(Array.getElem?_eq_some_iff.1 h3).1;exact⟨h1.grown hg h1.size (fun k hk=>by cases hk),(hg.block _ l2 (by simp)).trans h2,(hg.block _ l3 (by simp)).trans h3⟩
theorem CopyInvB.rd{w a:World}{x y:Value}(h:CopyInvB w a x y){size:Nat}{v:Value}{n:Nat}{xs:List Value}(hr:Rd w size v n xs):Rd a size v n xs:=hr.below h.1
theorem CopyInvB.base{w a:World}{x y:Value}(h:CopyInvB w a x y):w.heap.size+2<=a.heap.size:=(Array.getElem?_eq_some_iff.1 h.2.2).1
theorem Row.grownNoneB{a b:World}{e:TypeId}{size lo:Nat}{v:Value}{n:Nat}{xs:List Value}(h:Row a e size lo a.heap.size v n xs)(hg:a.grownBy b none):Row b e size lo b.heap.size v n xs :=
 (h.same (fun k _ hk=>hg.block k hk (by simp))).wide zL hg.size
theorem zxw{w b:World}{x y v1 v2:Value}{ws:List Int}{ps:List Se}(hI:CopyInvB w b x y)(r1:Row b 3 1 (w.heap.size+2) b.heap.size v1 ws.length (zcl ws))(r2:Row b 153 2 (w.heap.size+2) b.heap.size v2 ps.length (ses ps)) :
  RowBlk3 ((b.setCell ⟨w.heap.size+1,0,none⟩ v1).setCell ⟨w.heap.size+1,1,none⟩ v2) w.heap.size ((b.setCell ⟨w.heap.size+1,0,none⟩ v1).setCell ⟨w.heap.size+1,1,none⟩ v2).heap.size (.agg #[v1,v2]) ws ps /\
   zB w ((b.setCell ⟨w.heap.size+1,0,none⟩ v1).setCell ⟨w.heap.size+1,1,none⟩ v2):=by
 refine⟨⟨_,_,rfl,(r1.same fun k h1 h2=>?_).wide (by omega) (by simp),(r2.same fun k h1 h2=>?_).wide (by omega) (by simp)⟩,(hI.1.setCell (by simp only;omega) _).setCell (by simp only;omega) _⟩
 ·rw[Below.heap_setCell _ _ _ _ (by simp only;omega),Below.heap_setCell _ _ _ _ (by simp only;omega)]
 ·rw[Below.heap_setCell _ _ _ _ (by simp only;omega),Below.heap_setCell _ _ _ _ (by simp only;omega)]
theorem zkx(v:Value)(ws:List Int)(ps:List Se)(w:World)(h:RdBlk w v ws ps)(hw:ws.length<=2147483648)(hp:ps.length<=2147483648) :
  zC 75 #[v] w fun e w'=>∃ v',e=.returned v'/\RowBlk3 w' w.heap.size w'.heap.size v' ws ps/\zB w w':=by
 obtain⟨vW,vP,rfl,h1,h2⟩:=h;have H1:=zaa h1;have H2:=zaa h2;obtain⟨aW,cW,rfl,_⟩:=h1.shape;obtain⟨aP,cP,rfl,_⟩:=h2.shape;clear h1 h2
 have I0:CopyInvB w ((w.alloc (.cells #[.slice aW ws.length cW,.slice aP ps.length cP] 29)).alloc (.cells #[.N,.N] 29)).drew (.slice aW ws.length cW) (.slice aP ps.length cP):=by
  refine⟨Below.drew ?_,zaj (zaf rfl),zaf (by simp)⟩
  repeat (refine Below.alloc ?_ (by simp<;>omega) _)
  exact zR
 have HI:=zaa I0;clear I0;go_enter Tryz.func75,Tryz.ntmps75;go_wp2_with fail
 go_region_law (first
  | (refine zap rfl (.const (.N)) (.tmp 4) 23 rfl (w.heap.size+2) 3 (.I 0) 1 8 Tryz.underlying23 zim rfl (by decide) (.N) 0 [] rfl (World.ownsRow_nil _ _ _ _) (.slice aW ws.length cW) ws.length (zcl ws) rfl (by first | exact HI.o.rd H1.o | exact CopyInvB.rd (Hid.o ‹_›) H1.o) (zeg ws) (by simp[maxLen];omega) (by omega) (by first | exact HI.o.base | exact CopyInvB.base (Hid.o ‹_›)) ?_;intro v1 w1 hown1 hgr1;have hown1:w1.ownsRow (w.heap.size+2) 3 1 v1 ws.length (zcl ws):=(by simpa using hown1);have I1:=zaa (CopyInvB.grown (by first | exact HI.o | exact Hid.o ‹_›) hgr1);obtain⟨_,a1,c1,rfl,_⟩:=(zad hown1).rd;obtain⟨x1,x2,x3,x4⟩:=zac I1.o.2.1;obtain⟨y1,y2,y3,y4⟩:=zac I1.o.2.2)
  | (refine zap rfl (.const (.N)) (.tmp 7) 27 rfl (w.heap.size+2) 153 (.agg #[.I 0,.I 0]) 2 16 Tryz.underlying27 zqn rfl (by decide) (.N) 0 [] rfl (World.ownsRow_nil _ _ _ _) (.slice aP ps.length cP) ps.length (ses ps) rfl (by first | exact HI.o.rd H2.o | exact CopyInvB.rd (Hid.o ‹_›) H2.o) (yacp ps) (by simp[maxLen];omega) (by omega) (by first | exact HI.o.base | exact CopyInvB.base (Hid.o ‹_›)) ?_;intro v2 w2 hown2 hgr2;have hown2:w2.ownsRow (w.heap.size+2) 153 2 v2 ps.length (ses ps):=(by simpa using hown2);have I2:=zaa (CopyInvB.grown (by first | exact HI.o | exact Hid.o ‹_›) hgr2);obtain⟨_,a2,c2,rfl,_⟩:=(zad hown2).rd;obtain⟨z1,z2,z3,z4⟩:=zac I2.o.2.1;obtain⟨t1,t2,t3,t4⟩:=zac I2.o.2.2))
 all_goals
  go_wp2;refine bodyPost_ret (v:=.agg #[.slice a1 ws.length c1,.slice a2 ps.length c2]) (by first | (simp[results,Tryz.results75,go_sem,t1,t2];done) | (simp[results,Tryz.results75,go_sem,y1,y2];done)) rfl ?_;refine⟨_,rfl,?_⟩
  first
   | exact zxw I2.o (Row.grownNoneB (zad hown1) hgr2) (zad hown2)
   | exact zxw I1.o (zad hown1) (Row.grownNoneB (zad hown2) hgr1)
theorem zow(v:Value)(ws:List Int)(ps:List Se)(at_ x:Int)(w:World)(h:RdBlk w v ws ps)(hw:ws.length<=1048576)(hp:ps.length<=1048576) :
  zC 79 #[v,.I at_,.I x] w fun e w'=>∃ v',e=.returned (.tuple #[v',.I (zeu ws ps at_ x)])/\RowBlk w' w.heap.size w'.heap.size v' (zdm ws ps at_ x) (zdn ws ps at_ x)/\zB w w':=by
 have HR:=zaa h;obtain⟨vW,vP,rfl,h1,h2⟩:=h;obtain⟨aW,cW,rfl,_⟩:=h1.shape;obtain⟨aP,cP,rfl,_⟩:=h2.shape;clear h1 h2
 have hb0:zB w ((w.alloc (.cells #[.slice aW ws.length cW,.slice aP ps.length cP] 29)).alloc (.cells #[.N,.N] 29)):=by
  repeat (refine Below.alloc ?_ (by simp<;>omega) _)
  exact zR
 rcases zla ws ps at_ x with ⟨hc,e1,e2,e3⟩ | ⟨hc,hx,e1,e2,e3⟩ | ⟨hc,hx,hl,e1,e2,e3⟩ | ⟨hc,hx,hl,e1,e2,e3⟩
 ·rw[e1,e2,e3];clear e1 e2 e3
  have hne:(zmh ws ps at_ != 0)=true:=by rcases hc with hc | hc<;>simp[hc]
  clear hc;go_enter Tryz.func79,Tryz.ntmps79;go_wp2_with fail;refine(zda _ ws ps _ _ (HR.o.below hb0) hw hp).mono ?_;rintro e w1 ⟨rfl,hb1⟩;have V1:=(hb1.block (w.heap.size+1) (by simp)).trans (zaf (by simp));obtain⟨t1,t2,t3,t4⟩:=zac V1;have B1:=zaa (zab hb0 hb1 (by simp<;>omega));clear hb0 hb1 V1;go_wp2;refine bodyPost_ret (v:=.tuple #[.agg #[.N,.N],.I (zmh ws ps at_)]) (by simp[results,Tryz.results79,go_sem,t1,t2]) rfl ?_;exact⟨_,rfl,RowBlk.zero _ _ _,(B1.o.setCell (by simp only;omega) _).setCell (by simp only;omega) _⟩
 ·rw[e1,e2,e3];clear e1 e2 e3;have C:=zaa hc;clear hc;go_enter Tryz.func79,Tryz.ntmps79;go_wp2_with fail;refine(zda _ ws ps _ _ (HR.o.below hb0) hw hp).mono ?_;rw[C.o];rintro e w1 ⟨rfl,hb1⟩
  have hz1:w.heap.size+2<=w1.heap.size:=by have:=hb1.size;simp at this;omega
  have V0:=(hb1.block w.heap.size (by simp<;>omega)).trans (zaj (zaf rfl));have V1:=(hb1.block (w.heap.size+1) (by simp)).trans (zaf (by simp));obtain⟨x1,x2,x3,x4⟩:=zac V0;obtain⟨t1,t2,t3,t4⟩:=zac V1;have B1:=zaa (zab hb0 hb1 (by simp<;>omega));have VH:=zaa (And.intro V0 V1);clear hb0 hb1 V0 V1;go_wp2_with (go_at_call 51;refine(zce _ _).mono ?_;rintro e w1 ⟨rfl,rfl⟩);refine bodyPost_ret (v:=.tuple #[.agg #[.N,.N],.I 4]) (by simp[results,Tryz.results79,go_sem,t1,t2]) rfl ?_;exact⟨_,rfl,RowBlk.zero _ _ _,(B1.o.setCell (by simp only;omega) _).setCell (by simp only;omega) _⟩
 ·rw[e1,e2,e3];clear e1 e2 e3;have C:=zaa hc
  have hl':((ps.length:Int) == 400)=true:=by simp[hl]
  clear hc hl;go_enter Tryz.func79,Tryz.ntmps79;go_wp2_with fail;refine(zda _ ws ps _ _ (HR.o.below hb0) hw hp).mono ?_;rw[C.o];rintro e w1 ⟨rfl,hb1⟩
  have hz1:w.heap.size+2<=w1.heap.size:=by have:=hb1.size;simp at this;omega
  have V0:=(hb1.block w.heap.size (by simp<;>omega)).trans (zaj (zaf rfl));have V1:=(hb1.block (w.heap.size+1) (by simp)).trans (zaf (by simp));obtain⟨x1,x2,x3,x4⟩:=zac V0;have B1:=zaa (zab hb0 hb1 (by simp<;>omega));have VH:=zaa (And.intro V0 V1);clear hb0 hb1 V0 V1;go_wp2_with (go_at_call 51;refine(zce _ _).mono ?_;rintro e w1 ⟨rfl,rfl⟩);refine(zkx _ ws ps _ (HR.o.below B1.o) (by omega) (by omega)).mono ?_;rintro e w2 ⟨v2,rfl,hr2,hb2⟩;obtain⟨vW2,vP2,rfl,hI2,hS2⟩:=hr2;obtain⟨aW2,cW2,rfl⟩:=RdI.form hI2.rd rfl;obtain⟨aP2,cP2,rfl⟩:=RdE.form hS2.rd rfl;have hz2:=hb2.size;have B2:=zaa (zab B1.o hb2 (by omega));have V2:=zaa ((hb2.block _ hz1).trans VH.o.2);have RI:=zaa hI2;have RS:=zaa hS2;clear hb2 hI2 hS2 x1 x2 x3 x4;obtain⟨t5,t6,t7,t8⟩:=zac (zaj (o:=.cells #[.slice aW2 ws.length cW2,.slice aP2 ps.length cP2] 29) V2.o);go_wp2;refine bodyPost_ret (v:=.tuple #[.agg #[.slice aW2 ws.length cW2,.slice aP2 ps.length cP2],.I 7]) (by simp[results,Tryz.results79,go_sem,t5,t6]) rfl ?_
  have hrow:RowBlk w2 w1.heap.size w2.heap.size (.agg #[.slice aW2 ws.length cW2,.slice aP2 ps.length cP2]) ws ps:=⟨_,_,rfl,RI.o.z,RS.o⟩
  exact⟨_,rfl,(((hrow.alloc zL _).setCell (by simp only;omega) _).setCell (by simp only;omega) _).wide (by omega) (by simp),((B2.o.alloc (by omega) _).setCell (by simp only;omega) _).setCell (by simp only;omega) _⟩
 ·rw[e1,e2,e3];clear e1 e2 e3;have C:=zaa hc
  have hl':((ps.length:Int) == 400)=false:=by simp;omega
  clear hc hl;go_enter Tryz.func79,Tryz.ntmps79;go_wp2_with fail;refine(zda _ ws ps _ _ (HR.o.below hb0) hw hp).mono ?_;rw[C.o];rintro e w1 ⟨rfl,hb1⟩
  have hz1:w.heap.size+2<=w1.heap.size:=by have:=hb1.size;simp at this;omega
  have V0:=(hb1.block w.heap.size (by simp<;>omega)).trans (zaj (zaf rfl));have V1:=(hb1.block (w.heap.size+1) (by simp)).trans (zaf (by simp));obtain⟨x1,x2,x3,x4⟩:=zac V0;have B1:=zaa (zab hb0 hb1 (by simp<;>omega));have VH:=zaa (And.intro V0 V1);clear hb0 hb1 V0 V1;go_wp2_with (go_at_call 51;refine(zce _ _).mono ?_;rintro e w1 ⟨rfl,rfl⟩);refine(zkx _ ws ps _ (HR.o.below B1.o) (by omega) (by omega)).mono ?_;rintro e w2 ⟨v2,rfl,hr2,hb2⟩;obtain⟨vW2,vP2,rfl,hI2,hS2⟩:=hr2;obtain⟨aW2,cW2,rfl⟩:=RdI.form hI2.rd rfl;obtain⟨aP2,cP2,rfl⟩:=RdE.form hS2.rd rfl;have hz2:=hb2.size;have B2:=zaa (zab B1.o hb2 (by omega));have V2:=zaa ((hb2.block _ hz1).trans VH.o.2);have RI:=zaa hI2;have RS:=zaa hS2;clear hb2 hI2 hS2 x1 x2 x3 x4;have V9:Hid (((w2.alloc (.cells #[.slice aW2 ws.length cW2,.slice aP2 ps.length cP2] 29)).alloc (.cells #[.I at_,.I x] 153)).heap[w2.heap.size]?=some (.cells #[.slice aW2 ws.length cW2,.slice aP2 ps.length cP2] 29 (0,0))):=zaj (zaf rfl);have V3:=zaa (zaj (o:=.cells #[.I at_,.I x] 153) (zaj (o:=.cells #[.slice aW2 ws.length cW2,.slice aP2 ps.length cP2] 29) V2.o));have B3:=zaa ((B2.o.alloc (by omega) (.cells #[.slice aW2 ws.length cW2,.slice aP2 ps.length cP2] 29)).alloc (by simp;omega) (.cells #[.I at_,.I x] 153))
  have bb:zB w2 ((w2.alloc (.cells #[.slice aW2 ws.length cW2,.slice aP2 ps.length cP2] 29)).alloc (.cells #[.I at_,.I x] 153)):=by
   repeat (refine Below.alloc ?_ (by simp<;>omega) _)
   exact zR
  have RI3:=zaa (RI.o.below bb zL);have RS3:=zaa (RS.o.below bb zL)
  have hr2:Rd ((w2.alloc (.cells #[.slice aW2 ws.length cW2,.slice aP2 ps.length cP2] 29)).alloc (.cells #[.I at_,.I x] 153)) 2 (.slice (some ⟨w2.heap.size+1,0,none⟩) 1 1) 1 (Se.cells ⟨at_,x⟩):=by
   refine⟨rfl,_,_,rfl,⟨Nat.le_refl _,fun e=>by cases e⟩,fun _=>⟨w2.heap.size+1,0,rfl,by simp,fun j hj=>?_⟩⟩;obtain⟨e0,e1,-,-⟩:=zac (zaf (w:=w2.alloc (.cells #[.slice aW2 ws.length cW2,.slice aP2 ps.length cP2] 29)) (o:=.cells #[.I at_,.I x] 153) (k:=w2.heap.size+1) (by simp));rw[Nat.zero_add]
   rcases(show j=0\/j=1 from by omega)with rfl|rfl
   ·exact e0
   ·exact e1
  have HR2:=zaa hr2;clear hr2 bb;go_wp2_with (at_builtin;refine zae _ rfl (.tmp 29) (.tmp 33) 27 rfl w1.heap.size 153 (.agg #[.I 0,.I 0]) 2 16 Tryz.underlying27 zqn rfl (by decide) _ ps.length (ses ps) rfl RS3.o.1 _ 1 (Se.cells ⟨at_,x⟩) rfl HR2.o (fun u hu=>by simp[Se.cells]at hu;rcases hu with rfl|rfl<;>rfl) (by simp[maxLen];omega) (by omega) (by simp;omega) ?_);intro v3 w3 hown3 hgr3
  have hr3:Row w3 153 2 w1.heap.size w3.heap.size v3 (ps++[(⟨at_,x⟩:Se)]).length (ses (ps++[⟨at_,x⟩])):=by
   rw[yady,List.length_append];exact zad hown3
  obtain⟨aP3,cP3,rfl⟩:=RdE.form hr3.rd (n:=ps.length+1) (by simp)
  have hz3:w2.heap.size+2<=w3.heap.size:=by have:=hgr3.size;simp at this;omega
  have hne:∀ b,(b<w1.heap.size\/w2.heap.size<=b)->¬ some b=(Value.slice aP2 ps.length cP2).ownBlock:=by
   intro b hb e;have h1:=(RS3.o.1.lt b e.symm).1;have h2:=RS3.o.2 b e.symm;omega
  have W0:=(hgr3.block w2.heap.size (by simp<;>omega) (hne _ (.inr zL))).trans V9.o;have W1:=(hgr3.block (w.heap.size+1) (by simp<;>omega) (hne _ (.inl (by omega)))).trans V3.o;have N4:=zaa (hr3.ne_type W0 (by decide));have RI4:=zaa (RI3.o.apart RS3.o (by decide) hgr3);have RS4:=zaa hr3;have B4:=zaa (B3.o.grown hgr3 (by simp<;>omega) (fun k hk=>by have:=(RS3.o.1.lt k hk).1;omega));obtain⟨x5,x6,x7,x8⟩:=zac W0;obtain⟨t5,t6,t7,t8⟩:=zac W1;clear hown3 hgr3 hr3 W0 W1;go_wp2;refine bodyPost_ret (v:=.tuple #[.agg #[.slice aW2 ws.length cW2,.slice aP3 (ps.length+1) cP3],.I 0]) (by simp[results,Tryz.results79,go_sem,t5,t6]) rfl ?_;refine⟨_,rfl,⟨_,_,rfl,Row.z ?_,?_⟩,((B4.o.setCell (by simp only;omega) _).setCell (by simp only;omega) _).setCell (by simp only;omega) _⟩
  ·refine(RI4.o.same fun b h1 h2=>?_).wide (by omega) (by simp;omega);rw[Below.heap_setCell _ _ _ _ (by simp only;omega),Below.heap_setCell _ _ _ _ (by simp only;omega),Below.heap_setCell _ _ _ _ (by simp only;omega)]
  ·refine Row.wide (((RS4.o.setOther (a:=⟨w2.heap.size,1,none⟩) N4.o (.slice aP3 (ps.length+1) cP3)).same fun b h1 h2=>?_)) (by omega) (by simp);rw[Below.heap_setCell _ _ _ _ (by simp only;omega),Below.heap_setCell _ _ _ _ (by simp only;omega)]
end Go.Proofs.YtdiaiejmoocpmaaGreatDoor
