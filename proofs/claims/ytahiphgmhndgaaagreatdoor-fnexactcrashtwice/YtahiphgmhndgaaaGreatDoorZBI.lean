/- Several texts laid together: JiA, FqE. -/
import Derived.Test.YtahiphgmhndgaaaGreatDoorZAD
import Derived.Test.YtahiphgmhndgaaaGreatDoorZAH
import Derived.Test.YtahiphgmhndgaaaGreatDoorZAE
import Derived.Test.YtahiphgmhndgaaaGreatDoorZAZ
import Derived.Test.YtahiphgmhndgaaaGreatDoorZBH
import Derived.Test.YtahiphgmhndgaaaGreatDoorZBB
import Derived.Test.YtahiphgmhndgaaaGreatDoorZBG
import Derived.Test.YtahiphgmhndgaaaGreatDoorZAT
set_option maxRecDepth 100000
set_option maxHeartbeats 8000000
namespace Go.Proofs.YtahiphgmhndgaaaGreatDoor
open Go.RowKit
def SB (w:World):Prop:=∃ t fr,w.heap[1]?=some (.cells #[.int .i64 0,.int .i64 0,.int .i64 336,.int .i64 1099511627776,.int .i64 336,.int .i64 1,.int .i64 1,.int .i64 1,.int .i64 32,.int .i64 1099511627776,.int .i64 1,.int .i64 1] t fr)
theorem SB.lt {w:World} (h:SB w):1 < w.heap.size:=by
 obtain ⟨t,fr,h⟩:=h;exact (Array.getElem?_eq_some_iff.1 h).1
theorem SB.below {w w':World} (h:SB w) (hb:Below w.heap.size w w'):SB w':=by
 have hl:=h.lt;obtain ⟨t,fr,h⟩:=h;exact ⟨t,fr,(hb.block _ hl).trans h⟩
theorem SB.cells {w:World} (h:SB w):w.cell? ⟨1,0,none⟩=some (.int .i64 0)∧w.cell? ⟨1,1,none⟩=some (.int .i64 0)∧w.cell? ⟨1,2,none⟩=some (.int .i64 336)∧w.cell? ⟨1,3,none⟩=some (.int .i64 1099511627776)∧w.cell? ⟨1,4,none⟩=some (.int .i64 336)∧w.cell? ⟨1,5,none⟩=some (.int .i64 1)∧w.cell? ⟨1,6,none⟩=some (.int .i64 1)∧w.cell? ⟨1,7,none⟩=some (.int .i64 1)∧w.cell? ⟨1,8,none⟩=some (.int .i64 32)∧w.cell? ⟨1,9,none⟩=some (.int .i64 1099511627776)∧w.cell? ⟨1,10,none⟩=some (.int .i64 1)∧w.cell? ⟨1,11,none⟩=some (.int .i64 1):=by
 obtain ⟨t,fr,h⟩:=h;simp[World.cell?,h]
theorem zjf {k a x:Int} (h:(k=1∧(0≤a∧a < 336)∧0≤x∧x < 1099511627776)∨(k=2∧(0≤a∧a < 336)∧x=0)∨(k=4∧(0≤a∧a < 32)∧0≤x∧x < 1099511627776)∨((k=3∨k=5)∧a=0∧x=0)):miB ⟨k,a,x⟩=true:=(zkr k a x).2 h
theorem zez {k a x:Int} (h:¬ ((k=1∧(0≤a∧a < 336)∧0≤x∧x < 1099511627776)∨(k=2∧(0≤a∧a < 336)∧x=0)∨(k=4∧(0≤a∧a < 32)∧0≤x∧x < 1099511627776)∨((k=3∨k=5)∧a=0∧x=0))):miB ⟨k,a,x⟩=false:=by
 cases e:miB ⟨k,a,x⟩ with
 | false=>rfl
 | true=>exact absurd ((zkr k a x).1 e) h
theorem zxi (k a x:Int) (w:World) (hS:SB w):Calls Tryz.prog 99 #[.agg #[.int .i64 k,.int .i64 a,.int .i64 x]] w fun e w'=>e=.returned (.bool (miB ⟨k,a,x⟩))∧Below w.heap.size w w':=by
 have hb0:Below w.heap.size w (w.alloc (.cells #[.int .i64 k,.int .i64 a,.int .i64 x] 98)):=(Below.refl _ _).alloc (Nat.le_refl _) _;obtain ⟨c0,c1,c2,c3,c4,c5,c6,c7,c8,c9,c10,c11⟩:=(hS.below hb0).cells;clear hS
 by_cases hk:0≤k∧k < 6
 case neg =>
  have E:=zaa (zez (k:=k) (a:=a) (x:=x) (by omega));have HK:=zaa hk;clear hk c0 c1 c2 c3 c4 c5 c6 c7 c8 c9 c10 c11;go_enter Tryz.func99,Tryz.ntmps99;go_wp2_with (go_at_call 48;refine (zbc _ _ _ HK.o).mono ?_;rintro e w' ⟨rfl,rfl⟩);go_ret;exact ⟨zae E.o.symm,hb0⟩
 rcases (show k=0∨k=1∨k=2∨k=3∨k=4∨k=5 by omega) with rfl | rfl | rfl | rfl | rfl | rfl
 ·have hb1:Below w.heap.size w ((w.alloc (.cells #[.int .i64 0,.int .i64 a,.int .i64 x] 98)).alloc (.cells #[.int .i64 0,.int .i64 0] 176)):=hb0.alloc (by simp) _;clear c2 c3 c4 c5 c6 c7 c8 c9 c10 c11;have E:=zaa (zez (k:=0) (a:=a) (x:=x) (by omega))
  have HA:Hid (¬ (0≤a∧a < 0)):=fun h=>by omega
  go_enter Tryz.func99,Tryz.ntmps99;go_wp2_with (first | (go_at_call 48;refine (zaq _ _ _ (by omega)).mono ?_;rintro e w' ⟨rfl,rfl⟩) | (go_at_call 48;refine (zbc _ _ _ HA.o).mono ?_;rintro e w' ⟨rfl,rfl⟩));go_ret;exact ⟨zae E.o.symm,hb1⟩
 ·have hb1:Below w.heap.size w ((w.alloc (.cells #[.int .i64 1,.int .i64 a,.int .i64 x] 98)).alloc (.cells #[.int .i64 336,.int .i64 1099511627776] 176)):=hb0.alloc (by simp) _;clear c0 c1 c4 c5 c6 c7 c8 c9 c10 c11
  by_cases ha:0≤a∧a < 336
  ·by_cases hx:0≤x∧x < 1099511627776
   ·have E:=zaa (zjf (k:=1) (a:=a) (x:=x) (by omega));go_enter Tryz.func99,Tryz.ntmps99;go_wp2_with (go_at_call 48;refine (zaq _ _ _ (by omega)).mono ?_;rintro e w' ⟨rfl,rfl⟩);go_ret;exact ⟨zae E.o.symm,hb1⟩
   ·have E:=zaa (zez (k:=1) (a:=a) (x:=x) (by omega));have HX:=zaa hx;clear hx;go_enter Tryz.func99,Tryz.ntmps99;go_wp2_with (first | (go_at_call 48;refine (zaq _ _ _ (by omega)).mono ?_;rintro e w' ⟨rfl,rfl⟩) | (go_at_call 48;refine (zbc _ _ _ HX.o).mono ?_;rintro e w' ⟨rfl,rfl⟩));go_ret;exact ⟨zae E.o.symm,hb1⟩
  ·have E:=zaa (zez (k:=1) (a:=a) (x:=x) (by omega));have HA:=zaa ha;clear ha;go_enter Tryz.func99,Tryz.ntmps99;go_wp2_with (first | (go_at_call 48;refine (zaq _ _ _ (by omega)).mono ?_;rintro e w' ⟨rfl,rfl⟩) | (go_at_call 48;refine (zbc _ _ _ HA.o).mono ?_;rintro e w' ⟨rfl,rfl⟩));go_ret;exact ⟨zae E.o.symm,hb1⟩
 ·have hb1:Below w.heap.size w ((w.alloc (.cells #[.int .i64 2,.int .i64 a,.int .i64 x] 98)).alloc (.cells #[.int .i64 336,.int .i64 1] 176)):=hb0.alloc (by simp) _;clear c0 c1 c2 c3 c6 c7 c8 c9 c10 c11
  by_cases ha:0≤a∧a < 336
  ·by_cases hx:0≤x∧x < 1
   ·have E:=zaa (zjf (k:=2) (a:=a) (x:=x) (by omega));go_enter Tryz.func99,Tryz.ntmps99;go_wp2_with (go_at_call 48;refine (zaq _ _ _ (by omega)).mono ?_;rintro e w' ⟨rfl,rfl⟩);go_ret;exact ⟨zae E.o.symm,hb1⟩
   ·have E:=zaa (zez (k:=2) (a:=a) (x:=x) (by omega));have HX:=zaa hx;clear hx;go_enter Tryz.func99,Tryz.ntmps99;go_wp2_with (first | (go_at_call 48;refine (zaq _ _ _ (by omega)).mono ?_;rintro e w' ⟨rfl,rfl⟩) | (go_at_call 48;refine (zbc _ _ _ HX.o).mono ?_;rintro e w' ⟨rfl,rfl⟩));go_ret;exact ⟨zae E.o.symm,hb1⟩
  ·have E:=zaa (zez (k:=2) (a:=a) (x:=x) (by omega));have HA:=zaa ha;clear ha;go_enter Tryz.func99,Tryz.ntmps99;go_wp2_with (first | (go_at_call 48;refine (zaq _ _ _ (by omega)).mono ?_;rintro e w' ⟨rfl,rfl⟩) | (go_at_call 48;refine (zbc _ _ _ HA.o).mono ?_;rintro e w' ⟨rfl,rfl⟩));go_ret;exact ⟨zae E.o.symm,hb1⟩
 ·have hb1:Below w.heap.size w ((w.alloc (.cells #[.int .i64 3,.int .i64 a,.int .i64 x] 98)).alloc (.cells #[.int .i64 1,.int .i64 1] 176)):=hb0.alloc (by simp) _;clear c0 c1 c2 c3 c4 c5 c8 c9 c10 c11
  by_cases ha:0≤a∧a < 1
  ·by_cases hx:0≤x∧x < 1
   ·have E:=zaa (zjf (k:=3) (a:=a) (x:=x) (by omega));go_enter Tryz.func99,Tryz.ntmps99;go_wp2_with (go_at_call 48;refine (zaq _ _ _ (by omega)).mono ?_;rintro e w' ⟨rfl,rfl⟩);go_ret;exact ⟨zae E.o.symm,hb1⟩
   ·have E:=zaa (zez (k:=3) (a:=a) (x:=x) (by omega));have HX:=zaa hx;clear hx;go_enter Tryz.func99,Tryz.ntmps99;go_wp2_with (first | (go_at_call 48;refine (zaq _ _ _ (by omega)).mono ?_;rintro e w' ⟨rfl,rfl⟩) | (go_at_call 48;refine (zbc _ _ _ HX.o).mono ?_;rintro e w' ⟨rfl,rfl⟩));go_ret;exact ⟨zae E.o.symm,hb1⟩
  ·have E:=zaa (zez (k:=3) (a:=a) (x:=x) (by omega));have HA:=zaa ha;clear ha;go_enter Tryz.func99,Tryz.ntmps99;go_wp2_with (first | (go_at_call 48;refine (zaq _ _ _ (by omega)).mono ?_;rintro e w' ⟨rfl,rfl⟩) | (go_at_call 48;refine (zbc _ _ _ HA.o).mono ?_;rintro e w' ⟨rfl,rfl⟩));go_ret;exact ⟨zae E.o.symm,hb1⟩
 ·have hb1:Below w.heap.size w ((w.alloc (.cells #[.int .i64 4,.int .i64 a,.int .i64 x] 98)).alloc (.cells #[.int .i64 32,.int .i64 1099511627776] 176)):=hb0.alloc (by simp) _;clear c0 c1 c2 c3 c4 c5 c6 c7 c10 c11
  by_cases ha:0≤a∧a < 32
  ·by_cases hx:0≤x∧x < 1099511627776
   ·have E:=zaa (zjf (k:=4) (a:=a) (x:=x) (by omega));go_enter Tryz.func99,Tryz.ntmps99;go_wp2_with (go_at_call 48;refine (zaq _ _ _ (by omega)).mono ?_;rintro e w' ⟨rfl,rfl⟩);go_ret;exact ⟨zae E.o.symm,hb1⟩
   ·have E:=zaa (zez (k:=4) (a:=a) (x:=x) (by omega));have HX:=zaa hx;clear hx;go_enter Tryz.func99,Tryz.ntmps99;go_wp2_with (first | (go_at_call 48;refine (zaq _ _ _ (by omega)).mono ?_;rintro e w' ⟨rfl,rfl⟩) | (go_at_call 48;refine (zbc _ _ _ HX.o).mono ?_;rintro e w' ⟨rfl,rfl⟩));go_ret;exact ⟨zae E.o.symm,hb1⟩
  ·have E:=zaa (zez (k:=4) (a:=a) (x:=x) (by omega));have HA:=zaa ha;clear ha;go_enter Tryz.func99,Tryz.ntmps99;go_wp2_with (first | (go_at_call 48;refine (zaq _ _ _ (by omega)).mono ?_;rintro e w' ⟨rfl,rfl⟩) | (go_at_call 48;refine (zbc _ _ _ HA.o).mono ?_;rintro e w' ⟨rfl,rfl⟩));go_ret;exact ⟨zae E.o.symm,hb1⟩
 ·have hb1:Below w.heap.size w ((w.alloc (.cells #[.int .i64 5,.int .i64 a,.int .i64 x] 98)).alloc (.cells #[.int .i64 1,.int .i64 1] 176)):=hb0.alloc (by simp) _;clear c0 c1 c2 c3 c4 c5 c6 c7 c8 c9
  by_cases ha:0≤a∧a < 1
  ·by_cases hx:0≤x∧x < 1
   ·have E:=zaa (zjf (k:=5) (a:=a) (x:=x) (by omega));go_enter Tryz.func99,Tryz.ntmps99;go_wp2_with (go_at_call 48;refine (zaq _ _ _ (by omega)).mono ?_;rintro e w' ⟨rfl,rfl⟩);go_ret;exact ⟨zae E.o.symm,hb1⟩
   ·have E:=zaa (zez (k:=5) (a:=a) (x:=x) (by omega));have HX:=zaa hx;clear hx;go_enter Tryz.func99,Tryz.ntmps99;go_wp2_with (first | (go_at_call 48;refine (zaq _ _ _ (by omega)).mono ?_;rintro e w' ⟨rfl,rfl⟩) | (go_at_call 48;refine (zbc _ _ _ HX.o).mono ?_;rintro e w' ⟨rfl,rfl⟩));go_ret;exact ⟨zae E.o.symm,hb1⟩
  ·have E:=zaa (zez (k:=5) (a:=a) (x:=x) (by omega));have HA:=zaa ha;clear ha;go_enter Tryz.func99,Tryz.ntmps99;go_wp2_with (first | (go_at_call 48;refine (zaq _ _ _ (by omega)).mono ?_;rintro e w' ⟨rfl,rfl⟩) | (go_at_call 48;refine (zbc _ _ _ HA.o).mono ?_;rintro e w' ⟨rfl,rfl⟩));go_ret;exact ⟨zae E.o.symm,hb1⟩
def misB (ps:List Mi):Bool:=decide (∀ k (h:k < ps.length),miB ps[k]=true)
theorem yahw {ps:List Mi} (h:misB ps=true):∀ k (h:k < ps.length),miB ps[k]=true:=of_decide_eq_true h
theorem yatq {ps:List Mi} (h:∀ k (h:k < ps.length),miB ps[k]=true):misB ps=true:=decide_eq_true h
theorem yapi {ps:List Mi} {k:Nat} (hk:k < ps.length) (h:miB ps[k]=false):misB ps=false:=decide_eq_false (fun x=>by have:=x k hk;rw[h] at this;cases this)
theorem zgy (v:Value) (ps:List Mi) (w:World) (hS:SB w) (h:RdM w v ps) (hn:ps.length≤1048576) :
  Calls Tryz.prog 98 #[v,.func (.func 99) #[] #[]] w fun e w'=>e=.returned (.bool (misB ps))∧Below w.heap.size w w':=by
 obtain ⟨aP,cP,rfl,_,hcP⟩:=h.shape;have HS:=zaa hS;clear h hS;go_enter Tryz.func98,Tryz.ntmps98;go_wp2
 go_loopw [6,9] (fun _ i wr=>∃ k:Nat,k≤ps.length∧i=.int .i64 k∧Hid (∀ j (h:j < ps.length),j < k→miB ps[j]=true)∧Below w.heap.size w wr) (fun _ i _=>ps.length - (intOf i).toNat)
 case atStart=>exact ⟨0,by omega,rfl,fun j h a=>absurd a (by omega),Below.refl _ _⟩
 case round =>
  obtain ⟨m,hm,rfl,H,hbw⟩:=hrel;have hz:=hbw.size
  by_cases hlt2:m < ps.length
  ·obtain ⟨b2,o2,rfl,hbl2,hcell2⟩:=hcP (by omega);obtain ⟨d0,d1,d2⟩:=hcell2 m hlt2;have e0:=(hbw.cell (p:=⟨b2,o2+m*3,none⟩) hbl2).trans d0;have e1:=(hbw.cell (p:=⟨b2,o2+m*3+1,none⟩) hbl2).trans d1;have e2:=(hbw.cell (p:=⟨b2,o2+m*3+2,none⟩) hbl2).trans d2;have hb1:=zaa (hbw.alloc hz (.cells #[.int .i64 ps[m].kind,.int .i64 ps[m].at_,.int .i64 ps[m].val] 98));clear d0 d1 d2 hcell2 hcP
   by_cases q:miB ps[m]=true
   ·have Q:=zaa q;clear q;go_wp2_with (go_at_call 99;refine (zxi ps[m].kind ps[m].at_ ps[m].val _ (HS.o.below hb1.o)).mono ?_;rw[Q.o];rintro e w' ⟨rfl,hw'⟩);have hw2:=hb1.o.trans (hw'.mono (by simp;omega));clear hb1 hw'
    go_roundw
    case rel =>
     refine ⟨m+1,by omega,by go_num,fun j h a=>?_,hw2⟩
     by_cases e:j=m
     ·subst e;exact Q.o
     ·exact H.o j h (by omega)
    case measure=>simp[intOf];omega
   ·have Q:=zaa (show miB ps[m]=false by simpa using q);have E:=zaa (yapi hlt2 Q.o);clear q;go_wp2_with (go_at_call 99;refine (zxi ps[m].kind ps[m].at_ ps[m].val _ (HS.o.below hb1.o)).mono ?_;rw[Q.o];rintro e w' ⟨rfl,hw'⟩);have hw2:=hb1.o.trans (hw'.mono (by simp;omega));go_ret;exact ⟨zae E.o.symm,hw2⟩
  ·have E:=zaa (yatq (fun j h=>H.o j h (by omega)));go_wp2;go_ret;exact ⟨zae E.o.symm,hbw⟩
theorem zrm (c v:Int) (a:Option Addr) (nm:List ByteArray) (cap:Nat) (w:World) (_hn:nm.length≤1048576) :
  Calls Tryz.prog 129 #[.agg #[.int .i64 c,.int .i64 v,.slice a nm.length cap]] w fun e w'=>e=.returned (.bool (noA c v nm))∧Below w.heap.size w w':=by
 have BW:Hid (Below w.heap.size w (w.alloc (.cells #[.int .i64 c,.int .i64 v,.slice a nm.length cap] 49))):=(Below.refl _ _).alloc (Nat.le_refl _) _
 by_cases a1:c=0
 ·by_cases a2:v=0
  ·by_cases a3:nm.length=0
   ·have q:noA c v nm=true:=by unfold noA;rw[a1,a2,a3];rfl
    rw[q];clear q
    have a3':(nm.length:Int)=0:=by omega
    subst a1 a2;clear a3;go_enter Tryz.func129,Tryz.ntmps129;go_wp2;go_ret;exact ⟨zae (by first | rfl | exact decide_eq_false (by assumption) | exact decide_eq_false (by omega) | exact decide_eq_true (by omega)),BW.o⟩
   ·have q:noA c v nm=false:=by unfold noA;rw[a1,a2,decide_eq_false a3];rfl
    rw[q];clear q
    have a3':¬ (nm.length:Int)=0:=by omega
    subst a1 a2;clear a3;go_enter Tryz.func129,Tryz.ntmps129;go_wp2;go_ret;exact ⟨zae (by first | rfl | exact decide_eq_false (by assumption) | exact decide_eq_false (by omega) | exact decide_eq_true (by omega)),BW.o⟩
  ·have q:noA c v nm=false:=by unfold noA;rw[decide_eq_false a2];simp
   rw[q];clear q;subst a1;go_enter Tryz.func129,Tryz.ntmps129;go_wp2;go_ret;exact ⟨zae (by first | rfl | exact decide_eq_false (by assumption) | exact decide_eq_false (by omega) | exact decide_eq_true (by omega)),BW.o⟩
 ·have q:noA c v nm=false:=by unfold noA;rw[decide_eq_false a1];rfl
  rw[q];clear q;go_enter Tryz.func129,Tryz.ntmps129;go_wp2;go_ret;exact ⟨zae (by first | rfl | exact decide_eq_false (by assumption) | exact decide_eq_false (by omega) | exact decide_eq_true (by omega)),BW.o⟩
theorem yamr (td:List Mi):misB td=td.all miB:=by
 apply Bool.eq_iff_iff.2;unfold misB;simp only[decide_eq_true_eq,List.all_eq_true];constructor
 ·intro h m hm;obtain ⟨j,hj,rfl⟩:=List.getElem_of_mem hm;exact h j hj
 ·intro h j hj;exact h _ (List.getElem_mem hj)
theorem yagb (v:Value) (ws:List Int) (ps:List St) (es:List Int) (qs:List Se) (hs:List Int) (td:List Mi) (cd vl:Int) (nm:List ByteArray) (fr:Bool) (w:World) (h:RdF w v ws ps es qs hs td cd vl nm fr) (hps:ps.length≤1048576) (hqs:qs.length≤1048576) (htd:td.length≤1048576) (hS:SB w) :
  Calls Tryz.prog 128 #[v] w fun e w'=>e=.returned (.bool (todB ps qs td))∧Below w.heap.size w w':=by
 obtain ⟨aW,cW,aP,cP,aS,cS,aQ,cQ,aH,cH,aT,cT,aN,cN,rfl,-,-,t1,-⟩:=h
 obtain ⟨M,eM⟩:∃ M,M=td.all miB:=⟨_,rfl⟩
 have LE:Hid (∀ w1,Below w.heap.size w w1→Calls Tryz.prog 98 #[.slice aT td.length cT,.func (.func 99) #[] #[]] w1 fun e w'=>e=.returned (.bool M)∧Below w1.heap.size w1 w'):=fun w1 hb=>by rw[eM,← yamr];exact zgy _ td w1 (hS.below hb) (Rd.below t1 hb) htd
 have FB:Hid (todB ps qs td=(decide (td.length≤200) && (M && (decide (ps.length+td.length≤400) && decide (qs.length+td.length≤400))))):=by rw[eM];rfl
 generalize todB ps qs td=r at *;clear t1 eM hS
 obtain ⟨V,hV⟩:∃ V,V=w.alloc (.cells #[.slice aW ws.length cW,.slice aP ps.length cP,.slice aS es.length cS,.slice aQ qs.length cQ,.slice aH hs.length cH,.slice aT td.length cT,.int .i64 cd,.int .i64 vl,.slice aN nm.length cN,.bool fr] 51):=⟨_,rfl⟩
 have BV:Hid (Below w.heap.size w V):=by rw[hV];exact (Below.refl _ _).alloc (Nat.le_refl _) _
 have XV:Hid (V.heap[w.heap.size]?=some (.cells #[.slice aW ws.length cW,.slice aP ps.length cP,.slice aS es.length cS,.slice aQ qs.length cQ,.slice aH hs.length cH,.slice aT td.length cT,.int .i64 cd,.int .i64 vl,.slice aN nm.length cN,.bool fr] 51 (0,0))):=by rw[hV];exact zag rfl
 have zV:w.heap.size < V.heap.size:=zah XV.o;go_enter Tryz.func128,Tryz.ntmps128;go_upto_region 1 with fail;rw[← hV];clear hV;have x5:=tenT XV.o
 by_cases c1:td.length≤200
 ·rw[decide_eq_true c1,Bool.true_and] at FB
  have c1':(td.length:Int)≤200:=by omega
  go_wp2_with fail;refine (LE.o V BV.o).mono ?_;rintro e w1 ⟨rfl,hb1⟩;have B1:=zaa (zab BV.o hb1 BV.o.size);have X1:=zaa (zac XV.o hb1 zV);clear hb1 x5 LE BV XV
  cases M with
  | false =>
   obtain rfl:=FB.o;clear FB X1;go_wp2;go_ret;exact ⟨zae (by first | rfl | exact decide_eq_false (by assumption) | exact decide_eq_false (by omega) | exact decide_eq_true (by omega)),B1.o⟩
  | true =>
   rw[Bool.true_and] at FB;have x5:=tenT X1.o;obtain ⟨x0,x1,x2,x3⟩:=tenD X1.o;clear X1
   by_cases c2:ps.length+td.length≤400
   ·rw[decide_eq_true c2,Bool.true_and] at FB
    have c2':(ps.length:Int)+(td.length:Int)≤400:=by omega
    by_cases c3:qs.length+td.length≤400
    ·rw[decide_eq_true c3] at FB;obtain rfl:=FB.o
     have c3':(qs.length:Int)+(td.length:Int)≤400:=by omega
     clear FB;go_wp2;go_ret;exact ⟨zae (by first | rfl | exact decide_eq_false (by assumption) | exact decide_eq_false (by omega) | exact decide_eq_true (by omega)),B1.o⟩
    ·rw[decide_eq_false c3] at FB;obtain rfl:=FB.o
     have c3':¬ (qs.length:Int)+(td.length:Int)≤400:=by omega
     clear FB;go_wp2;go_ret;exact ⟨zae (by first | rfl | exact decide_eq_false (by assumption) | exact decide_eq_false (by omega) | exact decide_eq_true (by omega)),B1.o⟩
   ·rw[decide_eq_false c2] at FB;obtain rfl:=FB.o
    have c2':¬ (ps.length:Int)+(td.length:Int)≤400:=by omega
    clear FB;go_wp2;go_ret;exact ⟨zae (by first | rfl | exact decide_eq_false (by assumption) | exact decide_eq_false (by omega) | exact decide_eq_true (by omega)),B1.o⟩
 ·rw[decide_eq_false c1] at FB;obtain rfl:=FB.o
  have c1':¬ (td.length:Int)≤200:=by omega
  clear FB LE XV;go_wp2;go_ret;exact ⟨zae (by first | rfl | exact decide_eq_false (by assumption) | exact decide_eq_false (by omega) | exact decide_eq_true (by omega)),BV.o⟩
theorem zps (aW aP aS aQ:Option Addr) (n m p q cW cP cS cQ:Nat) (w:World) (hm:m≤1048576) (hq:q≤1048576) :
  Calls Tryz.prog 96 #[.agg #[.slice aW n cW,.slice aP m cP,.slice aS p cS,.slice aQ q cQ]] w fun e w'=>e=.returned (.bool (decide (m=0) && decide (q=0)))∧Below w.heap.size w w':=by
 have BW:Hid (Below w.heap.size w (w.alloc (.cells #[.slice aW n cW,.slice aP m cP,.slice aS p cS,.slice aQ q cQ] 45))):=(Below.refl _ _).alloc (Nat.le_refl _) _
 by_cases a1:m=0
 ·subst a1
  by_cases a2:q=0
  ·subst a2;go_enter Tryz.func96,Tryz.ntmps96;go_wp2;go_ret;exact ⟨zae (by first | rfl | exact decide_eq_false (by assumption) | exact decide_eq_false (by omega) | exact decide_eq_true (by omega)),BW.o⟩
  ·rw[decide_eq_false a2]
   have a2':¬ (q:Int)=0:=by omega
   go_enter Tryz.func96,Tryz.ntmps96;go_wp2;go_ret;exact ⟨zae (by first | rfl | exact decide_eq_false (by assumption) | exact decide_eq_false (by omega) | exact decide_eq_true (by omega)),BW.o⟩
 ·rw[decide_eq_false a1]
  have a1':¬ (m:Int)=0:=by omega
  go_enter Tryz.func96,Tryz.ntmps96;go_wp2;go_ret;exact ⟨zae (by first | rfl | exact decide_eq_false (by assumption) | exact decide_eq_false (by omega) | exact decide_eq_true (by omega)),BW.o⟩
theorem zif (v:Value) (ws:List Int) (ps:List St) (w:World) (h:RdPm w v ws ps) (hw:ws.length≤1048576) (hp:ps.length≤1048576) (hok:pmB ws ps=true) :
  Calls Tryz.prog 139 #[v] w fun e w'=>∃ a c:Int,e=.returned (.tuple #[.int .i64 a,.int .i64 c])∧(ps.length=0→(a=0∧c=0↔ldW ws ps 8=0))∧Below w.heap.size w w':=by
 have hl8:8 < ws.length:=by rw[zyt hok];decide
 have LP:Hid (∀ w1,Below w.heap.size w w1→Calls Tryz.prog 137 #[v] w1 fun e w'=>e=.returned (.bool true)∧Below w1.heap.size w1 w'):=fun w1 hb=>by rw[← hok];exact zba v ws ps w1 (h.below hb) hw hp
 have EL:Hid (ps.length=0→ldW ws ps 8=ws[8]):=fun e=>by
  obtain rfl:=List.length_eq_zero_iff.1 e;rw[zwx hl8];rfl
 obtain ⟨vW,vP,rfl,h1,h2⟩:=h;obtain ⟨aW,cW,rfl,_,hcW⟩:=h1.shape;obtain ⟨aP,cP,rfl,_⟩:=h2.shape;obtain ⟨b,o,rfl,hbl,hcell⟩:=hcW (by omega);have d8:=hcell 8 hl8
 have hlt:(8:Int) < (ws.length:Int):=by omega
 have hb0:Below w.heap.size w (w.alloc (.cells #[.slice (some ⟨b,o,none⟩) ws.length cW,.slice aP ps.length cP] 40)):=(Below.refl _ _).alloc (Nat.le_refl _) _;generalize ws[8]=n at *;clear h1 h2 hcW hcell hok;go_enter Tryz.func139,Tryz.ntmps139;go_wp2_with fail;refine (LP.o _ hb0).mono ?_;rintro e w1 ⟨rfl,hb1⟩;have B1:=zaa (zab hb0 hb1 (by simp));have d8':=(B1.o.cell (p:=⟨b,o+8,none⟩) hbl).trans d8;obtain ⟨x1,x2,-,-⟩:=zad ((hb1.block w.heap.size (by simp)).trans (zag rfl));clear hb0 hb1 d8 LP
 by_cases c:16 < n
 ·go_wp2;go_ret2;exact ⟨0,3,rfl,fun e=>by rw[EL.o e];constructor <;> intro q <;> omega,B1.o⟩
 ·go_wp2;go_ret2;exact ⟨n,0,rfl,fun e=>by rw[EL.o e];constructor <;> intro q <;> omega,B1.o⟩
theorem zxp (v:Value) (ws:List Int) (ps:List St) (es:List Int) (qs:List Se) (w:World) (h:RdDev w v ws ps es qs) (hok:(pmB ws ps && zbp es qs)=true) (hws:ws.length≤1048576) (hps:ps.length≤1048576) (hes:es.length≤1048576) (hqs:qs.length≤1048576) (hT:TS w) (hE:ED w) (hF:FD w) :
  Calls Tryz.prog 130 #[v] w fun e w'=>e=.returned (.bool (zra ws ps es qs))∧Below w.heap.size w w':=by
 obtain ⟨aW,cW,aP,cP,aS,cS,aQ,cQ,rfl,-,-⟩:=h.form;have hok':=hok;simp only[Bool.and_eq_true] at hok';have LJ:=zaa (fun w1 (hb:Below w.heap.size w w1)=>zif _ ws ps w1 (yalz (h.below hb)) hws hps hok'.1);have LA:=zaa (fun w1=>zps aW aP aS aQ ws.length ps.length es.length qs.length cW cP cS cQ w1 hps hqs);have LS:=zaa (fun w1 (hb:Below w.heap.size w w1)=>ztm _ ws ps es qs w1 (h.below hb) hws hps hes hqs (hT.below hb) (hE.below hb) (hF.below hb));have LI:=zaa (fun v1 w1 (hb:Below w.heap.size w w1) (hr:RdIm w1 v1 (dvN ws ps es qs) (dvD ws ps es qs))=>zhr v1 (dvN ws ps es qs) (dvD ws ps es qs) w1 hr (yaqp ws ps es qs).1 (yaqp ws ps es qs).2 (hT.below hb) (hE.below hb) (hF.below hb) dv_R yatv);rw[yaui] at LI;have FB:Hid (zra ws ps es qs=(dvB ws ps es qs && (decide (ps.length=0) && (decide (qs.length=0) && decide (ldW ws ps 8=0))))):=rfl;generalize zra ws ps es qs=r at *;generalize dvB ws ps es qs=d at *;generalize dvN ws ps es qs=dn at *;generalize dvD ws ps es qs=dd at *;generalize ldW ws ps 8=jc at *;clear h hok hok' hT hE hF
 obtain ⟨V,hV⟩:∃ V,V=w.alloc (.cells #[.slice aW ws.length cW,.slice aP ps.length cP,.slice aS es.length cS,.slice aQ qs.length cQ] 45):=⟨_,rfl⟩
 have BV:Hid (Below w.heap.size w V):=by rw[hV];exact (Below.refl _ _).alloc (Nat.le_refl _) _
 have XV:Hid (V.heap[w.heap.size]?=some (.cells #[.slice aW ws.length cW,.slice aP ps.length cP,.slice aS es.length cS,.slice aQ qs.length cQ] 45 (0,0))):=by rw[hV];exact zag rfl
 have zV:w.heap.size < V.heap.size:=zah XV.o;go_enter Tryz.func130,Tryz.ntmps130;go_upto_region 1 with fail;rw[← hV];clear hV;obtain ⟨x0,x1,x2,x3,-⟩:=zaf XV.o;go_wp2_with fail;refine (LJ.o V BV.o).mono ?_;rintro e w1 ⟨ja,jb,rfl,hj,hb1⟩;have B1:=zaa (zab BV.o hb1 BV.o.size);have X1:=zaa (zac XV.o hb1 zV);have z1:w.heap.size < w1.heap.size:=Nat.lt_of_lt_of_le zV hb1.size;have HJ:=zaa hj;clear hb1 x0 x1 x2 x3 LJ BV XV hj;obtain ⟨x0,x1,x2,x3,-⟩:=zaf X1.o;go_wp2_with fail;refine (LA.o w1).mono ?_
 by_cases a1:ps.length=0
 ·by_cases a2:qs.length=0
  ·rw[decide_eq_true a1,decide_eq_true a2];rintro e w2 ⟨rfl,hb2⟩;have B2:=zaa (zab B1.o hb2 B1.o.size);have X2:=zaa (zac X1.o hb2 z1);have z2:w.heap.size < w2.heap.size:=Nat.lt_of_lt_of_le z1 hb2.size;have IJ:=zaa (HJ.o a1)
   have q:r=(d && decide (jc=0)):=by rw[FB.o,decide_eq_true a1,decide_eq_true a2];rfl
   clear hb2 x0 x1 x2 x3 LA B1 X1 HJ FB a1 a2;obtain ⟨x0,x1,x2,x3,-⟩:=zaf X2.o
   by_cases b1:ja=0
   ·subst b1
    by_cases b2:jb=0
    ·subst b2;have ej:jc=0:=IJ.o.1 ⟨rfl,rfl⟩;rw[decide_eq_true ej,Bool.and_true] at q;subst q;clear IJ ej;go_wp2_with fail;refine (LS.o w2 B2.o).mono ?_;rintro e w3 ⟨v3,rfl,hr3,hb3⟩;have B3:=zaa (zab B2.o hb3 B2.o.size);have R3:=zaa hr3.rd;obtain ⟨vA,vB,rfl,⟨-,ia,ic,rfl,-⟩,⟨-,ib,id,rfl,-⟩⟩:=hr3.rd;clear hr3 hb3 x0 x1 x2 x3 LS B2 X2;go_wp2_with fail;refine (LI.o _ w3 B3.o R3.o).mono ?_;rintro e w4 ⟨rfl,hb4⟩;have B4:=zaa (zab B3.o hb4 B3.o.size);clear hb4 LI R3 B3;go_wp2;go_ret;exact ⟨zae (by first | rfl | exact decide_eq_false (by assumption) | exact decide_eq_false (by omega) | exact decide_eq_true (by omega)),B4.o⟩
    ·have ej:¬ jc=0:=fun e=>b2 (IJ.o.2 e).2
     rw[decide_eq_false ej,Bool.and_false] at q;subst q;clear IJ ej LS LI X2;go_wp2;go_ret;exact ⟨zae (by first | rfl | exact decide_eq_false (by assumption) | exact decide_eq_false (by omega) | exact decide_eq_true (by omega)),B2.o⟩
   ·have ej:¬ jc=0:=fun e=>b1 (IJ.o.2 e).1
    rw[decide_eq_false ej,Bool.and_false] at q;subst q;clear IJ ej LS LI X2;go_wp2;go_ret;exact ⟨zae (by first | rfl | exact decide_eq_false (by assumption) | exact decide_eq_false (by omega) | exact decide_eq_true (by omega)),B2.o⟩
  ·have q:r=false:=by rw[FB.o,decide_eq_false a2];simp
   rw[decide_eq_false a2,Bool.and_false];rintro e w2 ⟨rfl,hb2⟩;have B2:=zaa (zab B1.o hb2 B1.o.size);subst q;clear hb2 LA LS LI FB HJ X1;go_wp2;go_ret;exact ⟨zae (by first | rfl | exact decide_eq_false (by assumption) | exact decide_eq_false (by omega) | exact decide_eq_true (by omega)),B2.o⟩
 ·have q:r=false:=by rw[FB.o,decide_eq_false a1];simp
  rw[decide_eq_false a1,Bool.false_and];rintro e w2 ⟨rfl,hb2⟩;have B2:=zaa (zab B1.o hb2 B1.o.size);subst q;clear hb2 LA LS LI FB HJ X1;go_wp2;go_ret;exact ⟨zae (by first | rfl | exact decide_eq_false (by assumption) | exact decide_eq_false (by omega) | exact decide_eq_true (by omega)),B2.o⟩
theorem zna (v:Value) (ws:List Int) (ps:List St) (es:List Int) (qs:List Se) (hs:List Int) (td:List Mi) (cd vl:Int) (nm:List ByteArray) (fr:Bool) (w:World) (h:RdF w v ws ps es qs hs td cd vl nm fr) (hws:ws.length≤1048576) (hps:ps.length≤1048576) (hes:es.length≤1048576) (hqs:qs.length≤1048576) (hhs:hs.length≤1048576) (htd:td.length≤1048576) (hnm:nm.length≤1048576) (hS:SB w) (hT:TS w) (hE:ED w) (hF:FD w) :
  Calls Tryz.prog 89 #[v] w fun e w'=>e=.returned (.bool (fsB ws ps es qs hs td cd vl nm fr))∧Below w.heap.size w w':=by
 have HR:=zaa h;obtain ⟨aW,cW,aP,cP,aS,cS,aQ,cQ,aH,cH,aT,cT,aN,cN,rfl,d1,h1,-,-⟩:=h
 obtain ⟨D,eD⟩:∃ D,D=(pmB ws ps && zbp es qs):=⟨_,rfl⟩
 obtain ⟨H,eH⟩:∃ H,H=zjt hs:=⟨_,rfl⟩
 have LD:Hid (∀ w1,Below w.heap.size w w1→Calls Tryz.prog 95 #[.agg #[.slice aW ws.length cW,.slice aP ps.length cP,.slice aS es.length cS,.slice aQ qs.length cQ]] w1 fun e w'=>e=.returned (.bool D)∧Below w1.heap.size w1 w'):=fun w1 hb=>by rw[eD];exact zcp _ ws ps es qs w1 (d1.below hb) hws hps hes hqs
 have LH:Hid (∀ w1,Below w.heap.size w w1→Calls Tryz.prog 127 #[.slice aH hs.length cH] w1 fun e w'=>e=.returned (.bool H)∧w'=w1):=fun w1 hb=>by rw[eH];exact zrn _ hs w1 (Rd.below h1 hb) hhs
 have LT:=zaa (fun w1 (hb:Below w.heap.size w w1)=>yagb _ ws ps es qs hs td cd vl nm fr w1 (HR.o.below hb) hps hqs htd (hS.below hb));have LN:=zaa (fun w1=>zrm cd vl aN nm cN w1 hnm)
 have LR:Hid (D=true→∀ w1,Below w.heap.size w w1→Calls Tryz.prog 130 #[.agg #[.slice aW ws.length cW,.slice aP ps.length cP,.slice aS es.length cS,.slice aQ qs.length cQ]] w1 fun e w'=>e=.returned (.bool (zra ws ps es qs))∧Below w1.heap.size w1 w'):=fun hD w1 hb=>zxp _ ws ps es qs w1 (d1.below hb) (eD.symm.trans hD) hws hps hes hqs (hT.below hb) (hE.below hb) (hF.below hb)
 have FB:Hid (fsB ws ps es qs hs td cd vl nm fr=(D && (H && (todB ps qs td && ((fr || noA cd vl nm) && (decide (0 < td.length) || zra ws ps es qs)))))):=by rw[eD,eH];rfl
 generalize fsB ws ps es qs hs td cd vl nm fr=r at *;generalize todB ps qs td=tb at *;generalize noA cd vl nm=na at *;generalize zra ws ps es qs=rb at *;clear eD eH d1 h1 hS hT hE hF HR
 obtain ⟨V,hV⟩:∃ V,V=w.alloc (.cells #[.slice aW ws.length cW,.slice aP ps.length cP,.slice aS es.length cS,.slice aQ qs.length cQ,.slice aH hs.length cH,.slice aT td.length cT,.int .i64 cd,.int .i64 vl,.slice aN nm.length cN,.bool fr] 51):=⟨_,rfl⟩
 have BV:Hid (Below w.heap.size w V):=by rw[hV];exact (Below.refl _ _).alloc (Nat.le_refl _) _
 have XV:Hid (V.heap[w.heap.size]?=some (.cells #[.slice aW ws.length cW,.slice aP ps.length cP,.slice aS es.length cS,.slice aQ qs.length cQ,.slice aH hs.length cH,.slice aT td.length cT,.int .i64 cd,.int .i64 vl,.slice aN nm.length cN,.bool fr] 51 (0,0))):=by rw[hV];exact zag rfl
 have zV:w.heap.size < V.heap.size:=zah XV.o;go_enter Tryz.func89,Tryz.ntmps89;go_upto_region 1 with fail;rw[← hV];clear hV;obtain ⟨x0,x1,x2,x3⟩:=tenD XV.o;go_wp2_with fail;refine (LD.o V BV.o).mono ?_;rintro e w1 ⟨rfl,hb1⟩;have B1:=zaa (zab BV.o hb1 BV.o.size);have X1:=zaa (zac XV.o hb1 zV);have z1:w.heap.size < w1.heap.size:=Nat.lt_of_lt_of_le zV hb1.size;clear hb1 x0 x1 x2 x3 LD BV XV
 cases D with
 | false =>
  obtain rfl:=FB.o;clear FB LH LR LT LN X1;go_wp2;go_ret;exact ⟨zae (by first | rfl | exact decide_eq_false (by assumption) | exact decide_eq_false (by omega) | exact decide_eq_true (by omega)),B1.o⟩
 | true =>
 have x4:=tenH X1.o;go_wp2_with fail;refine (LH.o w1 B1.o).mono ?_;rintro e w' ⟨rfl,hw'⟩;subst w';clear LH x4
 cases H with
 | false =>
  obtain rfl:=FB.o;clear FB LR LT LN X1;go_wp2;go_ret;exact ⟨zae (by first | rfl | exact decide_eq_false (by assumption) | exact decide_eq_false (by omega) | exact decide_eq_true (by omega)),B1.o⟩
 | true =>
 obtain ⟨x0,x1,x2,x3,x4,x5,x6,x7,x8,x9,-⟩:=zam X1.o;go_wp2_with fail;refine (LT.o w1 B1.o).mono ?_;rintro e w2 ⟨rfl,hb2⟩;have B2:=zaa (zab B1.o hb2 B1.o.size);have X2:=zaa (zac X1.o hb2 z1);have z2:w.heap.size < w2.heap.size:=Nat.lt_of_lt_of_le z1 hb2.size;clear hb2 x0 x1 x2 x3 x4 x5 x6 x7 x8 x9 LT B1 X1
 cases tb with
 | false =>
  obtain rfl:=FB.o;clear FB LR LN X2;go_wp2;go_ret;exact ⟨zae (by first | rfl | exact decide_eq_false (by assumption) | exact decide_eq_false (by omega) | exact decide_eq_true (by omega)),B2.o⟩
 | true =>
 simp only[Bool.true_and] at FB;have x9:=tenB X2.o
 cases fr with
 | true =>
  simp only[Bool.true_or,Bool.true_and] at FB;clear LN;go_upto_region 5 with fail;clear x9;have x5:=tenT X2.o
  by_cases c:0 < td.length
  ·rw[decide_eq_true c,Bool.true_or] at FB;obtain rfl:=FB.o
   have c':(0:Int) < (td.length:Int):=by omega
   clear FB LR X2;go_wp2;go_ret;exact ⟨zae (by first | rfl | exact decide_eq_false (by assumption) | exact decide_eq_false (by omega) | exact decide_eq_true (by omega)),B2.o⟩
  ·rw[decide_eq_false c,Bool.false_or] at FB;obtain rfl:=FB.o
   have c':¬ (0:Int) < (td.length:Int):=by omega
   obtain ⟨x0,x1,x2,x3⟩:=tenD X2.o;go_wp2_with fail;refine (LR.o (by simp) w2 B2.o).mono ?_;rintro e w4 ⟨rfl,hb4⟩;have B4:=zaa (zab B2.o hb4 B2.o.size);clear hb4 x0 x1 x2 x3 x5 LR B2 X2 FB;go_wp2;go_ret;exact ⟨zae (by first | rfl | exact decide_eq_false (by assumption) | exact decide_eq_false (by omega) | exact decide_eq_true (by omega)),B4.o⟩
 | false =>
 simp only[Bool.false_or] at FB;obtain ⟨x6,x7,x8⟩:=tenA X2.o;go_wp2_with fail;refine (LN.o w2).mono ?_;rintro e w3 ⟨rfl,hb3⟩;have B3:=zaa (zab B2.o hb3 B2.o.size);have X3:=zaa (zac X2.o hb3 z2);have z3:w.heap.size < w3.heap.size:=Nat.lt_of_lt_of_le z2 hb3.size;clear hb3 x6 x7 x8 x9 LN B2 X2
 cases na with
 | false =>
  obtain rfl:=FB.o;clear FB LR X3;go_wp2;go_ret;exact ⟨zae (by first | rfl | exact decide_eq_false (by assumption) | exact decide_eq_false (by omega) | exact decide_eq_true (by omega)),B3.o⟩
 | true =>
 simp only[Bool.true_and] at FB;go_upto_region 5 with fail;have x5:=tenT X3.o
 by_cases c:0 < td.length
 ·rw[decide_eq_true c,Bool.true_or] at FB;obtain rfl:=FB.o
  have c':(0:Int) < (td.length:Int):=by omega
  clear FB LR X3;go_wp2;go_ret;exact ⟨zae (by first | rfl | exact decide_eq_false (by assumption) | exact decide_eq_false (by omega) | exact decide_eq_true (by omega)),B3.o⟩
 ·rw[decide_eq_false c,Bool.false_or] at FB;obtain rfl:=FB.o
  have c':¬ (0:Int) < (td.length:Int):=by omega
  obtain ⟨x0,x1,x2,x3⟩:=tenD X3.o;go_wp2_with fail;refine (LR.o (by simp) w3 B3.o).mono ?_;rintro e w4 ⟨rfl,hb4⟩;have B4:=zaa (zab B3.o hb4 B3.o.size);clear hb4 x0 x1 x2 x3 x5 LR B3 X3 FB;go_wp2;go_ret;exact ⟨zae (by first | rfl | exact decide_eq_false (by assumption) | exact decide_eq_false (by omega) | exact decide_eq_true (by omega)),B4.o⟩
end Go.Proofs.YtahiphgmhndgaaaGreatDoor
