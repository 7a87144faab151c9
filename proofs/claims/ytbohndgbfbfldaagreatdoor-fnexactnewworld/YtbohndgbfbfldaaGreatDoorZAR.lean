/- Several texts laid together: FsC, FsE, MiT. -/
import Derived.Test.YtbohndgbfbfldaaGreatDoorDev
import Derived.Test.YtbohndgbfbfldaaGreatDoorZAQ
import Derived.Test.YtbohndgbfbfldaaGreatDoorZAK
import Derived.Test.YtbohndgbfbfldaaGreatDoorZAG
import Derived.Test.YtbohndgbfbfldaaGreatDoorZAP
import Derived.Deep.DeepCutAuto
import Derived.Deep.RegionHeld3
import Derived.Deep.RegionLaw
import Derived.Deep.RegionWith
set_option maxHeartbeats 2000000
namespace Go.Proofs.YtbohndgbfbfldaaGreatDoor
open Go.RowKit
def zor:Value→Bool
 | .int _ _=>true
 | _=>false
def isSB:Value→Bool
 | .string _=>true
 | _=>false
def zgo:List Value→Bool
 | []=>true
 | [a]=>!isSB a
 | [a,b]=>!isSB a && !isSB b
 | a :: b :: c :: t=>!isSB a && !(zor a && zor b && zor c) && zgo (b :: c :: t)
theorem zhu {a:Value} {l:List Value} (h:zgo (a :: l)=true):isSB a=false∧zgo l=true:=by
 match l with
 | []=>simp[zgo] at h;exact ⟨h,rfl⟩
 | [b]=>simp[zgo] at h;exact ⟨h.1,by simp[zgo,h.2]⟩
 | b :: c :: t =>
  simp only[zgo,Bool.and_eq_true,Bool.not_eq_true'] at h;exact ⟨h.1.1,h.2⟩
theorem zni:∀ {l:List Value},zgo l=true→∀ (j:Nat) (v:Value),l[j]?=some v→isSB v=false
 | [],_,j,v,e=>by cases e
 | a :: l,h,0,v,e=>by
  simp only[List.getElem?_cons_zero,Option.some.injEq] at e;rw[← e];exact (zhu h).1
 | a :: l,h,j+1,v,e=>zni (zhu h).2 j v (by simpa using e)
theorem zjs:∀ {l:List Value},zgo l=true→∀ (j:Nat) (a b c:Value),l[j]?=some a→l[j+1]?=some b→l[j+2]?=some c→¬ (zor a=true∧zor b=true∧zor c=true)
 | [],_,j,_,_,_,e,_,_=>by cases e
 | x :: l,h,0,a,b,c,e1,e2,e3=>by
  match l,h,e2,e3 with
  | [],_,e2,_=>simp at e2
  | [y],_,_,e3=>simp at e3
  | y :: z :: t,h,e2,e3 =>
   simp only[List.getElem?_cons_zero,List.getElem?_cons_succ,Option.some.injEq] at e1 e2 e3;subst e1 e2 e3;simp only[zgo,Bool.and_eq_true,Bool.not_eq_true'] at h;intro q;have:=h.1.2;rw[q.1,q.2.1,q.2.2] at this
   cases this
 | x :: l,h,j+1,a,b,c,e1,e2,e3=>zjs (zhu h).2 j a b c (by simpa using e1) (by simpa using e2) (by simpa using e3)
def Hard (xs:List Value):Prop:=(∃ (j:Nat) (v:Value),xs[j]?=some v∧isSB v=true)∨∃ (j:Nat) (a b c:Value),xs[j]?=some a∧xs[j+1]?=some b∧xs[j+2]?=some c∧zor a=true∧zor b=true∧zor c=true
structure Soft (w w':World):Prop where
 size:w.heap.size≤w'.heap.size
 blk:∀ j,j < w.heap.size→w'.heap[j]?=w.heap[j]?∨∃ cs t fr,w.heap[j]?=some (.cells cs t fr)∧zgo cs.toList=true
theorem Soft.trans {a b c:World} (h:Soft a b) (k:Soft b c):Soft a c :=
 ⟨Nat.le_trans h.size k.size,fun j hj=>by
  rcases h.blk j hj with e | e
  ·rcases k.blk j (Nat.lt_of_lt_of_le hj h.size) with f | f
   ·exact .inl (f.trans e)
   ·rw[e] at f;exact .inr f
  ·exact .inr e⟩
theorem Soft.of_below {w w':World} (h:Below w.heap.size w w'):Soft w w':=⟨h.size,fun j hj=>.inl (h.block j hj)⟩
theorem Soft.outside {w w':World} {b:Nat} {cs:Array Value} {t:TypeId} {fr:Nat×Nat} (h:Outside b (b+1) w w') (hb:w.heap[b]?=some (.cells cs t fr)) (hs:zgo cs.toList=true):Soft w w' :=
 ⟨h.size,fun k hk=>by
  by_cases e:k=b
  ·subst e;exact .inr ⟨cs,t,fr,hb,hs⟩
  ·exact .inl (h.block k hk (by omega))⟩
theorem Rd.soft {w w':World} {size:Nat} {v:Value} {n:Nat} {xs:List Value} (h:Rd w size v n xs) (hs:Soft w w') (hd:0 < n*size→Hard xs):Rd w' size v n xs:=by
 by_cases hn:0 < n*size
 ·refine h.same hs.size (fun j hj he=>?_)
  rcases hs.blk j hj with e | ⟨cs,t,fr,hb,sf⟩
  ·exact e
  ·exfalso;obtain ⟨hl,ao,cap,rfl,_,hc⟩:=h
   have hn':0 < n:=by
    rcases Nat.eq_zero_or_pos n with e | e
    ·subst e;simp at hn
    ·exact e
   obtain ⟨b',o,rfl,_,hc⟩:=hc hn';simp only[Value.ownBlock,Option.some.injEq] at he;subst he
   have C:∀ k u,xs[k]?=some u→cs.toList[o+k]?=some u:=fun k u e=>by
    have hk:k < n*size:=by
     have:=(List.getElem?_eq_some_iff.1 e).1;omega
    have:=hc k hk;rw[e] at this;simp only[World.cell?,hb] at this;simpa using this
   rcases hd hn with ⟨k,u,e,f⟩ | ⟨k,a,b,c,e1,e2,e3,f1,f2,f3⟩
   ·have:=zni sf _ _ (C k u e);rw[f] at this
    cases this
   ·exact zjs sf (o+k) a b c (C k a e1) (C (k+1) b e2) (C (k+2) c e3) ⟨f1,f2,f3⟩
 ·obtain ⟨h3,ao,cap,rfl,h4,h5⟩:=h;refine ⟨h3,ao,cap,rfl,h4,fun hp=>?_⟩;obtain ⟨b',o,e,hlt,hc⟩:=h5 hp;exact ⟨b',o,e,Nat.lt_of_lt_of_le hlt hs.size,fun j hj=>absurd (Nat.lt_of_le_of_lt (Nat.zero_le _) hj) hn⟩
theorem zuk {zs:List Int} (h:3≤zs.length):Hard (zbk zs):=.inr ⟨0,_,_,_,zbt zs 0 (by omega),zbt zs 1 (by omega),zbt zs 2 (by omega),rfl,rfl,rfl⟩
theorem RdI.soft {w w':World} {v:Value} {zs:List Int} (h:RdI w v zs) (hs:Soft w w') (h3:3≤zs.length):RdI w' v zs:=Rd.soft h hs (fun _=>zuk h3)
theorem Rd.softNil {w w':World} {size:Nat} {v:Value} (h:Rd w size v 0 []) (hs:Soft w w'):Rd w' size v 0 []:=Rd.soft h hs (fun hn=>by simp at hn)
theorem RdDev.soft {w w':World} {v:Value} {ws es:List Int} (h:RdDev w v ws [] es []) (hs:Soft w w') (h1:3≤ws.length) (h2:3≤es.length):RdDev w' v ws [] es []:=by
 obtain ⟨vW,vP,vS,vQ,rfl,⟨_,_,e1,a,b⟩,⟨_,_,e2,c,d⟩⟩:=h
 cases e1
 cases e2
 exact ⟨_,_,_,_,rfl,⟨_,_,rfl,RdI.soft a hs h1,Rd.softNil b hs⟩,⟨_,_,rfl,RdI.soft c hs h2,Rd.softNil d hs⟩⟩
def RdFs (w:World) (v:Value) (ws es hs:List Int) (td:List Mi) (cd vl:Int) (nm:List ByteArray) (fr:Bool):Prop :=
 ∃ aW cW aP cP aS cS aQ cQ aH cH aT cT aN cN,v=.agg #[.slice aW ws.length cW,.slice aP 0 cP,.slice aS es.length cS,.slice aQ 0 cQ,.slice aH hs.length cH,.slice aT td.length cT,.int .i64 cd,.int .i64 vl,.slice aN nm.length cN,.bool fr]∧RdDev w (.agg #[.slice aW ws.length cW,.slice aP 0 cP,.slice aS es.length cS,.slice aQ 0 cQ]) ws [] es []∧RdI w (.slice aH hs.length cH) hs∧RdM w (.slice aT td.length cT) td∧RdT w (.slice aN nm.length cN) nm
theorem zcs {w:World} {b:Nat} {t:TypeId} {x0 x1 x2 x3 x4 x5 x6 x7 x8 x9:Value} (h:w.heap[b]?=some (.cells #[x0,x1,x2,x3,x4,x5,x6,x7,x8,x9] t (0,0))):w.cell? ⟨b,0,none⟩=some x0∧w.cell? ⟨b,1,none⟩=some x1∧w.cell? ⟨b,2,none⟩=some x2∧w.cell? ⟨b,3,none⟩=some x3∧w.cell? ⟨b,4,none⟩=some x4∧w.cell? ⟨b,5,none⟩=some x5∧w.cell? ⟨b,6,none⟩=some x6∧w.cell? ⟨b,7,none⟩=some x7∧w.cell? ⟨b,8,none⟩=some x8∧w.cell? ⟨b,9,none⟩=some x9∧w.frozen? ⟨b,0,none⟩=false∧w.frozen? ⟨b,1,none⟩=false∧w.frozen? ⟨b,2,none⟩=false∧w.frozen? ⟨b,3,none⟩=false∧w.frozen? ⟨b,4,none⟩=false∧w.frozen? ⟨b,5,none⟩=false∧w.frozen? ⟨b,6,none⟩=false∧w.frozen? ⟨b,7,none⟩=false∧w.frozen? ⟨b,8,none⟩=false∧w.frozen? ⟨b,9,none⟩=false:=by
 simp[World.cell?,World.frozen?,h]
theorem zym {w:World} {b:Nat} {t:TypeId} {x0 x1 x2 x3 x4 x5 x6 x7 x8 x9:Value} (h:w.heap[b]?=some (.cells #[x0,x1,x2,x3,x4,x5,x6,x7,x8,x9] t (0,0))) (u:Value):(w.setCell ⟨b,0,none⟩ u).heap[b]?=some (.cells #[u,x1,x2,x3,x4,x5,x6,x7,x8,x9] t (0,0)):=by simp[World.setCell,Array.getElem?_modify,h]
theorem yaae {w:World} {b:Nat} {t:TypeId} {x0 x1 x2 x3 x4 x5 x6 x7 x8 x9:Value} (h:w.heap[b]?=some (.cells #[x0,x1,x2,x3,x4,x5,x6,x7,x8,x9] t (0,0))) (u:Value):(w.setCell ⟨b,1,none⟩ u).heap[b]?=some (.cells #[x0,u,x2,x3,x4,x5,x6,x7,x8,x9] t (0,0)):=by simp[World.setCell,Array.getElem?_modify,h]
theorem zyf {w:World} {b:Nat} {t:TypeId} {x0 x1 x2 x3 x4 x5 x6 x7 x8 x9:Value} (h:w.heap[b]?=some (.cells #[x0,x1,x2,x3,x4,x5,x6,x7,x8,x9] t (0,0))) (u:Value):(w.setCell ⟨b,2,none⟩ u).heap[b]?=some (.cells #[x0,x1,u,x3,x4,x5,x6,x7,x8,x9] t (0,0)):=by simp[World.setCell,Array.getElem?_modify,h]
theorem zyt {w:World} {b:Nat} {t:TypeId} {x0 x1 x2 x3 x4 x5 x6 x7 x8 x9:Value} (h:w.heap[b]?=some (.cells #[x0,x1,x2,x3,x4,x5,x6,x7,x8,x9] t (0,0))) (u:Value):(w.setCell ⟨b,3,none⟩ u).heap[b]?=some (.cells #[x0,x1,x2,u,x4,x5,x6,x7,x8,x9] t (0,0)):=by simp[World.setCell,Array.getElem?_modify,h]
theorem zxw {w:World} {b:Nat} {t:TypeId} {x0 x1 x2 x3 x4 x5 x6 x7 x8 x9:Value} (h:w.heap[b]?=some (.cells #[x0,x1,x2,x3,x4,x5,x6,x7,x8,x9] t (0,0))) (u:Value):(w.setCell ⟨b,4,none⟩ u).heap[b]?=some (.cells #[x0,x1,x2,x3,u,x5,x6,x7,x8,x9] t (0,0)):=by simp[World.setCell,Array.getElem?_modify,h]
theorem yaaa {w:World} {b:Nat} {t:TypeId} {x0 x1 x2 x3 x4 x5 x6 x7 x8 x9:Value} (h:w.heap[b]?=some (.cells #[x0,x1,x2,x3,x4,x5,x6,x7,x8,x9] t (0,0))) (u:Value):(w.setCell ⟨b,5,none⟩ u).heap[b]?=some (.cells #[x0,x1,x2,x3,x4,u,x6,x7,x8,x9] t (0,0)):=by simp[World.setCell,Array.getElem?_modify,h]
theorem zzx {w:World} {b:Nat} {t:TypeId} {x0 x1 x2 x3 x4 x5 x6 x7 x8 x9:Value} (h:w.heap[b]?=some (.cells #[x0,x1,x2,x3,x4,x5,x6,x7,x8,x9] t (0,0))) (u:Value):(w.setCell ⟨b,6,none⟩ u).heap[b]?=some (.cells #[x0,x1,x2,x3,x4,x5,u,x7,x8,x9] t (0,0)):=by simp[World.setCell,Array.getElem?_modify,h]
theorem zxe {w:World} {b:Nat} {t:TypeId} {x0 x1 x2 x3 x4 x5 x6 x7 x8 x9:Value} (h:w.heap[b]?=some (.cells #[x0,x1,x2,x3,x4,x5,x6,x7,x8,x9] t (0,0))) (u:Value):(w.setCell ⟨b,7,none⟩ u).heap[b]?=some (.cells #[x0,x1,x2,x3,x4,x5,x6,u,x8,x9] t (0,0)):=by simp[World.setCell,Array.getElem?_modify,h]
theorem zzy {w:World} {b:Nat} {t:TypeId} {x0 x1 x2 x3 x4 x5 x6 x7 x8 x9:Value} (h:w.heap[b]?=some (.cells #[x0,x1,x2,x3,x4,x5,x6,x7,x8,x9] t (0,0))) (u:Value):(w.setCell ⟨b,8,none⟩ u).heap[b]?=some (.cells #[x0,x1,x2,x3,x4,x5,x6,x7,u,x9] t (0,0)):=by simp[World.setCell,Array.getElem?_modify,h]
theorem zzi {w:World} {b:Nat} {t:TypeId} {x0 x1 x2 x3 x4 x5 x6 x7 x8 x9:Value} (h:w.heap[b]?=some (.cells #[x0,x1,x2,x3,x4,x5,x6,x7,x8,x9] t (0,0))) (u:Value):(w.setCell ⟨b,9,none⟩ u).heap[b]?=some (.cells #[x0,x1,x2,x3,x4,x5,x6,x7,x8,u] t (0,0)):=by simp[World.setCell,Array.getElem?_modify,h]
def yabw (w:World) (b:Nat) (x0 x1 x2 x3 x4 x5 x6 x7 x8 x9:Value):World:=((((((((((w.setCell ⟨b,0,none⟩ x0).setCell ⟨b,1,none⟩ x1).setCell ⟨b,2,none⟩ x2).setCell ⟨b,3,none⟩ x3).setCell ⟨b,4,none⟩ x4).setCell ⟨b,5,none⟩ x5).setCell ⟨b,6,none⟩ x6).setCell ⟨b,7,none⟩ x7).setCell ⟨b,8,none⟩ x8).setCell ⟨b,9,none⟩ x9)
theorem zua (w:World) (b:Nat) (x0 x1 x2 x3 x4 x5 x6 x7 x8 x9:Value):Outside b (b+1) w (yabw w b x0 x1 x2 x3 x4 x5 x6 x7 x8 x9):=by
 unfold yabw
 repeat (refine Outside.setCell ?_ (by simp only;omega) (by simp only;omega) _)
 exact Outside.refl _ _ _
def zxx:List Value:=[.slice none 0 0,.slice none 0 0,.slice none 0 0,.slice none 0 0,.slice none 0 0,.slice none 0 0,.int .i64 0,.int .i64 0,.slice none 0 0,.bool false]
theorem zlo (va vb:Value) (ps:List Mi) (w:World) (ha:RdM w va ps) (hb:RdM w vb ps) (hn:ps.length≤2147483648) :
  Calls Tryz.prog 48 #[va,vb] w fun e w'=>e=.returned (.bool true)∧Below w.heap.size w w':=by
 obtain ⟨ao,cap,rfl,hcap,hc⟩:=ha.shape;obtain ⟨ao2,cap2,rfl,hcap2,hc2⟩:=hb.shape;clear ha hb;go_enter Tryz.func48,Tryz.ntmps48;go_wp2
 go_loopw [5] (fun i wr=>∃ k:Nat,k≤ps.length∧i=.int .i64 k∧Below w.heap.size w wr) (fun i _=>ps.length - (intOf i).toNat)
 case atStart=>exact ⟨0,by omega,rfl,Below.refl _ _⟩
 case round =>
  obtain ⟨k,hk,rfl,hbw⟩:=hrel
  by_cases hlt:k < ps.length
  ·obtain ⟨b,o,rfl,hbl,hcell⟩:=hc (by omega);obtain ⟨b2,o2,rfl,hbl2,hcell2⟩:=hc2 (by omega);obtain ⟨c0,c1,c2⟩:=hcell k hlt;obtain ⟨c3,c4,c5⟩:=hcell2 k hlt;have d0:=(hbw.cell (p:=⟨b,o+k*3,none⟩) hbl).trans c0;have d1:=(hbw.cell (p:=⟨b,o+k*3+1,none⟩) hbl).trans c1;have d2:=(hbw.cell (p:=⟨b,o+k*3+2,none⟩) hbl).trans c2;have d3:=(hbw.cell (p:=⟨b2,o2+k*3,none⟩) hbl2).trans c3;have d4:=(hbw.cell (p:=⟨b2,o2+k*3+1,none⟩) hbl2).trans c4;have d5:=(hbw.cell (p:=⟨b2,o2+k*3+2,none⟩) hbl2).trans c5
   have hlt':(k:Int) < (ps.length:Int):=by omega
   have hge:(0:Int)≤(k:Int):=by omega
   have hz:=hbw.size;clear hcell hcell2 hc hc2 c0 c1 c2 c3 c4 c5;go_wp2_with fail
   go_region_with (go_at_call 107;refine (zsc _ _ _ _).mono ?_;rintro e w1 ⟨rfl,hb1⟩)
   all_goals
    go_wp2
    go_roundw
    case rel=>exact ⟨k+1,by omega,by go_num,hbw.trans (Below.mono (Below.trans ((Below.refl _ _).drew) ‹_›) hz)⟩
    case measure=>simp[intOf];omega
  ·go_wp2;go_ret;exact ⟨rfl,hbw⟩
def yabu (k:Int) (i:Nat):Mi:=⟨k+3*(i:Int),k+3*(i:Int)+1,k+3*(i:Int)+1+1⟩
def zcw (k:Int) (n:Nat):List Mi:=(List.range n).map (yabu k)
theorem zau (k:Int) (n:Nat):(zcw k n).length=n:=by simp[zcw]
theorem znl (k:Int) (n i:Nat) (h:i < (zcw k n).length):(zcw k n)[i]=yabu k i:=by simp[zcw]
def IsMis (xs:List Value) (n:Nat):Prop:=∀ k,k < n→∃ a b c,xs[k*3]?=some (.int .i64 a)∧xs[k*3+1]?=some (.int .i64 b)∧xs[k*3+2]?=some (.int .i64 c)
theorem yafi (ps:List Mi):IsMis (mis ps) ps.length:=fun k hk=>⟨_,_,_,zps ps k hk,zpj ps k hk,zpl ps k hk⟩
theorem IsMis.put3 {ys:List Value} {n:Nat} (h:IsMis ys n) (hl:ys.length=n*3) (k:Nat) (a b:Int) (c:Int):IsMis (put3 ys k (.int .i64 a) (.int .i64 b) (.int .i64 c)) n:=by
 intro j hj;rw[zdn (by omega),zdn (by omega),zdn (by omega)]
 by_cases e:j=k
 ·subst e;exact ⟨a,b,c,by simp,by simp,by simp⟩
 ·obtain ⟨x,y,z,h0,h1,h2⟩:=h j hj;refine ⟨x,y,z,?_,?_,?_⟩
  ·rw[if_neg (by omega),if_neg (by omega),if_neg (by omega)];exact h0
  ·rw[if_neg (by omega),if_neg (by omega),if_neg (by omega)];exact h1
  ·rw[if_neg (by omega),if_neg (by omega),if_neg (by omega)];exact h2
theorem zjj (v:Value) (n:Nat) (k0:Int) (w:World) (h:RdM w v (zcw k0 n)) (hn:n≤2147483648) (h0:0≤k0) (h1:k0≤1099511627776) :
  Calls Tryz.prog 61 #[v,.int .i64 k0] w fun e w'=>e=.returned (.int .i64 (k0+3*n))∧w'=w:=by
 obtain ⟨ao,cap,rfl,hcap,hc⟩:=h.shape;simp only[zau] at hcap hc ⊢;clear h;go_enter Tryz.func61,Tryz.ntmps61;go_wp2
 go_loop [1,5] (fun c i=>∃ k:Nat,k≤n∧i=.int .i64 k∧c=.int .i64 (k0+3*k)) (fun _ i=>n - (intOf i).toNat)
 case atStart=>exact ⟨0,by omega,rfl,by simp⟩
 case round =>
  obtain ⟨k,hk,rfl,rfl⟩:=hrel
  by_cases hlt:k < n
  ·obtain ⟨b,o,rfl,hbl,hcell⟩:=hc (by omega);obtain ⟨c0,c1,c2⟩:=hcell k hlt;rw[znl] at c0 c1 c2;simp only[yabu] at c0 c1 c2;clear hcell hc;go_wp2
   go_round
   case rel=>exact ⟨k+1,by omega,by go_num,by go_num⟩
   case measure=>simp[intOf];omega
  ·have e:k=n:=by omega
   subst e;go_wp2;go_ret;exact ⟨rfl,rfl⟩
end Go.Proofs.YtbohndgbfbfldaaGreatDoor
