/- Several texts laid together: FsE, MiT, FqA, AnA. -/
import Derived.Test.YtahiphgmhndgaaaGreatDoorZAK
import Derived.Test.YtahiphgmhndgaaaGreatDoorZAH
import Derived.Deep.RegionWith
set_option maxRecDepth 100000
set_option maxHeartbeats 4000000
namespace Go.Proofs.YtahiphgmhndgaaaGreatDoor
open Go.RowKit
def RdFs (w:World) (v:Value) (ws es hs:List Int) (td:List Mi) (cd vl:Int) (nm:List ByteArray) (fr:Bool):Prop :=
 ∃ aW cW aP cP aS cS aQ cQ aH cH aT cT aN cN,v=.agg #[.slice aW ws.length cW,.slice aP 0 cP,.slice aS es.length cS,.slice aQ 0 cQ,.slice aH hs.length cH,.slice aT td.length cT,.int .i64 cd,.int .i64 vl,.slice aN nm.length cN,.bool fr]∧RdDev w (.agg #[.slice aW ws.length cW,.slice aP 0 cP,.slice aS es.length cS,.slice aQ 0 cQ]) ws [] es []∧RdI w (.slice aH hs.length cH) hs∧RdM w (.slice aT td.length cT) td∧RdT w (.slice aN nm.length cN) nm
theorem zam {w:World} {b:Nat} {t:TypeId} {x0 x1 x2 x3 x4 x5 x6 x7 x8 x9:Value} (h:w.heap[b]?=some (.cells #[x0,x1,x2,x3,x4,x5,x6,x7,x8,x9] t (0,0))):w.cell? ⟨b,0,none⟩=some x0∧w.cell? ⟨b,1,none⟩=some x1∧w.cell? ⟨b,2,none⟩=some x2∧w.cell? ⟨b,3,none⟩=some x3∧w.cell? ⟨b,4,none⟩=some x4∧w.cell? ⟨b,5,none⟩=some x5∧w.cell? ⟨b,6,none⟩=some x6∧w.cell? ⟨b,7,none⟩=some x7∧w.cell? ⟨b,8,none⟩=some x8∧w.cell? ⟨b,9,none⟩=some x9∧w.frozen? ⟨b,0,none⟩=false∧w.frozen? ⟨b,1,none⟩=false∧w.frozen? ⟨b,2,none⟩=false∧w.frozen? ⟨b,3,none⟩=false∧w.frozen? ⟨b,4,none⟩=false∧w.frozen? ⟨b,5,none⟩=false∧w.frozen? ⟨b,6,none⟩=false∧w.frozen? ⟨b,7,none⟩=false∧w.frozen? ⟨b,8,none⟩=false∧w.frozen? ⟨b,9,none⟩=false:=by
 simp[World.cell?,World.frozen?,h]
theorem zbv {w:World} {b:Nat} {t:TypeId} {x0 x1 x2 x3 x4 x5 x6 x7 x8 x9:Value} (h:w.heap[b]?=some (.cells #[x0,x1,x2,x3,x4,x5,x6,x7,x8,x9] t (0,0))) (u:Value):(w.setCell ⟨b,0,none⟩ u).heap[b]?=some (.cells #[u,x1,x2,x3,x4,x5,x6,x7,x8,x9] t (0,0)):=by simp[World.setCell,Array.getElem?_modify,h]
theorem zbs {w:World} {b:Nat} {t:TypeId} {x0 x1 x2 x3 x4 x5 x6 x7 x8 x9:Value} (h:w.heap[b]?=some (.cells #[x0,x1,x2,x3,x4,x5,x6,x7,x8,x9] t (0,0))) (u:Value):(w.setCell ⟨b,1,none⟩ u).heap[b]?=some (.cells #[x0,u,x2,x3,x4,x5,x6,x7,x8,x9] t (0,0)):=by simp[World.setCell,Array.getElem?_modify,h]
theorem zbq {w:World} {b:Nat} {t:TypeId} {x0 x1 x2 x3 x4 x5 x6 x7 x8 x9:Value} (h:w.heap[b]?=some (.cells #[x0,x1,x2,x3,x4,x5,x6,x7,x8,x9] t (0,0))) (u:Value):(w.setCell ⟨b,2,none⟩ u).heap[b]?=some (.cells #[x0,x1,u,x3,x4,x5,x6,x7,x8,x9] t (0,0)):=by simp[World.setCell,Array.getElem?_modify,h]
theorem zbu {w:World} {b:Nat} {t:TypeId} {x0 x1 x2 x3 x4 x5 x6 x7 x8 x9:Value} (h:w.heap[b]?=some (.cells #[x0,x1,x2,x3,x4,x5,x6,x7,x8,x9] t (0,0))) (u:Value):(w.setCell ⟨b,3,none⟩ u).heap[b]?=some (.cells #[x0,x1,x2,u,x4,x5,x6,x7,x8,x9] t (0,0)):=by simp[World.setCell,Array.getElem?_modify,h]
theorem zca {w:World} {b:Nat} {t:TypeId} {x0 x1 x2 x3 x4 x5 x6 x7 x8 x9:Value} (h:w.heap[b]?=some (.cells #[x0,x1,x2,x3,x4,x5,x6,x7,x8,x9] t (0,0))) (u:Value):(w.setCell ⟨b,4,none⟩ u).heap[b]?=some (.cells #[x0,x1,x2,x3,u,x5,x6,x7,x8,x9] t (0,0)):=by simp[World.setCell,Array.getElem?_modify,h]
theorem zcc {w:World} {b:Nat} {t:TypeId} {x0 x1 x2 x3 x4 x5 x6 x7 x8 x9:Value} (h:w.heap[b]?=some (.cells #[x0,x1,x2,x3,x4,x5,x6,x7,x8,x9] t (0,0))) (u:Value):(w.setCell ⟨b,5,none⟩ u).heap[b]?=some (.cells #[x0,x1,x2,x3,x4,u,x6,x7,x8,x9] t (0,0)):=by simp[World.setCell,Array.getElem?_modify,h]
theorem zcj {w:World} {b:Nat} {t:TypeId} {x0 x1 x2 x3 x4 x5 x6 x7 x8 x9:Value} (h:w.heap[b]?=some (.cells #[x0,x1,x2,x3,x4,x5,x6,x7,x8,x9] t (0,0))) (u:Value):(w.setCell ⟨b,6,none⟩ u).heap[b]?=some (.cells #[x0,x1,x2,x3,x4,x5,u,x7,x8,x9] t (0,0)):=by simp[World.setCell,Array.getElem?_modify,h]
theorem zcg {w:World} {b:Nat} {t:TypeId} {x0 x1 x2 x3 x4 x5 x6 x7 x8 x9:Value} (h:w.heap[b]?=some (.cells #[x0,x1,x2,x3,x4,x5,x6,x7,x8,x9] t (0,0))) (u:Value):(w.setCell ⟨b,7,none⟩ u).heap[b]?=some (.cells #[x0,x1,x2,x3,x4,x5,x6,u,x8,x9] t (0,0)):=by simp[World.setCell,Array.getElem?_modify,h]
theorem zcd {w:World} {b:Nat} {t:TypeId} {x0 x1 x2 x3 x4 x5 x6 x7 x8 x9:Value} (h:w.heap[b]?=some (.cells #[x0,x1,x2,x3,x4,x5,x6,x7,x8,x9] t (0,0))) (u:Value):(w.setCell ⟨b,8,none⟩ u).heap[b]?=some (.cells #[x0,x1,x2,x3,x4,x5,x6,x7,u,x9] t (0,0)):=by simp[World.setCell,Array.getElem?_modify,h]
theorem zcl {w:World} {b:Nat} {t:TypeId} {x0 x1 x2 x3 x4 x5 x6 x7 x8 x9:Value} (h:w.heap[b]?=some (.cells #[x0,x1,x2,x3,x4,x5,x6,x7,x8,x9] t (0,0))) (u:Value):(w.setCell ⟨b,9,none⟩ u).heap[b]?=some (.cells #[x0,x1,x2,x3,x4,x5,x6,x7,x8,u] t (0,0)):=by simp[World.setCell,Array.getElem?_modify,h]
theorem yatb {w:World} {b:Nat} {t:TypeId} {x0 x1 x2 x3 x4 x5 x6 x7 x8 x9:Value} (h:w.heap[b]?=some (.cells #[x0,x1,x2,x3,x4,x5,x6,x7,x8,x9] t (0,0))) (p q r s:Value):(zix w b p q r s).heap[b]?=some (.cells #[p,q,r,s,x4,x5,x6,x7,x8,x9] t (0,0)):=zbu (zbq (zbs (zbv h p) q) r) s
def zee (w:World) (b:Nat) (x0 x1 x2 x3 x4 x5 x6 x7 x8 x9:Value):World:=((((((((((w.setCell ⟨b,0,none⟩ x0).setCell ⟨b,1,none⟩ x1).setCell ⟨b,2,none⟩ x2).setCell ⟨b,3,none⟩ x3).setCell ⟨b,4,none⟩ x4).setCell ⟨b,5,none⟩ x5).setCell ⟨b,6,none⟩ x6).setCell ⟨b,7,none⟩ x7).setCell ⟨b,8,none⟩ x8).setCell ⟨b,9,none⟩ x9)
theorem zeu (w:World) (b:Nat) (x0 x1 x2 x3 x4 x5 x6 x7 x8 x9:Value):Outside b (b+1) w (zee w b x0 x1 x2 x3 x4 x5 x6 x7 x8 x9):=by
 unfold zee
 repeat (refine Outside.setCell ?_ (by simp only;omega) (by simp only;omega) _)
 exact Outside.refl _ _ _
theorem zfn (w:World) (b:Nat) (x0 x1 x2 x3 x4 x5 x6 x7 x8 x9:Value):(zee w b x0 x1 x2 x3 x4 x5 x6 x7 x8 x9).heap.size=w.heap.size:=by simp[zee,World.setCell]
theorem tri3 {w:World} {b:Nat} {t:TypeId} {x y z:Value} (h:w.heap[b]?=some (.cells #[x,y,z] t (0,0))):w.cell? ⟨b,0,none⟩=some x∧w.cell? ⟨b,1,none⟩=some y∧w.cell? ⟨b,2,none⟩=some z∧w.frozen? ⟨b,0,none⟩=false∧w.frozen? ⟨b,1,none⟩=false∧w.frozen? ⟨b,2,none⟩=false:=by simp[World.cell?,World.frozen?,h]
def yana:List Value:=[.slice none 0 0,.slice none 0 0,.slice none 0 0,.slice none 0 0,.slice none 0 0,.slice none 0 0,.int .i64 0,.int .i64 0,.slice none 0 0,.bool false]
theorem zup (va vb:Value) (ps:List Mi) (w:World) (ha:RdM w va ps) (hb:RdM w vb ps) (hn:ps.length≤2147483648) :
  Calls Tryz.prog 35 #[va,vb] w fun e w'=>e=.returned (.bool true)∧Below w.heap.size w w':=by
 obtain ⟨ao,cap,rfl,hcap,hc⟩:=ha.shape;obtain ⟨ao2,cap2,rfl,hcap2,hc2⟩:=hb.shape;clear ha hb;go_enter Tryz.func35,Tryz.ntmps35;go_wp2
 go_loopw [5] (fun i wr=>∃ k:Nat,k≤ps.length∧i=.int .i64 k∧Below w.heap.size w wr) (fun i _=>ps.length - (intOf i).toNat)
 case atStart=>exact ⟨0,by omega,rfl,Below.refl _ _⟩
 case round =>
  obtain ⟨k,hk,rfl,hbw⟩:=hrel
  by_cases hlt:k < ps.length
  ·obtain ⟨b,o,rfl,hbl,hcell⟩:=hc (by omega);obtain ⟨b2,o2,rfl,hbl2,hcell2⟩:=hc2 (by omega);obtain ⟨c0,c1,c2⟩:=hcell k hlt;obtain ⟨c3,c4,c5⟩:=hcell2 k hlt;have d0:=(hbw.cell (p:=⟨b,o+k*3,none⟩) hbl).trans c0;have d1:=(hbw.cell (p:=⟨b,o+k*3+1,none⟩) hbl).trans c1;have d2:=(hbw.cell (p:=⟨b,o+k*3+2,none⟩) hbl).trans c2;have d3:=(hbw.cell (p:=⟨b2,o2+k*3,none⟩) hbl2).trans c3;have d4:=(hbw.cell (p:=⟨b2,o2+k*3+1,none⟩) hbl2).trans c4;have d5:=(hbw.cell (p:=⟨b2,o2+k*3+2,none⟩) hbl2).trans c5
   have hlt':(k:Int) < (ps.length:Int):=by omega
   have hge:(0:Int)≤(k:Int):=by omega
   have hz:=hbw.size;clear hcell hcell2 hc hc2 c0 c1 c2 c3 c4 c5;go_wp2_with fail
   go_region_with (go_at_call 74;refine (yaem _ _ _ _).mono ?_;rintro e w1 ⟨rfl,hb1⟩)
   all_goals
    go_wp2
    go_roundw
    case rel=>exact ⟨k+1,by omega,by go_num,hbw.trans (Below.mono (Below.trans ((Below.refl _ _).drew) ‹_›) hz)⟩
    case measure=>simp[intOf];omega
  ·go_wp2;go_ret;exact ⟨rfl,hbw⟩
def yatj (k:Int) (i:Nat):Mi:=⟨k+3*(i:Int),k+3*(i:Int)+1,k+3*(i:Int)+1+1⟩
def zgb (k:Int) (n:Nat):List Mi:=(List.range n).map (yatj k)
theorem zby (k:Int) (n:Nat):(zgb k n).length=n:=by simp[zgb]
theorem zvw (k:Int) (n i:Nat) (h:i < (zgb k n).length):(zgb k n)[i]=yatj k i:=by simp[zgb]
def IsMis (xs:List Value) (n:Nat):Prop:=∀ k,k < n→∃ a b c,xs[k*3]?=some (.int .i64 a)∧xs[k*3+1]?=some (.int .i64 b)∧xs[k*3+2]?=some (.int .i64 c)
theorem yavx (ps:List Mi):IsMis (mis ps) ps.length:=fun k hk=>⟨_,_,_,zqi ps k hk,zqn ps k hk,zor ps k hk⟩
theorem IsMis.put3 {ys:List Value} {n:Nat} (h:IsMis ys n) (hl:ys.length=n*3) (k:Nat) (a b:Int) (c:Int):IsMis (put3 ys k (.int .i64 a) (.int .i64 b) (.int .i64 c)) n:=by
 intro j hj;rw[zgp (by omega),zgp (by omega),zgp (by omega)]
 by_cases e:j=k
 ·subst e;exact ⟨a,b,c,by simp,by simp,by simp⟩
 ·obtain ⟨x,y,z,h0,h1,h2⟩:=h j hj;refine ⟨x,y,z,?_,?_,?_⟩
  ·rw[if_neg (by omega),if_neg (by omega),if_neg (by omega)];exact h0
  ·rw[if_neg (by omega),if_neg (by omega),if_neg (by omega)];exact h1
  ·rw[if_neg (by omega),if_neg (by omega),if_neg (by omega)];exact h2
theorem zrk (v:Value) (n:Nat) (k0:Int) (w:World) (h:RdM w v (zgb k0 n)) (hn:n≤2147483648) (h0:0≤k0) (h1:k0≤1099511627776) :
  Calls Tryz.prog 54 #[v,.int .i64 k0] w fun e w'=>e=.returned (.int .i64 (k0+3*n))∧w'=w:=by
 obtain ⟨ao,cap,rfl,hcap,hc⟩:=h.shape;simp only[zby] at hcap hc ⊢;clear h;go_enter Tryz.func54,Tryz.ntmps54;go_wp2
 go_loop [1,5] (fun c i=>∃ k:Nat,k≤n∧i=.int .i64 k∧c=.int .i64 (k0+3*k)) (fun _ i=>n - (intOf i).toNat)
 case atStart=>exact ⟨0,by omega,rfl,by simp⟩
 case round =>
  obtain ⟨k,hk,rfl,rfl⟩:=hrel
  by_cases hlt:k < n
  ·obtain ⟨b,o,rfl,hbl,hcell⟩:=hc (by omega);obtain ⟨c0,c1,c2⟩:=hcell k hlt;rw[zvw] at c0 c1 c2;simp only[yatj] at c0 c1 c2;clear hcell hc;go_wp2
   go_round
   case rel=>exact ⟨k+1,by omega,by go_num,by go_num⟩
   case measure=>simp[intOf];omega
  ·have e:k=n:=by omega
   subst e;go_wp2;go_ret;exact ⟨rfl,rfl⟩
theorem zts {w:World} {b i:Nat} {x:Value} (hx:w.cell? ⟨b,i,none⟩=some x) (u:Value) (j:Nat):(w.setCell ⟨b,i,none⟩ u).cell? ⟨b,j,none⟩=if j=i then some u else w.cell? ⟨b,j,none⟩:=by
 unfold World.cell? at hx ⊢;simp only[World.setCell,Array.getElem?_modify]
 cases hw:w.heap[b]? with
 | none=>rw[hw] at hx;cases hx
 | some ob =>
  rw[hw] at hx
  cases ob with
  | cells cs t fr =>
   simp only[Option.isSome_none,Bool.false_eq_true,if_false] at hx;simp only[if_true,Option.map_some,Option.isSome_none,Bool.false_eq_true,if_false];rw[Array.getElem?_setIfInBounds];have hlt:i < cs.size:=(Array.getElem?_eq_some_iff.1 hx).1
   by_cases e:i=j
   ·subst e;simp[hlt]
   ·rw[if_neg e,if_neg (fun h=>e h.symm)]
  | _=>cases hx
theorem zmh (w:World) (b i:Nat) (u:Value) (k j:Nat):(w.setCell ⟨b,i,none⟩ u).frozen? ⟨k,j,none⟩=w.frozen? ⟨k,j,none⟩:=by
 unfold World.frozen?;simp only[World.setCell,Array.getElem?_modify]
 by_cases e:b=k
 ·subst e
  cases hw:w.heap[b]? with
  | none=>simp
  | some ob=>cases ob <;> simp
 ·simp[e]
def RowW (w:World) (lo hi:Nat) (v:Value) (td:List Mi):Prop:=RdM w v td∧(∀ b,v.ownBlock=some b→lo≤b∧b < hi∧b < w.heap.size∧(∀ j,w.frozen? ⟨b,j,none⟩=false)∧∃ o n c,v=.slice (some ⟨b,o,none⟩) n c)
theorem RowW.same {w w':World} {lo hi:Nat} {v:Value} {td:List Mi} (h:RowW w lo hi v td) (hz:w.heap.size≤w'.heap.size) (hs:∀ b,lo≤b→b < hi→b < w.heap.size→w'.heap[b]?=w.heap[b]?):RowW w' lo hi v td :=
 ⟨Rd.same h.1 hz (fun b hb e=>hs b (h.2 b e).1 (h.2 b e).2.1 hb),fun b e=>by
  obtain ⟨h1,h2,h3,h4,h5⟩:=h.2 b e;refine ⟨h1,h2,Nat.lt_of_lt_of_le h3 hz,fun j=>?_,h5⟩;have:=h4 j;unfold World.frozen? at this ⊢;simp only[hs b h1 h2 h3]
  exact this⟩
theorem RowW.below {w w':World} {lo hi:Nat} {v:Value} {td:List Mi} (h:RowW w lo hi v td) {B:Nat} (hb:Below B w w') (hB:hi≤B):RowW w' lo hi v td:=h.same hb.size (fun b _ h2 _=>hb.block b (by omega))
theorem RowW.outside {w w':World} {lo hi:Nat} {v:Value} {td:List Mi} (h:RowW w lo hi v td) {lo' hi':Nat} (ho:Outside lo' hi' w w') (hd:hi≤lo'∨hi'≤lo):RowW w' lo hi v td:=h.same ho.size (fun b h1 h2 h3=>ho.block b h3 (by omega))
theorem RowW.wide {w:World} {lo hi:Nat} {v:Value} {td:List Mi} (h:RowW w lo hi v td) {lo' hi':Nat} (h1:lo'≤lo) (h2:hi≤hi'):RowW w lo' hi' v td:=⟨h.1,fun b e=>by obtain ⟨a,b',c,d⟩:=h.2 b e;exact ⟨by omega,by omega,c,d⟩⟩
theorem RowW.nil (w:World) (lo hi:Nat):RowW w lo hi (.slice none 0 0) []:=⟨(Row.nil w 98 3 lo hi).rd,fun b e=>by cases e⟩
theorem RowW.of_row {w:World} {lo hi:Nat} {v:Value} {td:List Mi} (h:Row w 98 3 lo hi v td.length (mis td)):RowW w lo hi v td:=by
 refine ⟨h.rd,fun b e=>?_⟩
 rcases h.shape with ⟨rfl,_⟩ | ⟨b',cap,rfl,_,_⟩
 ·cases e
 ·cases e
  obtain ⟨_,h1,h2,h3,h4,_⟩:=h.at
  exact ⟨h1,h2,(h.1.lt _ rfl).2,h4,_,_,_,rfl⟩
theorem zre (ao:Option Addr) (cap:Nat) (k0:Int) (w:World):Calls Tryz.prog 37 #[.slice ao 0 cap,.int .i64 k0] w fun e w'=>e=.returned (.int .i64 k0)∧w'=w:=by
 go_enter Tryz.func37,Tryz.ntmps37;go_wp2
 go_loop [1,5] (fun c i=>i=.int .i64 0∧c=.int .i64 k0) (fun _ i=>(intOf i).toNat)
 case atStart=>exact ⟨rfl,rfl⟩
 case round =>
  obtain ⟨rfl,rfl⟩:=hrel;go_wp2;go_ret;exact ⟨rfl,rfl⟩
theorem zqy (v:Value) (td:List Mi) (k0:Int) (lo hi:Nat) (w:World) (h:RowW w lo hi v td) (hn:td.length≤2147483648) (h0:0≤k0) (h1:k0≤1099511627776) :
  Calls Tryz.prog 37 #[v,.int .i64 k0] w fun e w'=>e=.returned (.int .i64 (k0+3*td.length))∧RowW w' lo hi v (zgb k0 td.length)∧Outside lo hi w w':=by
 obtain ⟨⟨hlen,ao,cap,rfl,hcap,hc⟩,hw⟩:=h
 obtain ⟨n,hn'⟩:∃ n,n=td.length:=⟨_,rfl⟩
 rw[← hn'] at hlen hcap hc hn hw ⊢
 have hx:IsMis (mis td) n:=by rw[hn'];exact yavx td
 by_cases hp:0 < n
 ·obtain ⟨b,o,rfl,hbl,hcell⟩:=hc hp;obtain ⟨g1,g2,-,g4,-⟩:=hw b rfl;clear hc hn';generalize mis td=xs at *;have X0:Hid (∀ j,j < n*3→w.cell? ⟨b,o+j,none⟩=xs[j]?):=hcell;have F0:Hid (∀ j,w.frozen? ⟨b,j,none⟩=false):=g4;clear hcell g4 hw;go_enter Tryz.func37,Tryz.ntmps37;go_wp2
  go_loopw [1,5] (fun c i wr=>∃ k:Nat,k≤n∧i=.int .i64 k∧c=.int .i64 (k0+3*k)∧Hid (∃ ys:List Value,ys.length=n*3∧(∀ j,j < n*3→wr.cell? ⟨b,o+j,none⟩=ys[j]?)∧IsMis ys n∧(∀ j,j < k*3→ys[j]?=(mis (zgb k0 n))[j]?)∧(∀ j,wr.frozen? ⟨b,j,none⟩=false)∧Outside b (b+1) w wr)) (fun _ i _=>n - (intOf i).toNat)
  case atStart=>exact ⟨0,by omega,rfl,by simp,⟨xs,hlen,X0.o,hx,fun j hj=>absurd hj (by omega),F0.o,Outside.refl _ _ _⟩⟩
  case round =>
   obtain ⟨k,hk,rfl,rfl,I⟩:=hrel;clear hx X0 F0;obtain ⟨ys,hl,hcl,hys,hd,hfr,hout⟩:=I.o;clear I
   by_cases hlt:k < n
   ·obtain ⟨x,y,z,q0,q1,q2⟩:=hys k hlt;have f0:=hfr (o+k*3);have f1:=hfr (o+k*3+1);have f2:=hfr (o+k*3+2);have e0:=(hcl (k*3) (by omega)).trans q0;have e1:=(hcl (k*3+1) (by omega)).trans q1;have e2:=(hcl (k*3+2) (by omega)).trans q2;rw[← Nat.add_assoc] at e1 e2;have IH:=zaa (hys.put3 hl k (k0+3*k) (k0+3*k+1) (k0+3*k+1+1))
    have DH:Hid (∀ j,j < (k+1)*3→(put3 ys k (.int .i64 (k0+3*k)) (.int .i64 (k0+3*k+1)) (.int .i64 (k0+3*k+1+1)))[j]?=(mis (zgb k0 n))[j]?):=by
     have hk':k < (zgb k0 n).length:=by rw[zby];exact hlt
     have:=zsj (ps:=zgb k0 n) hk' (by rw[zby];exact hl) hd;rw[zvw] at this;exact this
    obtain ⟨w1,hw1⟩:∃ w1,w1=wr.setCell ⟨b,o+k*3,none⟩ (.int .i64 (k0+3*k)):=⟨_,rfl⟩
    obtain ⟨w2,hw2⟩:∃ w2,w2=w1.setCell ⟨b,o+k*3+1,none⟩ (.int .i64 (k0+3*k+1)):=⟨_,rfl⟩
    obtain ⟨w3,hw3⟩:∃ w3,w3=w2.setCell ⟨b,o+k*3+2,none⟩ (.int .i64 (k0+3*k+1+1)):=⟨_,rfl⟩
    have C1:∀ j,w1.cell? ⟨b,j,none⟩=if j=o+k*3 then some (.int .i64 (k0+3*k)) else wr.cell? ⟨b,j,none⟩:=fun j=>by rw[hw1];exact zts e0 _ j
    have C2:∀ j,w2.cell? ⟨b,j,none⟩=if j=o+k*3+1 then some (.int .i64 (k0+3*k+1)) else w1.cell? ⟨b,j,none⟩:=fun j=>by rw[hw2];exact zts (by rw[C1,if_neg (by omega)];exact e1) _ j
    have C3:∀ j,w3.cell? ⟨b,j,none⟩=if j=o+k*3+2 then some (.int .i64 (k0+3*k+1+1)) else w2.cell? ⟨b,j,none⟩:=fun j=>by rw[hw3];exact zts (by rw[C2,if_neg (by omega),C1,if_neg (by omega)];exact e2) _ j
    have CH:Hid (∀ j,j < n*3→w3.cell? ⟨b,o+j,none⟩=(put3 ys k (.int .i64 (k0+3*k)) (.int .i64 (k0+3*k+1)) (.int .i64 (k0+3*k+1+1)))[j]?):=fun j hj=>by
     rw[C3,C2,C1,zgp (by omega)]
     by_cases a2:j=k*3+2
     ·rw[if_pos (by omega),if_pos a2]
     ·by_cases a1:j=k*3+1
      ·rw[if_neg (by omega),if_pos (by omega),if_neg a2,if_pos a1]
      ·by_cases a:j=k*3
       ·rw[if_neg (by omega),if_neg (by omega),if_pos (by omega),if_neg a2,if_neg a1,if_pos a]
       ·rw[if_neg (by omega),if_neg (by omega),if_neg (by omega),if_neg a2,if_neg a1,if_neg a];exact hcl j hj
    have FH:Hid (∀ j,w3.frozen? ⟨b,j,none⟩=false):=fun j=>by rw[hw3,zmh,hw2,zmh,hw1,zmh];exact hfr j
    have OH:Hid (Outside b (b+1) w w3):=by
     rw[hw3,hw2,hw1];exact ((hout.setCell (a:=⟨b,_,none⟩) (Nat.le_refl _) (Nat.lt_succ_self _) _).setCell (a:=⟨b,_,none⟩) (Nat.le_refl _) (Nat.lt_succ_self _) _).setCell (a:=⟨b,_,none⟩) (Nat.le_refl _) (Nat.lt_succ_self _) _
    have LH:Hid ((put3 ys k (.int .i64 (k0+3*k)) (.int .i64 (k0+3*k+1)) (.int .i64 (k0+3*k+1+1))).length=n*3):=by rw[yapb];exact hl
    rw[hw2,hw1] at hw3;clear hys hd hfr hcl q0 q1 q2 C1 C2 C3 hw1 hw2 w1 w2 hout hl;go_wp2;rw[← hw3]
    go_roundw
    case rel=>exact ⟨k+1,by omega,by go_num,by go_num,⟨_,LH.o,CH.o,IH.o,DH.o,FH.o,OH.o⟩⟩
    case measure=>simp[intOf];omega
   ·have e:k=n:=by omega
    subst e;have e:=yajq (ps:=zgb k0 k) (by rw[zby];exact hl) (by rw[zby];exact hd);have CC:=zaa hcl;have FF:=zaa hfr;have OO:=zaa hout;clear hys hd hcl hfr hout;go_wp2;go_ret;rw[e] at CC;have hz:=OO.o.size;refine ⟨rfl,⟨⟨?_,some ⟨b,o,none⟩,cap,?_,?_,fun _=>⟨b,o,rfl,by omega,?_⟩⟩,fun b' e'=>?_⟩,OO.o.mono g1 (by omega)⟩
    ·rw[zby,yabu,zby]
    ·rw[zby]
    ·rw[zby];exact hcap
    ·rw[zby];exact CC.o
    ·cases e'
     exact ⟨g1,g2,Nat.lt_of_lt_of_le hbl hz,FF.o,_,_,_,rfl⟩
 ·obtain rfl:n=0:=by omega
  refine (zre ao cap k0 w).mono ?_;rintro e w' ⟨rfl,rfl⟩;exact ⟨by simp,⟨⟨rfl,ao,cap,rfl,hcap,fun h=>absurd h (by simp[zgb])⟩,hw⟩,Outside.refl _ _ _⟩
def RdF (w:World) (v:Value) (ws:List Int) (ps:List St) (es:List Int) (qs:List Se) (hs:List Int) (td:List Mi) (cd vl:Int) (nm:List ByteArray) (fr:Bool):Prop :=
 ∃ aW cW aP cP aS cS aQ cQ aH cH aT cT aN cN,v=.agg #[.slice aW ws.length cW,.slice aP ps.length cP,.slice aS es.length cS,.slice aQ qs.length cQ,.slice aH hs.length cH,.slice aT td.length cT,.int .i64 cd,.int .i64 vl,.slice aN nm.length cN,.bool fr]∧RdDev w (.agg #[.slice aW ws.length cW,.slice aP ps.length cP,.slice aS es.length cS,.slice aQ qs.length cQ]) ws ps es qs∧RdI w (.slice aH hs.length cH) hs∧RdM w (.slice aT td.length cT) td∧RdT w (.slice aN nm.length cN) nm
theorem RdF.below {w w':World} {v:Value} {ws:List Int} {ps:List St} {es:List Int} {qs:List Se} {hs:List Int} {td:List Mi} {cd vl:Int} {nm:List ByteArray} {fr:Bool} (h:RdF w v ws ps es qs hs td cd vl nm fr) (s:Below w.heap.size w w'):RdF w' v ws ps es qs hs td cd vl nm fr:=by
 obtain ⟨aW,cW,aP,cP,aS,cS,aQ,cQ,aH,cH,aT,cT,aN,cN,rfl,a,b,c,d⟩:=h;exact ⟨aW,cW,aP,cP,aS,cS,aQ,cQ,aH,cH,aT,cT,aN,cN,rfl,a.below s,Rd.below b s,Rd.below c s,Rd.below d s⟩
structure FarF (lo hi ld ud lh uh lt ut ln un:Nat):Prop where
 d0:lo≤ld
 d1:ud≤hi
 h0:lo≤lh
 h1:uh≤hi
 t0:lo≤lt
 t1:ut≤hi
 n0:lo≤ln
 n1:un≤hi
 dh:ud≤lh∨uh≤ld
 dt:ud≤lt∨ut≤ld
 dn:ud≤ln∨un≤ld
 ht:uh≤lt∨ut≤lh
 hn:uh≤ln∨un≤lh
 tn:ut≤ln∨un≤lt
def RowF (w:World) (lo hi:Nat) (v:Value) (ws:List Int) (ps:List St) (es:List Int) (qs:List Se) (hs:List Int) (td:List Mi) (cd vl:Int) (nm:List ByteArray) (fr:Bool):Prop :=
 ∃ vW vP vS vQ vH vT vN ld ud lh uh lt ut ln un,v=.agg #[vW,vP,vS,vQ,vH,vT,.int .i64 cd,.int .i64 vl,vN,.bool fr]∧RowDev w ld ud (.agg #[vW,vP,vS,vQ]) ws ps es qs∧Row w 3 1 lh uh vH hs.length (zav hs)∧RowW w lt ut vT td∧Row w 9 1 ln un vN nm.length (zlf nm)∧FarF lo hi ld ud lh uh lt ut ln un
theorem RowF.rd {w:World} {lo hi:Nat} {v:Value} {ws:List Int} {ps:List St} {es:List Int} {qs:List Se} {hs:List Int} {td:List Mi} {cd vl:Int} {nm:List ByteArray} {fr:Bool} (h:RowF w lo hi v ws ps es qs hs td cd vl nm fr):RdF w v ws ps es qs hs td cd vl nm fr:=by
 obtain ⟨vW,vP,vS,vQ,vH,vT,vN,ld,ud,lh,uh,lt,ut,ln,un,rfl,a,b,c,d,-⟩:=h;obtain ⟨aW,cW,aP,cP,aS,cS,aQ,cQ,e,-,-⟩:=a.rd.form
 cases e
 obtain ⟨-,aH,cH,rfl,-⟩:=b.rd;obtain ⟨-,aT,cT,rfl,-⟩:=c.1;obtain ⟨-,aN,cN,rfl,-⟩:=d.rd;exact ⟨aW,cW,aP,cP,aS,cS,aQ,cQ,aH,cH,aT,cT,aN,cN,rfl,a.rd,b.rd,c.1,d.rd⟩
theorem RowF.below {w w':World} {lo hi:Nat} {v:Value} {ws:List Int} {ps:List St} {es:List Int} {qs:List Se} {hs:List Int} {td:List Mi} {cd vl:Int} {nm:List ByteArray} {fr:Bool} (h:RowF w lo hi v ws ps es qs hs td cd vl nm fr) {B:Nat} (hb:Below B w w') (hB:hi≤B):RowF w' lo hi v ws ps es qs hs td cd vl nm fr:=by
 obtain ⟨vW,vP,vS,vQ,vH,vT,vN,ld,ud,lh,uh,lt,ut,ln,un,rfl,a,b,c,d,f⟩:=h;have:=f.d1;have:=f.h1;have:=f.t1;have:=f.n1;exact ⟨vW,vP,vS,vQ,vH,vT,vN,ld,ud,lh,uh,lt,ut,ln,un,rfl,a.below hb (by omega),b.below hb (by omega),c.below hb (by omega),d.below hb (by omega),f⟩
theorem RowF.outside {w w':World} {lo hi:Nat} {v:Value} {ws:List Int} {ps:List St} {es:List Int} {qs:List Se} {hs:List Int} {td:List Mi} {cd vl:Int} {nm:List ByteArray} {fr:Bool} (h:RowF w lo hi v ws ps es qs hs td cd vl nm fr) {lo' hi':Nat} (ho:Outside lo' hi' w w') (hd:hi≤lo'∨hi'≤lo) (hz:hi≤w.heap.size):RowF w' lo hi v ws ps es qs hs td cd vl nm fr:=by
 obtain ⟨vW,vP,vS,vQ,vH,vT,vN,ld,ud,lh,uh,lt,ut,ln,un,rfl,a,b,c,d,f⟩:=h;have:=f.d0;have:=f.h0;have:=f.t0;have:=f.n0;have:=f.d1;have:=f.h1;have:=f.t1;have:=f.n1;exact ⟨vW,vP,vS,vQ,vH,vT,vN,ld,ud,lh,uh,lt,ut,ln,un,rfl,a.outside ho (by omega) (by omega),b.outside ho (by omega) (by omega),c.outside ho (by omega),d.outside ho (by omega) (by omega),f⟩
theorem RowF.wide {w:World} {lo hi:Nat} {v:Value} {ws:List Int} {ps:List St} {es:List Int} {qs:List Se} {hs:List Int} {td:List Mi} {cd vl:Int} {nm:List ByteArray} {fr:Bool} (h:RowF w lo hi v ws ps es qs hs td cd vl nm fr) {lo' hi':Nat} (p:lo'≤lo) (q:hi≤hi'):RowF w lo' hi' v ws ps es qs hs td cd vl nm fr:=by
 obtain ⟨vW,vP,vS,vQ,vH,vT,vN,ld,ud,lh,uh,lt,ut,ln,un,rfl,a,b,c,d,f⟩:=h;exact ⟨vW,vP,vS,vQ,vH,vT,vN,ld,ud,lh,uh,lt,ut,ln,un,rfl,a,b,c,d,⟨Nat.le_trans p f.d0,Nat.le_trans f.d1 q,Nat.le_trans p f.h0,Nat.le_trans f.h1 q,Nat.le_trans p f.t0,Nat.le_trans f.t1 q,Nat.le_trans p f.n0,Nat.le_trans f.n1 q,f.dh,f.dt,f.dn,f.ht,f.hn,f.tn⟩⟩
theorem RowF.zero (w:World) (lo:Nat):RowF w lo lo (.agg #[.slice none 0 0,.slice none 0 0,.slice none 0 0,.slice none 0 0,.slice none 0 0,.slice none 0 0,.int .i64 0,.int .i64 0,.slice none 0 0,.bool false]) [] [] [] [] [] [] 0 0 [] false :=
 ⟨_,_,_,_,_,_,_,lo,lo,lo,lo,lo,lo,lo,lo,rfl,⟨_,_,_,_,lo,lo,lo,lo,rfl,⟨_,_,rfl,Row.nil _ _ _ _ _,Row.nil _ _ _ _ _⟩,⟨_,_,rfl,⟨3,by decide,Row.nil _ _ _ _ _⟩,Row.nil _ _ _ _ _⟩,by omega⟩,Row.nil _ _ _ _ _,RowW.nil _ _ _,Row.nil _ _ _ _ _,⟨Nat.le_refl _,Nat.le_refl _,Nat.le_refl _,Nat.le_refl _,Nat.le_refl _,Nat.le_refl _,Nat.le_refl _,Nat.le_refl _,by omega,by omega,by omega,by omega,by omega,by omega⟩⟩
theorem RowF.form {w:World} {lo hi:Nat} {v:Value} {ws:List Int} {ps:List St} {es:List Int} {qs:List Se} {hs:List Int} {td:List Mi} {cd vl:Int} {nm:List ByteArray} {fr:Bool} (h:RowF w lo hi v ws ps es qs hs td cd vl nm fr):∃ aW cW aP cP aS cS aQ cQ aH cH aT cT aN cN,v=.agg #[.slice aW ws.length cW,.slice aP ps.length cP,.slice aS es.length cS,.slice aQ qs.length cQ,.slice aH hs.length cH,.slice aT td.length cT,.int .i64 cd,.int .i64 vl,.slice aN nm.length cN,.bool fr]:=by
 obtain ⟨aW,cW,aP,cP,aS,cS,aQ,cQ,aH,cH,aT,cT,aN,cN,rfl,-⟩:=h.rd;exact ⟨aW,cW,aP,cP,aS,cS,aQ,cQ,aH,cH,aT,cT,aN,cN,rfl⟩
theorem zva (c v:Int) (va vb:Value) (ss:List ByteArray) (w:World) (ha:RdT w va ss) (hb:RdT w vb ss) (hn:ss.length≤2147483648) :
  Calls Tryz.prog 36 #[.agg #[.int .i64 c,.int .i64 v,va],.agg #[.int .i64 c,.int .i64 v,vb]] w fun e w'=>e=.returned (.bool true)∧Below w.heap.size w w':=by
 have LE:=zaa (fun w1 (h:Below w.heap.size w w1)=>zrb va vb ss w1 (Rd.below ha h) (Rd.below hb h) hn);obtain ⟨-,aa,ca,rfl,-⟩:=ha;obtain ⟨-,ab,cb,rfl,-⟩:=hb;have BW:Hid (Below w.heap.size w ((w.alloc (.cells #[.int .i64 c,.int .i64 v,.slice aa ss.length ca] 49)).alloc (.cells #[.int .i64 c,.int .i64 v,.slice ab ss.length cb] 49))):=((Below.refl _ _).alloc (Nat.le_refl _) _).alloc (by simp) _;go_enter Tryz.func36,Tryz.ntmps36;go_wp2_with fail;refine (LE.o _ BW.o).mono ?_;rintro e w1 ⟨rfl,hb1⟩;have B1:=zaa (zab BW.o hb1 BW.o.size);clear hb1;go_wp2;go_ret;exact ⟨rfl,B1.o⟩
theorem zrf (c v:Int) (vN:Value) (ss:List ByteArray) (k0:Int) (lo hi:Nat) (w:World) (h:Row w 9 1 lo hi vN ss.length (zlf ss)) (hz:hi≤w.heap.size) (hn:ss.length≤16777216) (h0:0≤k0) (h1:k0≤1099511627776) :
  Calls Tryz.prog 38 #[.agg #[.int .i64 c,.int .i64 v,vN],.int .i64 k0] w fun e w'=>e=.returned (.int .i64 (k0+ss.length))∧Row w' 9 1 lo hi vN ss.length (zlf (zex k0 ss.length))∧∃ wa,Below w.heap.size w wa∧hi≤wa.heap.size∧wa.grownBy w' vN.ownBlock:=by
 obtain ⟨-,aa,ca,rfl,-⟩:=h.rd;have BW:Hid (Below w.heap.size w (w.alloc (.cells #[.int .i64 c,.int .i64 v,.slice aa ss.length ca] 49))):=(Below.refl _ _).alloc (Nat.le_refl _) _;have LM:=zaa (zoq (.slice aa ss.length ca) ss k0 lo hi (w.alloc (.cells #[.int .i64 c,.int .i64 v,.slice aa ss.length ca] 49)) (h.below BW.o hz) (Nat.le_trans hz BW.o.size) hn h0 h1);have hz2:hi≤(w.alloc (.cells #[.int .i64 c,.int .i64 v,.slice aa ss.length ca] 49)).heap.size:=Nat.le_trans hz BW.o.size;have Z2:=zaa hz2;clear h hz hz2;go_enter Tryz.func38,Tryz.ntmps38;go_wp2_with fail;refine LM.o.mono ?_;rintro e w1 ⟨rfl,hr1,hg1,-⟩;have R1:=zaa hr1;have G1:=zaa hg1;clear hr1 hg1 LM;go_wp2;go_ret;exact ⟨rfl,R1.o,_,BW.o,Z2.o,G1.o⟩
theorem zrj (c v:Int) (vN:Value) (n:Nat) (k0:Int) (w:World) (h:RdT w vN (zex k0 n)) (hn:n≤16777216) (h0:0≤k0) (h1:k0≤1099511627776) :
  Calls Tryz.prog 55 #[.agg #[.int .i64 c,.int .i64 v,vN],.int .i64 k0] w fun e w'=>e=.returned (.int .i64 (k0+n))∧Below w.heap.size w w':=by
 have LH:=zaa (fun w1 (hb:Below w.heap.size w w1)=>zpy vN n k0 w1 (Rd.below h hb) hn h0 h1);obtain ⟨-,aa,ca,e,-⟩:=h;rw[zcw] at e;subst e;have BW:Hid (Below w.heap.size w (w.alloc (.cells #[.int .i64 c,.int .i64 v,.slice aa n ca] 49))):=(Below.refl _ _).alloc (Nat.le_refl _) _
 have q:¬ k0+(n:Int) < 0:=by omega
 go_enter Tryz.func55,Tryz.ntmps55;go_wp2_with fail;refine (LH.o _ BW.o).mono ?_;rintro e w1 ⟨rfl,hb1⟩;have B1:=zaa (zab BW.o hb1 BW.o.size);clear hb1;go_wp2;go_ret;exact ⟨rfl,B1.o⟩
end Go.Proofs.YtahiphgmhndgaaaGreatDoor
