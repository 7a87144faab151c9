/- Several texts laid together: FsE, MiT, FqA. -/
import Derived.Test.YtbohndgbfbfldaaGreatDoorDev
import Derived.Test.YtbohndgbfbfldaaGreatDoorZAN
import Derived.Test.YtbohndgbfbfldaaGreatDoorZAO
import Derived.Test.YtbohndgbfbfldaaGreatDoorZAJ
import Derived.Test.YtbohndgbfbfldaaGreatDoorZAG
import Derived.Deep.DeepCutAuto
import Derived.Deep.RegionHeld3
import Derived.Deep.RegionLaw
import Derived.Deep.RegionWith
namespace Go.Proofs.YtbohndgbfbfldaaGreatDoor
open Go.RowKit
theorem zbb {w:World} {b:Nat} {t:TypeId} {x0 x1 x2 x3 x4 x5 x6 x7 x8 x9:Value} (h:w.heap[b]?=some (.cells #[x0,x1,x2,x3,x4,x5,x6,x7,x8,x9] t (0,0))):w.cell? ⟨b,0,none⟩=some x0∧w.cell? ⟨b,1,none⟩=some x1∧w.cell? ⟨b,2,none⟩=some x2∧w.cell? ⟨b,3,none⟩=some x3∧w.cell? ⟨b,4,none⟩=some x4∧w.cell? ⟨b,5,none⟩=some x5∧w.cell? ⟨b,6,none⟩=some x6∧w.cell? ⟨b,7,none⟩=some x7∧w.cell? ⟨b,8,none⟩=some x8∧w.cell? ⟨b,9,none⟩=some x9∧w.frozen? ⟨b,0,none⟩=false∧w.frozen? ⟨b,1,none⟩=false∧w.frozen? ⟨b,2,none⟩=false∧w.frozen? ⟨b,3,none⟩=false∧w.frozen? ⟨b,4,none⟩=false∧w.frozen? ⟨b,5,none⟩=false∧w.frozen? ⟨b,6,none⟩=false∧w.frozen? ⟨b,7,none⟩=false∧w.frozen? ⟨b,8,none⟩=false∧w.frozen? ⟨b,9,none⟩=false:=by
 simp[World.cell?,World.frozen?,h]
theorem zwv {w:World} {b:Nat} {t:TypeId} {x0 x1 x2 x3 x4 x5 x6 x7 x8 x9:Value} (h:w.heap[b]?=some (.cells #[x0,x1,x2,x3,x4,x5,x6,x7,x8,x9] t (0,0))) (u:Value):(w.setCell ⟨b,0,none⟩ u).heap[b]?=some (.cells #[u,x1,x2,x3,x4,x5,x6,x7,x8,x9] t (0,0)):=by simp[World.setCell,Array.getElem?_modify,h]
theorem zye {w:World} {b:Nat} {t:TypeId} {x0 x1 x2 x3 x4 x5 x6 x7 x8 x9:Value} (h:w.heap[b]?=some (.cells #[x0,x1,x2,x3,x4,x5,x6,x7,x8,x9] t (0,0))) (u:Value):(w.setCell ⟨b,1,none⟩ u).heap[b]?=some (.cells #[x0,u,x2,x3,x4,x5,x6,x7,x8,x9] t (0,0)):=by simp[World.setCell,Array.getElem?_modify,h]
theorem zys {w:World} {b:Nat} {t:TypeId} {x0 x1 x2 x3 x4 x5 x6 x7 x8 x9:Value} (h:w.heap[b]?=some (.cells #[x0,x1,x2,x3,x4,x5,x6,x7,x8,x9] t (0,0))) (u:Value):(w.setCell ⟨b,2,none⟩ u).heap[b]?=some (.cells #[x0,x1,u,x3,x4,x5,x6,x7,x8,x9] t (0,0)):=by simp[World.setCell,Array.getElem?_modify,h]
theorem zyn {w:World} {b:Nat} {t:TypeId} {x0 x1 x2 x3 x4 x5 x6 x7 x8 x9:Value} (h:w.heap[b]?=some (.cells #[x0,x1,x2,x3,x4,x5,x6,x7,x8,x9] t (0,0))) (u:Value):(w.setCell ⟨b,3,none⟩ u).heap[b]?=some (.cells #[x0,x1,x2,u,x4,x5,x6,x7,x8,x9] t (0,0)):=by simp[World.setCell,Array.getElem?_modify,h]
theorem zyf {w:World} {b:Nat} {t:TypeId} {x0 x1 x2 x3 x4 x5 x6 x7 x8 x9:Value} (h:w.heap[b]?=some (.cells #[x0,x1,x2,x3,x4,x5,x6,x7,x8,x9] t (0,0))) (u:Value):(w.setCell ⟨b,4,none⟩ u).heap[b]?=some (.cells #[x0,x1,x2,x3,u,x5,x6,x7,x8,x9] t (0,0)):=by simp[World.setCell,Array.getElem?_modify,h]
theorem zxb {w:World} {b:Nat} {t:TypeId} {x0 x1 x2 x3 x4 x5 x6 x7 x8 x9:Value} (h:w.heap[b]?=some (.cells #[x0,x1,x2,x3,x4,x5,x6,x7,x8,x9] t (0,0))) (u:Value):(w.setCell ⟨b,5,none⟩ u).heap[b]?=some (.cells #[x0,x1,x2,x3,x4,u,x6,x7,x8,x9] t (0,0)):=by simp[World.setCell,Array.getElem?_modify,h]
theorem zxe {w:World} {b:Nat} {t:TypeId} {x0 x1 x2 x3 x4 x5 x6 x7 x8 x9:Value} (h:w.heap[b]?=some (.cells #[x0,x1,x2,x3,x4,x5,x6,x7,x8,x9] t (0,0))) (u:Value):(w.setCell ⟨b,6,none⟩ u).heap[b]?=some (.cells #[x0,x1,x2,x3,x4,x5,u,x7,x8,x9] t (0,0)):=by simp[World.setCell,Array.getElem?_modify,h]
theorem zyb {w:World} {b:Nat} {t:TypeId} {x0 x1 x2 x3 x4 x5 x6 x7 x8 x9:Value} (h:w.heap[b]?=some (.cells #[x0,x1,x2,x3,x4,x5,x6,x7,x8,x9] t (0,0))) (u:Value):(w.setCell ⟨b,7,none⟩ u).heap[b]?=some (.cells #[x0,x1,x2,x3,x4,x5,x6,u,x8,x9] t (0,0)):=by simp[World.setCell,Array.getElem?_modify,h]
theorem zwx {w:World} {b:Nat} {t:TypeId} {x0 x1 x2 x3 x4 x5 x6 x7 x8 x9:Value} (h:w.heap[b]?=some (.cells #[x0,x1,x2,x3,x4,x5,x6,x7,x8,x9] t (0,0))) (u:Value):(w.setCell ⟨b,8,none⟩ u).heap[b]?=some (.cells #[x0,x1,x2,x3,x4,x5,x6,x7,u,x9] t (0,0)):=by simp[World.setCell,Array.getElem?_modify,h]
theorem yaar {w:World} {b:Nat} {t:TypeId} {x0 x1 x2 x3 x4 x5 x6 x7 x8 x9:Value} (h:w.heap[b]?=some (.cells #[x0,x1,x2,x3,x4,x5,x6,x7,x8,x9] t (0,0))) (p q r s:Value):(putR w b p q r s).heap[b]?=some (.cells #[p,q,r,s,x4,x5,x6,x7,x8,x9] t (0,0)):=zyn (zys (zye (zwv h p) q) r) s
def yabk (w:World) (b:Nat) (x0 x1 x2 x3 x4 x5 x6 x7 x8 x9:Value):World:=((((((((((w.setCell ⟨b,0,none⟩ x0).setCell ⟨b,1,none⟩ x1).setCell ⟨b,2,none⟩ x2).setCell ⟨b,3,none⟩ x3).setCell ⟨b,4,none⟩ x4).setCell ⟨b,5,none⟩ x5).setCell ⟨b,6,none⟩ x6).setCell ⟨b,7,none⟩ x7).setCell ⟨b,8,none⟩ x8).setCell ⟨b,9,none⟩ x9)
theorem tri3 {w:World} {b:Nat} {t:TypeId} {x y z:Value} (h:w.heap[b]?=some (.cells #[x,y,z] t (0,0))):w.cell? ⟨b,0,none⟩=some x∧w.cell? ⟨b,1,none⟩=some y∧w.cell? ⟨b,2,none⟩=some z∧w.frozen? ⟨b,0,none⟩=false∧w.frozen? ⟨b,1,none⟩=false∧w.frozen? ⟨b,2,none⟩=false:=by simp[World.cell?,World.frozen?,h]
set_option maxHeartbeats 2000000 in
theorem zkr (va vb:Value) (ps:List Mi) (w:World) (ha:RdM w va ps) (hb:RdM w vb ps) (hn:ps.length≤2147483648) :
  Calls Tryz.prog 48 #[va,vb] w fun e w'=>e=.returned (.bool true)∧Below w.heap.size w w':=by
 obtain ⟨ao,cap,rfl,hcap,hc⟩:=ha.shape;obtain ⟨ao2,cap2,rfl,hcap2,hc2⟩:=hb.shape;clear ha hb;go_enter Tryz.func48,Tryz.ntmps48;go_wp2
 go_loopw [5] (fun i wr=>∃ k:Nat,k≤ps.length∧i=.int .i64 k∧Below w.heap.size w wr) (fun i _=>ps.length - (intOf i).toNat)
 case atStart=>exact ⟨0,by omega,rfl,Below.refl _ _⟩
 case round =>
  obtain ⟨k,hk,rfl,hbw⟩:=hrel
  by_cases hlt:k < ps.length
  ·obtain ⟨b,o,rfl,hbl,hcell⟩:=hc (by omega);obtain ⟨b2,o2,rfl,hbl2,hcell2⟩:=hc2 (by omega);obtain ⟨c0,c1,c2⟩:=hcell k hlt;obtain ⟨c3,c4,c5⟩:=hcell2 k hlt;have d0:=(hbw.cell (p:=⟨b,o+k*3,none⟩) hbl).trans c0;have d1:=(hbw.cell (p:=⟨b,o+k*3+1,none⟩) hbl).trans c1;have d2:=(hbw.cell (p:=⟨b,o+k*3+2,none⟩) hbl).trans c2;have d3:=(hbw.cell (p:=⟨b2,o2+k*3,none⟩) hbl2).trans c3;have d4:=(hbw.cell (p:=⟨b2,o2+k*3+1,none⟩) hbl2).trans c4;have d5:=(hbw.cell (p:=⟨b2,o2+k*3+2,none⟩) hbl2).trans c5
   have hlt':(k:Int) < (ps.length:Int):=by omega
   have hge:(0:Int)≤(k:Int):=by omega
   have hz:=hbw.size;clear hcell hcell2 hc hc2 c0 c1 c2 c3 c4 c5;go_wp2_with fail
   go_region_with (go_at_call 107;refine (zrn _ _ _ _).mono ?_;rintro e w1 ⟨rfl,hb1⟩)
   all_goals
    go_wp2
    go_roundw
    case rel=>exact ⟨k+1,by omega,by go_num,hbw.trans (Below.mono (Below.trans ((Below.refl _ _).drew) ‹_›) hz)⟩
    case measure=>simp[intOf];omega
  ·go_wp2;go_ret;exact ⟨rfl,hbw⟩
def RowW (w:World) (lo hi:Nat) (v:Value) (td:List Mi):Prop:=RdM w v td∧(∀ b,v.ownBlock=some b→lo≤b∧b < hi∧b < w.heap.size∧(∀ j,w.frozen? ⟨b,j,none⟩=false)∧∃ o n c,v=.slice (some ⟨b,o,none⟩) n c)
theorem RowW.same {w w':World} {lo hi:Nat} {v:Value} {td:List Mi} (h:RowW w lo hi v td) (hz:w.heap.size≤w'.heap.size) (hs:∀ b,lo≤b→b < hi→b < w.heap.size→w'.heap[b]?=w.heap[b]?):RowW w' lo hi v td :=
 ⟨Rd.same h.1 hz (fun b hb e=>hs b (h.2 b e).1 (h.2 b e).2.1 hb),fun b e=>by
  obtain ⟨h1,h2,h3,h4,h5⟩:=h.2 b e;refine ⟨h1,h2,Nat.lt_of_lt_of_le h3 hz,fun j=>?_,h5⟩;have:=h4 j;unfold World.frozen? at this ⊢;simp only[hs b h1 h2 h3]
  exact this⟩
theorem RowW.below {w w':World} {lo hi:Nat} {v:Value} {td:List Mi} (h:RowW w lo hi v td) {B:Nat} (hb:Below B w w') (hB:hi≤B):RowW w' lo hi v td:=h.same hb.size (fun b _ h2 _=>hb.block b (by omega))
theorem RowW.outside {w w':World} {lo hi:Nat} {v:Value} {td:List Mi} (h:RowW w lo hi v td) {lo' hi':Nat} (ho:Outside lo' hi' w w') (hd:hi≤lo'∨hi'≤lo):RowW w' lo hi v td:=h.same ho.size (fun b h1 h2 h3=>ho.block b h3 (by omega))
theorem RowW.wide {w:World} {lo hi:Nat} {v:Value} {td:List Mi} (h:RowW w lo hi v td) {lo' hi':Nat} (h1:lo'≤lo) (h2:hi≤hi'):RowW w lo' hi' v td:=⟨h.1,fun b e=>by obtain ⟨a,b',c,d⟩:=h.2 b e;exact ⟨by omega,by omega,c,d⟩⟩
theorem RowW.of_row {w:World} {lo hi:Nat} {v:Value} {td:List Mi} (h:Row w 120 3 lo hi v td.length (mis td)):RowW w lo hi v td:=by
 refine ⟨h.rd,fun b e=>?_⟩
 rcases h.shape with ⟨rfl,_⟩ | ⟨b',cap,rfl,_,_⟩
 ·cases e
 ·cases e
  obtain ⟨_,h1,h2,h3,h4,_⟩:=h.at
  exact ⟨h1,h2,(h.1.lt _ rfl).2,h4,_,_,_,rfl⟩
def RdF (w:World) (v:Value) (ws:List Int) (ps:List St) (es:List Int) (qs:List Se) (hs:List Int) (td:List Mi) (cd vl:Int) (nm:List ByteArray) (fr:Bool):Prop :=
 ∃ aW cW aP cP aS cS aQ cQ aH cH aT cT aN cN,v=.agg #[.slice aW ws.length cW,.slice aP ps.length cP,.slice aS es.length cS,.slice aQ qs.length cQ,.slice aH hs.length cH,.slice aT td.length cT,.int .i64 cd,.int .i64 vl,.slice aN nm.length cN,.bool fr]∧RdDev w (.agg #[.slice aW ws.length cW,.slice aP ps.length cP,.slice aS es.length cS,.slice aQ qs.length cQ]) ws ps es qs∧RdI w (.slice aH hs.length cH) hs∧RdM w (.slice aT td.length cT) td∧RdT w (.slice aN nm.length cN) nm
theorem RdF.below {w w':World} {v:Value} {ws:List Int} {ps:List St} {es:List Int} {qs:List Se} {hs:List Int} {td:List Mi} {cd vl:Int} {nm:List ByteArray} {fr:Bool} (h:RdF w v ws ps es qs hs td cd vl nm fr) (s:Below w.heap.size w w'):RdF w' v ws ps es qs hs td cd vl nm fr:=by
 obtain ⟨aW,cW,aP,cP,aS,cS,aQ,cQ,aH,cH,aT,cT,aN,cN,rfl,a,b,c,d⟩:=h;exact ⟨aW,cW,aP,cP,aS,cS,aQ,cQ,aH,cH,aT,cT,aN,cN,rfl,a.below s,Rd.below b s,Rd.below c s,Rd.below d s⟩
structure FarF (lo hi ld ud lh uh lt ut ln un:Nat):Prop where
 d0:lo≤ld
 d1:ud≤hi
 h0:lo≤lh
 h1:uh≤hi
 t0:lo≤lt
 t1:ut≤hi
 n0:lo≤ln
 n1:un≤hi
 dh:ud≤lh∨uh≤ld
 dt:ud≤lt∨ut≤ld
 dn:ud≤ln∨un≤ld
 ht:uh≤lt∨ut≤lh
 hn:uh≤ln∨un≤lh
 tn:ut≤ln∨un≤lt
def RowF (w:World) (lo hi:Nat) (v:Value) (ws:List Int) (ps:List St) (es:List Int) (qs:List Se) (hs:List Int) (td:List Mi) (cd vl:Int) (nm:List ByteArray) (fr:Bool):Prop :=
 ∃ vW vP vS vQ vH vT vN ld ud lh uh lt ut ln un,v=.agg #[vW,vP,vS,vQ,vH,vT,.int .i64 cd,.int .i64 vl,vN,.bool fr]∧RowDev w ld ud (.agg #[vW,vP,vS,vQ]) ws ps es qs∧Row w 3 1 lh uh vH hs.length (zdi hs)∧RowW w lt ut vT td∧Row w 9 1 ln un vN nm.length (zol nm)∧FarF lo hi ld ud lh uh lt ut ln un
theorem RowF.rd {w:World} {lo hi:Nat} {v:Value} {ws:List Int} {ps:List St} {es:List Int} {qs:List Se} {hs:List Int} {td:List Mi} {cd vl:Int} {nm:List ByteArray} {fr:Bool} (h:RowF w lo hi v ws ps es qs hs td cd vl nm fr):RdF w v ws ps es qs hs td cd vl nm fr:=by
 obtain ⟨vW,vP,vS,vQ,vH,vT,vN,ld,ud,lh,uh,lt,ut,ln,un,rfl,a,b,c,d,-⟩:=h;obtain ⟨aW,cW,aP,cP,aS,cS,aQ,cQ,e,-,-⟩:=a.rd.form
 cases e
 obtain ⟨-,aH,cH,rfl,-⟩:=b.rd;obtain ⟨-,aT,cT,rfl,-⟩:=c.1;obtain ⟨-,aN,cN,rfl,-⟩:=d.rd;exact ⟨aW,cW,aP,cP,aS,cS,aQ,cQ,aH,cH,aT,cT,aN,cN,rfl,a.rd,b.rd,c.1,d.rd⟩
theorem RowF.below {w w':World} {lo hi:Nat} {v:Value} {ws:List Int} {ps:List St} {es:List Int} {qs:List Se} {hs:List Int} {td:List Mi} {cd vl:Int} {nm:List ByteArray} {fr:Bool} (h:RowF w lo hi v ws ps es qs hs td cd vl nm fr) {B:Nat} (hb:Below B w w') (hB:hi≤B):RowF w' lo hi v ws ps es qs hs td cd vl nm fr:=by
 obtain ⟨vW,vP,vS,vQ,vH,vT,vN,ld,ud,lh,uh,lt,ut,ln,un,rfl,a,b,c,d,f⟩:=h;have:=f.d1;have:=f.h1;have:=f.t1;have:=f.n1;exact ⟨vW,vP,vS,vQ,vH,vT,vN,ld,ud,lh,uh,lt,ut,ln,un,rfl,a.below hb (by omega),b.below hb (by omega),c.below hb (by omega),d.below hb (by omega),f⟩
theorem RowF.outside {w w':World} {lo hi:Nat} {v:Value} {ws:List Int} {ps:List St} {es:List Int} {qs:List Se} {hs:List Int} {td:List Mi} {cd vl:Int} {nm:List ByteArray} {fr:Bool} (h:RowF w lo hi v ws ps es qs hs td cd vl nm fr) {lo' hi':Nat} (ho:Outside lo' hi' w w') (hd:hi≤lo'∨hi'≤lo) (hz:hi≤w.heap.size):RowF w' lo hi v ws ps es qs hs td cd vl nm fr:=by
 obtain ⟨vW,vP,vS,vQ,vH,vT,vN,ld,ud,lh,uh,lt,ut,ln,un,rfl,a,b,c,d,f⟩:=h;have:=f.d0;have:=f.h0;have:=f.t0;have:=f.n0;have:=f.d1;have:=f.h1;have:=f.t1;have:=f.n1;exact ⟨vW,vP,vS,vQ,vH,vT,vN,ld,ud,lh,uh,lt,ut,ln,un,rfl,a.outside ho (by omega) (by omega),b.outside ho (by omega) (by omega),c.outside ho (by omega),d.outside ho (by omega) (by omega),f⟩
theorem RowF.wide {w:World} {lo hi:Nat} {v:Value} {ws:List Int} {ps:List St} {es:List Int} {qs:List Se} {hs:List Int} {td:List Mi} {cd vl:Int} {nm:List ByteArray} {fr:Bool} (h:RowF w lo hi v ws ps es qs hs td cd vl nm fr) {lo' hi':Nat} (p:lo'≤lo) (q:hi≤hi'):RowF w lo' hi' v ws ps es qs hs td cd vl nm fr:=by
 obtain ⟨vW,vP,vS,vQ,vH,vT,vN,ld,ud,lh,uh,lt,ut,ln,un,rfl,a,b,c,d,f⟩:=h;exact ⟨vW,vP,vS,vQ,vH,vT,vN,ld,ud,lh,uh,lt,ut,ln,un,rfl,a,b,c,d,⟨Nat.le_trans p f.d0,Nat.le_trans f.d1 q,Nat.le_trans p f.h0,Nat.le_trans f.h1 q,Nat.le_trans p f.t0,Nat.le_trans f.t1 q,Nat.le_trans p f.n0,Nat.le_trans f.n1 q,f.dh,f.dt,f.dn,f.ht,f.hn,f.tn⟩⟩
theorem RowF.form {w:World} {lo hi:Nat} {v:Value} {ws:List Int} {ps:List St} {es:List Int} {qs:List Se} {hs:List Int} {td:List Mi} {cd vl:Int} {nm:List ByteArray} {fr:Bool} (h:RowF w lo hi v ws ps es qs hs td cd vl nm fr):∃ aW cW aP cP aS cS aQ cQ aH cH aT cT aN cN,v=.agg #[.slice aW ws.length cW,.slice aP ps.length cP,.slice aS es.length cS,.slice aQ qs.length cQ,.slice aH hs.length cH,.slice aT td.length cT,.int .i64 cd,.int .i64 vl,.slice aN nm.length cN,.bool fr]:=by
 obtain ⟨aW,cW,aP,cP,aS,cS,aQ,cQ,aH,cH,aT,cT,aN,cN,rfl,-⟩:=h.rd;exact ⟨aW,cW,aP,cP,aS,cS,aQ,cQ,aH,cH,aT,cT,aN,cN,rfl⟩
end Go.Proofs.YtbohndgbfbfldaaGreatDoor
