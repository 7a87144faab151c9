/- Several texts laid together: Dev, Wd, MiS, Keep. -/
import Derived.Test.YtahiphgmhndgaaaGreatDoorZAB
import Derived.Test.YtahiphgmhndgaaaGreatDoorZAC
import Derived.Test.YtahiphgmhndgaaaGreatDoorZAA
set_option maxRecDepth 100000
set_option maxHeartbeats 4000000
namespace Go.Proofs.YtahiphgmhndgaaaGreatDoor
open Go.RowKit
theorem zaf {w:World} {b:Nat} {t:TypeId} {x y z u:Value} (h:w.heap[b]?=some (.cells #[x,y,z,u] t (0,0))) :
  w.cell? ⟨b,0,none⟩=some x∧w.cell? ⟨b,1,none⟩=some y∧w.cell? ⟨b,2,none⟩=some z∧w.cell? ⟨b,3,none⟩=some u∧w.frozen? ⟨b,0,none⟩=false∧w.frozen? ⟨b,1,none⟩=false∧w.frozen? ⟨b,2,none⟩=false∧w.frozen? ⟨b,3,none⟩=false:=by
 simp[World.cell?,World.frozen?,h]
theorem zmb {w:World} {b:Nat} {t:TypeId} {x y z u:Value} (h:w.heap[b]?=some (.cells #[x,y,z,u] t (0,0))) (x' y':Value):((w.setCell ⟨b,0,none⟩ x').setCell ⟨b,1,none⟩ y').heap[b]?=some (.cells #[x',y',z,u] t (0,0)):=by
 simp[World.setCell,Array.getElem?_modify,h]
theorem zsm {w:World} {b:Nat} {t:TypeId} {x y z u:Value} (h:w.heap[b]?=some (.cells #[x,y,z,u] t (0,0))) (z' u':Value):((w.setCell ⟨b,2,none⟩ z').setCell ⟨b,3,none⟩ u').heap[b]?=some (.cells #[x,y,z',u'] t (0,0)):=by
 simp[World.setCell,Array.getElem?_modify,h]
theorem zyv (w:World) (b i j:Nat) (x y:Value) (k:Nat) (hk:¬ k=b):((w.setCell ⟨b,i,none⟩ x).setCell ⟨b,j,none⟩ y).heap[k]?=w.heap[k]?:=by
 rw[Below.heap_setCell _ _ _ _ hk,Below.heap_setCell _ _ _ _ hk]
theorem yall (w:World) (b i j:Nat) (x y:Value):((w.setCell ⟨b,i,none⟩ x).setCell ⟨b,j,none⟩ y).heap.size=w.heap.size:=by simp[World.setCell]
def RdDev (w:World) (v:Value) (ws:List Int) (ps:List St) (es:List Int) (qs:List Se):Prop:=∃ vW vP vS vQ,v=.agg #[vW,vP,vS,vQ]∧RdPm w (.agg #[vW,vP]) ws ps∧RdBlk w (.agg #[vS,vQ]) es qs
def RowDev (w:World) (lo hi:Nat) (v:Value) (ws:List Int) (ps:List St) (es:List Int) (qs:List Se):Prop :=
 ∃ vW vP vS vQ l1 h1 l2 h2,v=.agg #[vW,vP,vS,vQ]∧RowPm w l1 h1 (.agg #[vW,vP]) ws ps∧RowBlk w l2 h2 (.agg #[vS,vQ]) es qs∧(lo≤l1∧h1≤hi∧lo≤l2∧h2≤hi∧(h1≤l2∨h2≤l1))
theorem RowDev.rd {w:World} {lo hi:Nat} {v:Value} {ws:List Int} {ps:List St} {es:List Int} {qs:List Se} (h:RowDev w lo hi v ws ps es qs):RdDev w v ws ps es qs:=by
 obtain ⟨vW,vP,vS,vQ,_,_,_,_,e,h1,h2,_⟩:=h;exact ⟨vW,vP,vS,vQ,e,h1.rd,h2.rd⟩
theorem RdDev.below {w w':World} {v:Value} {ws:List Int} {ps:List St} {es:List Int} {qs:List Se} (h:RdDev w v ws ps es qs) (hb:Below w.heap.size w w'):RdDev w' v ws ps es qs:=by
 obtain ⟨vW,vP,vS,vQ,e,h1,h2⟩:=h;exact ⟨vW,vP,vS,vQ,e,h1.below hb,h2.below hb⟩
theorem RowDev.below {w w':World} {lo hi:Nat} {v:Value} {ws:List Int} {ps:List St} {es:List Int} {qs:List Se} (h:RowDev w lo hi v ws ps es qs) {B:Nat} (hb:Below B w w') (hB:hi≤B):RowDev w' lo hi v ws ps es qs:=by
 obtain ⟨vW,vP,vS,vQ,l1,h1,l2,h2,e,r1,r2,c⟩:=h;exact ⟨vW,vP,vS,vQ,l1,h1,l2,h2,e,r1.below hb (by omega),r2.below hb (by omega),c⟩
theorem RowDev.outside {w w':World} {lo hi:Nat} {v:Value} {ws:List Int} {ps:List St} {es:List Int} {qs:List Se} (h:RowDev w lo hi v ws ps es qs) {lo' hi':Nat} (ho:Outside lo' hi' w w') (hd:hi≤lo'∨hi'≤lo) (hz:hi≤w.heap.size):RowDev w' lo hi v ws ps es qs:=by
 obtain ⟨vW,vP,vS,vQ,l1,h1,l2,h2,e,r1,r2,c⟩:=h;exact ⟨vW,vP,vS,vQ,l1,h1,l2,h2,e,r1.outside ho (by omega) (by omega),r2.outside ho (by omega) (by omega),c⟩
theorem RowDev.wide {w:World} {lo hi:Nat} {v:Value} {ws:List Int} {ps:List St} {es:List Int} {qs:List Se} (h:RowDev w lo hi v ws ps es qs) {lo' hi':Nat} (a:lo'≤lo) (b:hi≤hi'):RowDev w lo' hi' v ws ps es qs:=by
 obtain ⟨vW,vP,vS,vQ,l1,h1,l2,h2,e,r1,r2,c⟩:=h;exact ⟨vW,vP,vS,vQ,l1,h1,l2,h2,e,r1,r2,by omega⟩
theorem RowDev.alloc {w:World} {lo hi:Nat} {v:Value} {ws:List Int} {ps:List St} {es:List Int} {qs:List Se} (h:RowDev w lo hi v ws ps es qs) (hz:hi≤w.heap.size) (o:Obj):RowDev (w.alloc o) lo hi v ws ps es qs:=h.below ((Below.refl _ _).alloc (Nat.le_refl _) o) hz
theorem RdDev.form {w:World} {v:Value} {ws:List Int} {ps:List St} {es:List Int} {qs:List Se} (h:RdDev w v ws ps es qs):∃ aW cW aP cP aS cS aQ cQ,v=.agg #[.slice aW ws.length cW,.slice aP ps.length cP,.slice aS es.length cS,.slice aQ qs.length cQ]∧RdPm w (.agg #[.slice aW ws.length cW,.slice aP ps.length cP]) ws ps∧RdBlk w (.agg #[.slice aS es.length cS,.slice aQ qs.length cQ]) es qs:=by
 obtain ⟨vW,vP,vS,vQ,rfl,⟨_,_,e1,h1,h2⟩,⟨_,_,e2,h3,h4⟩⟩:=h
 cases e1
 cases e2
 obtain ⟨aW,cW,rfl,_⟩:=h1.shape;obtain ⟨aP,cP,rfl,_⟩:=h2.shape;obtain ⟨aS,cS,rfl,_⟩:=h3.shape;obtain ⟨aQ,cQ,rfl,_⟩:=h4.shape;exact ⟨aW,cW,aP,cP,aS,cS,aQ,cQ,rfl,⟨_,_,rfl,h1,h2⟩,⟨_,_,rfl,h3,h4⟩⟩
theorem RowPm.form {w:World} {lo hi:Nat} {v:Value} {ws:List Int} {ps:List St} (h:RowPm w lo hi v ws ps):∃ aW cW aP cP,v=.agg #[.slice aW ws.length cW,.slice aP ps.length cP]:=by
 obtain ⟨vW,vP,rfl,h1,h2⟩:=h.rd;obtain ⟨aW,cW,rfl,_⟩:=h1.shape;obtain ⟨aP,cP,rfl,_⟩:=h2.shape;exact ⟨aW,cW,aP,cP,rfl⟩
theorem RowBlk.form {w:World} {lo hi:Nat} {v:Value} {ws:List Int} {ps:List Se} (h:RowBlk w lo hi v ws ps):∃ aW cW aP cP,v=.agg #[.slice aW ws.length cW,.slice aP ps.length cP]:=by
 obtain ⟨vW,vP,rfl,h1,h2⟩:=h.rd;obtain ⟨aW,cW,rfl,_⟩:=h1.shape;obtain ⟨aP,cP,rfl,_⟩:=h2.shape;exact ⟨aW,cW,aP,cP,rfl⟩
theorem zgi (v:Value) (ws:List Int) (ps:List St) (es:List Int) (qs:List Se) (w:World) (h:RdDev w v ws ps es qs) (hw:ws.length≤1048576) (hp:ps.length≤1048576) (he:es.length≤1048576) (hq:qs.length≤1048576) :
  Calls Tryz.prog 59 #[v] w fun e w'=>e=.returned (.bool (pmB ws ps && zbp es qs))∧Below w.heap.size w w':=by
 obtain ⟨aW,cW,aP,cP,aS,cS,aQ,cQ,rfl,h1,h2⟩:=h.form;have H1:=zaa h1;have H2:=zaa h2;clear h h1 h2;have hb0:Below w.heap.size w (w.alloc (.cells #[.slice aW ws.length cW,.slice aP ps.length cP,.slice aS es.length cS,.slice aQ qs.length cQ] 45)):=(Below.refl _ _).alloc (Nat.le_refl _) _
 by_cases c:pmB ws ps=true
 ·have C:=zaa c;rw[c];clear c;go_enter Tryz.func59,Tryz.ntmps59;go_wp2_with fail;refine (zde _ ws ps _ (H1.o.below hb0) hw hp).mono ?_;rw[C.o];rintro e w1 ⟨rfl,hb1⟩;obtain ⟨x0,x1,x2,x3,-,-,-,-⟩:=zaf ((hb1.block w.heap.size (by simp)).trans (zag rfl));have B1:=zaa (zab hb0 hb1 (by simp));clear hb0 hb1;go_wp2_with fail;refine (zvl _ es qs _ (H2.o.below B1.o) he hq).mono ?_;rintro e w2 ⟨rfl,hb2⟩;have B2:=zaa (zab B1.o hb2 B1.o.size);clear hb2;go_wp2;go_ret;exact ⟨rfl,B2.o⟩
 ·have c':pmB ws ps=false:=by simpa using c
  have C:=zaa c';rw[c'];clear c c';go_enter Tryz.func59,Tryz.ntmps59;go_wp2_with fail;refine (zde _ ws ps _ (H1.o.below hb0) hw hp).mono ?_;rw[C.o];rintro e w1 ⟨rfl,hb1⟩;have B1:=zaa (zab hb0 hb1 (by simp));clear hb0 hb1;go_wp2;go_ret;exact ⟨rfl,B1.o⟩
theorem zuu (v:Value) (ws:List Int) (ps:List St) (es:List Int) (qs:List Se) (w:World) (h:RdDev w v ws ps es qs) (hw:ws.length≤1048576) (hp:ps.length≤1048576) (he:es.length≤1048576) (hq:qs.length≤1048576) :
  Calls Tryz.prog 28 #[v] w fun e w'=>∃ v',e=.returned v'∧RowDev w' w.heap.size w'.heap.size v' ws ps es qs∧Below w.heap.size w w':=by
 obtain ⟨aW,cW,aP,cP,aS,cS,aQ,cQ,rfl,h1,h2⟩:=h.form;have H1:=zaa h1;have H2:=zaa h2;clear h h1 h2
 have hb0:Below w.heap.size w (((w.alloc (.cells #[.slice aW ws.length cW,.slice aP ps.length cP,.slice aS es.length cS,.slice aQ qs.length cQ] 30)).alloc (.cells #[.slice none 0 0,.slice none 0 0,.slice none 0 0,.slice none 0 0] 45)).alloc (.cells #[.slice none 0 0,.slice none 0 0,.slice none 0 0,.slice none 0 0] 45)):=by
  repeat (refine Below.alloc ?_ (by simp <;> omega) _)
  exact Below.refl _ _
 go_enter Tryz.func28,Tryz.ntmps28;go_wp2_with fail;refine (yamv _ ws ps _ (H1.o.below hb0) hw hp).mono ?_;rintro e w1 ⟨v1,rfl,hr1,hb1⟩;obtain ⟨aW1,cW1,aP1,cP1,rfl⟩:=hr1.form
 have hz1:w.heap.size+3≤w1.heap.size:=by have:=hb1.size;simp at this;omega
 have V0:=(hb1.block w.heap.size (by simp <;> omega)).trans (zal (zal (zag rfl)));have V1:=(hb1.block (w.heap.size+1) (by simp <;> omega)).trans (zal (zag (by simp)));have V2:=(hb1.block (w.heap.size+1+1) (by simp <;> omega)).trans (zag (by simp));have B1:=zaa (zab hb0 hb1 (by simp <;> omega));have R1:Hid (RowPm w1 (w.heap.size+3) w1.heap.size (.agg #[.slice aW1 ws.length cW1,.slice aP1 ps.length cP1]) ws ps):=hr1.wide (by simp only[World.size_alloc];omega) (Nat.le_refl _);obtain ⟨x0,x1,x2,x3,-,-,-,-⟩:=zaf V0;obtain ⟨y0,y1,y2,y3,y4,y5,y6,y7⟩:=zaf V2;have VH:=zaa (And.intro V0 (And.intro V1 V2));clear hb0 hb1 hr1 V0 V1 V2;have B1':=zaa ((B1.o.setCell (p:=⟨w.heap.size+1+1,0,none⟩) (by simp only;omega) (.slice aW1 ws.length cW1)).setCell (p:=⟨w.heap.size+1+1,1,none⟩) (by simp only;omega) (.slice aP1 ps.length cP1));have hz1':=yall w1 (w.heap.size+1+1) 0 1 (.slice aW1 ws.length cW1) (.slice aP1 ps.length cP1);have V0':=(zyv w1 (w.heap.size+1+1) 0 1 (.slice aW1 ws.length cW1) (.slice aP1 ps.length cP1) w.heap.size (by omega)).trans VH.o.1;have V1':=(zyv w1 (w.heap.size+1+1) 0 1 (.slice aW1 ws.length cW1) (.slice aP1 ps.length cP1) (w.heap.size+1) (by omega)).trans VH.o.2.1;have V2':=zmb VH.o.2.2 (.slice aW1 ws.length cW1) (.slice aP1 ps.length cP1)
 have R1':Hid (RowPm ((w1.setCell ⟨w.heap.size+1+1,0,none⟩ (.slice aW1 ws.length cW1)).setCell ⟨w.heap.size+1+1,1,none⟩ (.slice aP1 ps.length cP1)) (w.heap.size+3) w1.heap.size (.agg #[.slice aW1 ws.length cW1,.slice aP1 ps.length cP1]) ws ps) :=
  R1.o.outside (lo':=w.heap.size+2) (hi':=w.heap.size+3) (((Outside.refl _ _ _).setCell (a:=⟨w.heap.size+1+1,0,none⟩) (by simp only;omega) (by simp only;omega) _).setCell (a:=⟨w.heap.size+1+1,1,none⟩) (by simp only;omega) (by simp only;omega) _) (by omega) (Nat.le_refl _)
 obtain ⟨z0,z1,z2,z3,-,-,-,-⟩:=zaf V0';have VH':=zaa (And.intro V1' V2');clear V0' V1' V2' VH R1
 have hz:w1.heap.size≤((w1.setCell ⟨w.heap.size+1+1,0,none⟩ (.slice aW1 ws.length cW1)).setCell ⟨w.heap.size+1+1,1,none⟩ (.slice aP1 ps.length cP1)).heap.size∧((w1.setCell ⟨w.heap.size+1+1,0,none⟩ (.slice aW1 ws.length cW1)).setCell ⟨w.heap.size+1+1,1,none⟩ (.slice aP1 ps.length cP1)).heap.size≤w1.heap.size:=⟨Nat.le_of_eq hz1'.symm,Nat.le_of_eq hz1'⟩
 clear hz1';have ZZ:=zaa hz;clear hz;go_wp2_with fail;refine (yahi _ es qs _ (H2.o.below B1'.o) he hq).mono ?_;rintro e w2 ⟨v2,rfl,hr2,hb2⟩;obtain ⟨aS2,cS2,aQ2,cQ2,rfl⟩:=hr2.form;have zz:=ZZ.o;have hz2:w1.heap.size≤w2.heap.size:=Nat.le_trans zz.1 hb2.size;have V1:=(hb2.block (w.heap.size+1) (by omega)).trans VH'.o.1;have V2:=(hb2.block (w.heap.size+1+1) (by omega)).trans VH'.o.2;have B2:=zaa (zab B1'.o hb2 (by omega));have R1:=zaa (R1'.o.below hb2 (by omega));have R2:Hid (RowBlk w2 w1.heap.size w2.heap.size (.agg #[.slice aS2 es.length cS2,.slice aQ2 qs.length cQ2]) es qs):=hr2.wide (by omega) (Nat.le_refl _);obtain ⟨t0,t1,t2,t3,t4,t5,t6,t7⟩:=zaf V1;obtain ⟨s0,s1,s2,s3,s4,s5,s6,s7⟩:=zaf V2;have VH2:=zaa (And.intro V1 V2);clear hb2 hr2 V1 V2 zz ZZ VH' x0 x1 x2 x3 y0 y1 y2 y3 y4 y5 y6 y7 z0 z1 z2 z3 R1' B1' B1;go_wp2;refine bodyPost_ret (v:=.agg #[.slice aW1 ws.length cW1,.slice aP1 ps.length cP1,.slice aS2 es.length cS2,.slice aQ2 qs.length cQ2]) (by simp[results,Tryz.results28,go_sem,t0,t1,t2,t3]) rfl ?_
 have O:Outside (w.heap.size+1) (w.heap.size+3) w2 ((((((w2.setCell ⟨w.heap.size+1+1,2,none⟩ (.slice aS2 es.length cS2)).setCell ⟨w.heap.size+1+1,3,none⟩ (.slice aQ2 qs.length cQ2)).setCell ⟨w.heap.size+1,0,none⟩ (.slice aW1 ws.length cW1)).setCell ⟨w.heap.size+1,1,none⟩ (.slice aP1 ps.length cP1)).setCell ⟨w.heap.size+1,2,none⟩ (.slice aS2 es.length cS2)).setCell ⟨w.heap.size+1,3,none⟩ (.slice aQ2 qs.length cQ2)):=by
  repeat (refine Outside.setCell ?_ (by simp only;omega) (by simp only;omega) _)
  exact Outside.refl _ _ _
 have hz3:=O.size;exact ⟨_,rfl,⟨_,_,_,_,_,_,_,_,rfl,R1.o.outside O (by omega) (by omega),R2.o.outside O (by omega) (Nat.le_refl _),by omega⟩,B2.o.trans (O.below (by omega) (by omega))⟩
theorem zqr (va vb:Value) (ws:List Int) (ps:List St) (es:List Int) (qs:List Se) (w:World) (ha:RdDev w va ws ps es qs) (hb:RdDev w vb ws ps es qs) (hw:ws.length≤2147483648) (hp:ps.length≤2147483648) (he:es.length≤2147483648) (hq:qs.length≤2147483648) :
  Calls Tryz.prog 10 #[va,vb] w fun e w'=>e=.returned (.bool true)∧Below w.heap.size w w':=by
 obtain ⟨aW,cW,aP,cP,aS,cS,aQ,cQ,rfl,h1,h2⟩:=ha.form;obtain ⟨bW,dW,bP,dP,bS,dS,bQ,dQ,rfl,h3,h4⟩:=hb.form;have H1:=zaa h1;have H2:=zaa h2;have H3:=zaa h3;have H4:=zaa h4;clear ha hb h1 h2 h3 h4
 have hb0:Below w.heap.size w ((w.alloc (.cells #[.slice aW ws.length cW,.slice aP ps.length cP,.slice aS es.length cS,.slice aQ qs.length cQ] 45)).alloc (.cells #[.slice bW ws.length dW,.slice bP ps.length dP,.slice bS es.length dS,.slice bQ qs.length dQ] 45)):=by
  repeat (refine Below.alloc ?_ (by simp <;> omega) _)
  exact Below.refl _ _
 go_enter Tryz.func10,Tryz.ntmps10;go_wp2_with fail;refine (yahe _ _ ws ps _ (H1.o.below hb0) (H3.o.below hb0) hw hp).mono ?_;rintro e w1 ⟨rfl,hb1⟩
 have hz1:w.heap.size+2≤w1.heap.size:=by have:=hb1.size;simp at this;omega
 obtain ⟨x0,x1,x2,x3,-,-,-,-⟩:=zaf ((hb1.block w.heap.size (by simp <;> omega)).trans (zal (zag rfl)));obtain ⟨y0,y1,y2,y3,-,-,-,-⟩:=zaf ((hb1.block (w.heap.size+1) (by simp <;> omega)).trans (zag (by simp)));have B1:=zaa (zab hb0 hb1 (by simp <;> omega));clear hb0 hb1;go_wp2_with fail;refine (yaey _ _ es qs _ (H2.o.below B1.o) (H4.o.below B1.o) he hq).mono ?_;rintro e w2 ⟨rfl,hb2⟩;have B2:=zaa (zab B1.o hb2 B1.o.size);clear hb2;go_wp2;go_ret;exact ⟨rfl,B2.o⟩
theorem zop (v:Value) (ws:List Int) (ps:List St) (es:List Int) (qs:List Se) (k0:Int) (lo hi:Nat) (w:World) (h:RowDev w lo hi v ws ps es qs) (hi1:hi≤w.heap.size) (hw:ws.length≤16777216) (hp:ps.length≤16777216) (he:es.length≤16777216) (hq:qs.length≤16777216) (h0:0≤k0) (h1:k0≤67108864) :
  Calls Tryz.prog 15 #[v,.int .i64 k0] w fun e w'=>e=.returned (.int .i64 (k0+ws.length+3*ps.length+es.length+2*qs.length))∧RowDev w' lo hi v (zgu k0 ws.length) (zev (k0+ws.length) ps.length) (zgu (k0+ws.length+3*ps.length) es.length) (zew (k0+ws.length+3*ps.length+es.length) qs.length)∧Outside lo hi w w':=by
 obtain ⟨aW,cW,aP,cP,aS,cS,aQ,cQ,e0,-,-⟩:=h.rd.form;subst e0;obtain ⟨_,_,_,_,l1,u1,l2,u2,e0,r1,r2,c1,c2,c3,c4,c5⟩:=h
 cases e0
 have R1:=zaa r1;have R2:=zaa r2;clear r1 r2;have hb0:Below w.heap.size w (w.alloc (.cells #[.slice aW ws.length cW,.slice aP ps.length cP,.slice aS es.length cS,.slice aQ qs.length cQ] 45)):=(Below.refl _ _).alloc (Nat.le_refl _) _;go_enter Tryz.func15,Tryz.ntmps15;go_wp2_with fail;refine (yaet _ ws ps k0 l1 u1 _ (R1.o.below hb0 (by omega)) (by simp only[World.size_alloc];omega) (by omega) (by omega) h0 (by omega)).mono ?_;rintro e w1 ⟨rfl,hr1,ho1⟩
 have hz1:w.heap.size+1≤w1.heap.size:=by have:=ho1.size;simp only[World.size_alloc] at this;exact this
 obtain ⟨x0,x1,x2,x3,-,-,-,-⟩:=zaf ((ho1.block w.heap.size (by simp) (.inr (by omega))).trans (zag rfl));have O1:=zaa ((Outside.of_below (lo:=lo) (hi:=hi) hb0).trans (ho1.mono c1 c2));have Q1:=zaa hr1;have Q2:=zaa ((R2.o.below hb0 (by omega)).outside ho1 (by omega) (by simp only[World.size_alloc];omega));clear hr1 ho1 hb0;go_wp2_with fail;refine (yabp _ es qs (k0+ws.length+3*ps.length) l2 u2 _ Q2.o (by omega) (by omega) (by omega) (by omega) (by omega)).mono ?_;rintro e w2 ⟨rfl,hr2,ho2⟩;have O2:=zaa (O1.o.trans (ho2.mono c3 c4));have Q3:=zaa (Q1.o.outside ho2 (by omega) (by omega));have Q4:=zaa hr2;clear hr2 ho2;go_wp2;go_ret;exact ⟨rfl,⟨_,_,_,_,_,_,_,_,rfl,Q3.o,Q4.o,c1,c2,c3,c4,c5⟩,O2.o⟩
theorem zpl (v:Value) (n m n2 m2:Nat) (k0:Int) (w:World) (h:RdDev w v (zgu k0 n) (zev (k0+n) m) (zgu (k0+n+3*m) n2) (zew (k0+n+3*m+n2) m2)) (hw:n≤16777216) (hp:m≤16777216) (he:n2≤16777216) (hq:m2≤16777216) (h0:0≤k0) (h1:k0≤67108864) :
  Calls Tryz.prog 16 #[v,.int .i64 k0] w fun e w'=>e=.returned (.int .i64 (k0+n+3*m+n2+2*m2))∧Below w.heap.size w w':=by
 obtain ⟨aW,cW,aP,cP,aS,cS,aQ,cQ,rfl,r1,r2⟩:=h.form;clear h;rw[zbo,zcf] at r1;rw[zbo,zce] at r2;rw[zbo,zcf,zbo,zce];have R1:=zaa r1;have R2:=zaa r2;clear r1 r2;have hb0:Below w.heap.size w (w.alloc (.cells #[.slice aW n cW,.slice aP m cP,.slice aS n2 cS,.slice aQ m2 cQ] 45)):=(Below.refl _ _).alloc (Nat.le_refl _) _;go_enter Tryz.func16,Tryz.ntmps16;go_wp2_with fail;refine (yagh _ n m k0 _ (R1.o.below hb0) (by omega) (by omega) h0 (by omega)).mono ?_;rintro e w1 ⟨rfl,hb1⟩;obtain ⟨x0,x1,x2,x3,-,-,-,-⟩:=zaf ((hb1.block w.heap.size (by simp)).trans (zag rfl));have B1:=zaa (zab hb0 hb1 (by simp));clear hb0 hb1;go_wp2_with fail;refine (yaaj _ n2 m2 (k0+n+3*m) _ (R2.o.below B1.o) (by omega) (by omega) (by omega) (by omega)).mono ?_;rintro e w2 ⟨rfl,hb2⟩;have B2:=zaa (zab B1.o hb2 B1.o.size);clear hb2;go_wp2;go_ret;exact ⟨rfl,B2.o⟩
theorem zsb (aW aP:Option Addr) (n m cW cP:Nat) (left:Int) (w:World) (hn:n≤maxLen) (hm:m≤maxLen) (h0:0≤left) (h1:left≤1048576) :
  Calls Tryz.prog 57 #[.agg #[.slice aW n cW,.slice aP m cP],.int .i64 left] w fun e w'=>e=.returned (.int .i64 (if left < (n:Int)+(m:Int) then -1 else left - n - m))∧Below w.heap.size w w':=by
 have hb0:Below w.heap.size w (w.alloc (.cells #[.slice aW n cW,.slice aP m cP] 28)):=(Below.refl _ _).alloc (Nat.le_refl _) _
 by_cases c1:left < (n:Int)
 ·have e1:zhb left n=-1:=by unfold zhb;rw[if_pos c1]
  have e2:(if left < (n:Int)+(m:Int) then -1 else left - n - m:Int)=-1:=by rw[if_pos (by omega)]
  rw[e2];have E1:=zaa e1;clear e1 e2;go_enter Tryz.func57,Tryz.ntmps57;go_wp2_with (go_at_call 21;refine (zek aW n cW _ _ hn (by omega) (by omega)).mono ?_;rw[E1.o];rintro e w' ⟨rfl,rfl⟩);go_ret;exact ⟨rfl,hb0⟩
 ·have e1:zhb left n=left - n:=by unfold zhb;rw[if_neg c1]
  have E1:=zaa e1;clear e1
  by_cases c2:(left - n:Int) < (m:Int)
  ·have e2:zhb (left - n) m=-1:=by unfold zhb;rw[if_pos c2]
   have e3:(if left < (n:Int)+(m:Int) then -1 else left - n - m:Int)=-1:=by rw[if_pos (by omega)]
   rw[e3];have E2:=zaa e2;clear e2 e3;go_enter Tryz.func57,Tryz.ntmps57;go_wp2_with (first | (go_at_call 21;refine (zek aW n cW _ _ hn (by omega) (by omega)).mono ?_;rw[E1.o];rintro e w' ⟨rfl,rfl⟩) | (go_at_call 106;refine (zkz aP m cP _ _ hm (by omega) (by omega)).mono ?_;rw[E2.o];rintro e w' ⟨rfl,rfl⟩));go_ret;exact ⟨rfl,hb0⟩
  ·have e2:zhb (left - n) m=left - n - m:=by unfold zhb;rw[if_neg c2]
   have e3:(if left < (n:Int)+(m:Int) then -1 else left - n - m:Int)=left - n - m:=by rw[if_neg (by omega)]
   rw[e3];have E2:=zaa e2;clear e2 e3;go_enter Tryz.func57,Tryz.ntmps57;go_wp2_with (first | (go_at_call 21;refine (zek aW n cW _ _ hn (by omega) (by omega)).mono ?_;rw[E1.o];rintro e w' ⟨rfl,rfl⟩) | (go_at_call 106;refine (zkz aP m cP _ _ hm (by omega) (by omega)).mono ?_;rw[E2.o];rintro e w' ⟨rfl,rfl⟩));go_ret;exact ⟨rfl,hb0⟩
theorem zvm (aW aP aS aQ:Option Addr) (n m n2 m2 cW cP cS cQ:Nat) (w:World) (hn:n≤maxLen) (hm:m≤maxLen) (hn2:n2≤maxLen) (hm2:m2≤maxLen) :
  Calls Tryz.prog 20 #[.agg #[.slice aW n cW,.slice aP m cP,.slice aS n2 cS,.slice aQ m2 cQ],.int .i64 1048576] w fun e w'=>e=.returned (.int .i64 (if 1048576 < n+m+n2+m2 then -1 else 1048576 - n - m - n2 - m2))∧Below w.heap.size w w':=by
 have hb0:Below w.heap.size w (w.alloc (.cells #[.slice aW n cW,.slice aP m cP,.slice aS n2 cS,.slice aQ m2 cQ] 30)):=(Below.refl _ _).alloc (Nat.le_refl _) _
 by_cases c1:1048576 < n+m
 ·have E1:=zaa (show (if 1048576 < n+m then -1 else 1048576 - n - m:Int)=-1 from if_pos c1);have e2:(if 1048576 < n+m+n2+m2 then -1 else 1048576 - n - m - n2 - m2:Int)=-1:=if_pos (by omega);rw[e2];clear e2;go_enter Tryz.func20,Tryz.ntmps20;go_wp2_with fail;refine (ztv aW aP n m cW cP _ hn hm).mono ?_;rw[E1.o];rintro e w1 ⟨rfl,hb1⟩;have B1:=zaa (zab hb0 hb1 (by simp));clear hb0 hb1;go_wp2;go_ret;exact ⟨rfl,B1.o⟩
 ·have E1:=zaa (show (if 1048576 < n+m then -1 else 1048576 - n - m:Int)=1048576 - n - m from if_neg c1)
  by_cases c2:(1048576 - n - m:Int) < (n2:Int)+(m2:Int)
  ·have E2:=zaa (show (if (1048576 - n - m:Int) < (n2:Int)+(m2:Int) then -1 else (1048576 - n - m:Int) - n2 - m2:Int)=-1 from if_pos c2);have e2:(if 1048576 < n+m+n2+m2 then -1 else 1048576 - n - m - n2 - m2:Int)=-1:=if_pos (by omega);rw[e2];clear e2;go_enter Tryz.func20,Tryz.ntmps20;go_wp2_with fail;refine (ztv aW aP n m cW cP _ hn hm).mono ?_;rw[E1.o];rintro e w1 ⟨rfl,hb1⟩;obtain ⟨x0,x1,x2,x3,-,-,-,-⟩:=zaf ((hb1.block w.heap.size (by simp)).trans (zag rfl));have B1:=zaa (zab hb0 hb1 (by simp));clear hb0 hb1;go_wp2_with fail;refine (zsb aS aQ n2 m2 cS cQ _ _ hn2 hm2 (by omega) (by omega)).mono ?_;rw[E2.o];rintro e w2 ⟨rfl,hb2⟩;have B2:=zaa (zab B1.o hb2 B1.o.size);clear hb2;go_wp2;go_ret;exact ⟨rfl,B2.o⟩
  ·have E2:=zaa (show (if (1048576 - n - m:Int) < (n2:Int)+(m2:Int) then -1 else (1048576 - n - m:Int) - n2 - m2:Int)=1048576 - n - m - n2 - m2 from if_neg c2);have e2:(if 1048576 < n+m+n2+m2 then -1 else 1048576 - n - m - n2 - m2:Int)=1048576 - n - m - n2 - m2:=if_neg (by omega);rw[e2];clear e2;go_enter Tryz.func20,Tryz.ntmps20;go_wp2_with fail;refine (ztv aW aP n m cW cP _ hn hm).mono ?_;rw[E1.o];rintro e w1 ⟨rfl,hb1⟩;obtain ⟨x0,x1,x2,x3,-,-,-,-⟩:=zaf ((hb1.block w.heap.size (by simp)).trans (zag rfl));have B1:=zaa (zab hb0 hb1 (by simp));clear hb0 hb1;go_wp2_with fail;refine (zsb aS aQ n2 m2 cS cQ _ _ hn2 hm2 (by omega) (by omega)).mono ?_;rw[E2.o];rintro e w2 ⟨rfl,hb2⟩;have B2:=zaa (zab B1.o hb2 B1.o.size);clear hb2;go_wp2;go_ret;exact ⟨rfl,B2.o⟩
theorem zaz (n lo hi:Int) (w:World) (h:lo≤n∧n≤hi):Calls Tryz.prog 43 #[.int .i64 n,.int .i64 lo,.int .i64 hi] w fun e w'=>e=.returned (.bool true)∧w'=w:=by
 obtain ⟨h1,h2⟩:=h;go_enter Tryz.func43,Tryz.ntmps43;go_wp2;go_ret;exact ⟨rfl,rfl⟩
theorem zeb (n lo hi:Int) (w:World) (h:¬ (lo≤n∧n≤hi)):Calls Tryz.prog 43 #[.int .i64 n,.int .i64 lo,.int .i64 hi] w fun e w'=>e=.returned (.bool false)∧w'=w:=by
 rcases (show ¬ lo≤n∨(lo≤n∧¬ n≤hi) by omega) with h1 | ⟨h1,h2⟩
 all_goals
  clear h;go_enter Tryz.func43,Tryz.ntmps43;go_wp2;go_ret;exact ⟨rfl,rfl⟩
theorem zaq (n hi:Int) (w:World) (h:0≤n∧n < hi):Calls Tryz.prog 48 #[.int .i64 n,.int .i64 hi] w fun e w'=>e=.returned (.bool true)∧w'=w:=by
 obtain ⟨h1,h2⟩:=h;go_enter Tryz.func48,Tryz.ntmps48;go_wp2;go_ret;exact ⟨rfl,rfl⟩
theorem zbc (n hi:Int) (w:World) (h:¬ (0≤n∧n < hi)):Calls Tryz.prog 48 #[.int .i64 n,.int .i64 hi] w fun e w'=>e=.returned (.bool false)∧w'=w:=by
 rcases (show ¬ 0≤n∨(0≤n∧¬ n < hi) by omega) with h1 | ⟨h1,h2⟩
 all_goals
  clear h;go_enter Tryz.func48,Tryz.ntmps48;go_wp2;go_ret;exact ⟨rfl,rfl⟩
theorem zgd (i f:Int) (w:World) (h:0≤i∧i < 16) (k:0≤f∧f < 11):Calls Tryz.prog 152 #[.int .i64 i,.int .i64 f] w fun e w'=>e=.returned (.int .i64 (48+12*i+f))∧w'=w:=by
 go_enter Tryz.func152,Tryz.ntmps152;go_wp2;go_ret;exact ⟨zhn (by first | rfl | omega | (go_num;omega)),rfl⟩
theorem zfk (i f:Int) (w:World) (h:0≤i∧i < 24) (k:0≤f∧f < 3):Calls Tryz.prog 153 #[.int .i64 i,.int .i64 f] w fun e w'=>e=.returned (.int .i64 (240+3*i+f))∧w'=w:=by
 go_enter Tryz.func153,Tryz.ntmps153;go_wp2;go_ret;exact ⟨zhn (by first | rfl | omega | (go_num;omega)),rfl⟩
structure Mi where
 kind:Int
 at_:Int
 val:Int
def Mi.v (m:Mi):Value:=.agg #[.int .i64 m.kind,.int .i64 m.at_,.int .i64 m.val]
def miB (m:Mi):Bool:=decide ((m.kind=1∧(0≤m.at_∧m.at_ < 336)∧0≤m.val∧m.val < 1099511627776)∨(m.kind=2∧(0≤m.at_∧m.at_ < 336)∧m.val=0)∨(m.kind=4∧(0≤m.at_∧m.at_ < 32)∧0≤m.val∧m.val < 1099511627776)∨((m.kind=3∨m.kind=5)∧m.at_=0∧m.val=0))
theorem yasz {m:Mi}:miB m=true↔((m.kind=1∧(0≤m.at_∧m.at_ < 336)∧0≤m.val∧m.val < 1099511627776)∨(m.kind=2∧(0≤m.at_∧m.at_ < 336)∧m.val=0)∨(m.kind=4∧(0≤m.at_∧m.at_ < 32)∧0≤m.val∧m.val < 1099511627776)∨((m.kind=3∨m.kind=5)∧m.at_=0∧m.val=0)):=by unfold miB;exact decide_eq_true_iff
theorem zkr (k a v:Int):miB ⟨k,a,v⟩=true↔((k=1∧(0≤a∧a < 336)∧0≤v∧v < 1099511627776)∨(k=2∧(0≤a∧a < 336)∧v=0)∨(k=4∧(0≤a∧a < 32)∧0≤v∧v < 1099511627776)∨((k=3∨k=5)∧a=0∧v=0)):=yasz
theorem zwi (m:Mi) (w:World):Calls Tryz.prog 61 #[m.v] w fun e w'=>e=.returned (.bool (miB m))∧Below w.heap.size w w':=by
 obtain ⟨k,a,v⟩:=m;have hb0:Below w.heap.size w (w.alloc (.cells #[.int .i64 k,.int .i64 a,.int .i64 v] 98)):=(Below.refl _ _).alloc (Nat.le_refl _) _;have E:=zaa (zkr k a v);unfold Mi.v;simp only;have WE:=zaa (show zao v=decide (0≤v∧v < 1099511627776) from rfl)
 rcases (show k=1∨k=2∨k=3∨k=4∨k=5∨(¬ k=1∧¬ k=2∧¬ k=3∧¬ k=4∧¬ k=5) by omega) with rfl | rfl | rfl | rfl | rfl | ⟨n1,n2,n3,n4,n5⟩
 ·by_cases ca:0≤a∧a≤335
  ·go_enter Tryz.func61,Tryz.ntmps61;go_wp2_with (first | (go_at_call 43;refine (zaz _ _ _ _ ca).mono ?_;rintro e w' ⟨rfl,rfl⟩) | (go_at_call 108;refine (zbf _ _).mono ?_;rintro e w' ⟨rfl,rfl⟩));go_ret;refine ⟨zae ?_,hb0⟩;rw[WE.o,Bool.eq_iff_iff,E.o,decide_eq_true_iff]
   first | omega | (simp only[true_and];omega) | (simp only[true_and,true_or];omega) | (simp only[true_and,or_true];omega)
  ·have C:=zaa ca;clear ca;go_enter Tryz.func61,Tryz.ntmps61;go_wp2_with (go_at_call 43;refine (zeb _ _ _ _ C.o).mono ?_;rintro e w' ⟨rfl,rfl⟩);go_ret;have:=C.o;refine ⟨zae ?_,hb0⟩;rw[Bool.eq_iff_iff,E.o];simp;omega
 ·by_cases ca:0≤a∧a≤335
  ·go_enter Tryz.func61,Tryz.ntmps61;go_wp2_with (go_at_call 43;refine (zaz _ _ _ _ ca).mono ?_;rintro e w' ⟨rfl,rfl⟩);go_ret;refine ⟨zae ?_,hb0⟩;rw[Bool.eq_iff_iff,E.o,beq_iff_eq]
   first | omega | (simp only[true_and];omega) | (simp only[true_and,true_or];omega) | (simp only[true_and,or_true];omega)
  ·have C:=zaa ca;clear ca;go_enter Tryz.func61,Tryz.ntmps61;go_wp2_with (go_at_call 43;refine (zeb _ _ _ _ C.o).mono ?_;rintro e w' ⟨rfl,rfl⟩);go_ret;have:=C.o;refine ⟨zae ?_,hb0⟩;rw[Bool.eq_iff_iff,E.o];simp;omega
 ·by_cases ca:(a == 0)=true
  ·go_enter Tryz.func61,Tryz.ntmps61;go_wp2;go_ret;have:=beq_iff_eq.1 ca;refine ⟨zae ?_,hb0⟩;rw[Bool.eq_iff_iff,E.o,beq_iff_eq]
   first | omega | (simp only[true_and];omega) | (simp only[true_and,true_or];omega) | (simp only[true_and,or_true];omega)
  ·have ca':(a == 0)=false:=by simpa using ca
   clear ca;go_enter Tryz.func61,Tryz.ntmps61;go_wp2;go_ret;have:=beq_eq_false_iff_ne.1 ca';refine ⟨zae ?_,hb0⟩;rw[Bool.eq_iff_iff,E.o];simp;omega
 ·by_cases ca:0≤a∧a≤31
  ·go_enter Tryz.func61,Tryz.ntmps61;go_wp2_with (first | (go_at_call 43;refine (zaz _ _ _ _ ca).mono ?_;rintro e w' ⟨rfl,rfl⟩) | (go_at_call 108;refine (zbf _ _).mono ?_;rintro e w' ⟨rfl,rfl⟩));go_ret;refine ⟨zae ?_,hb0⟩;rw[WE.o,Bool.eq_iff_iff,E.o,decide_eq_true_iff]
   first | omega | (simp only[true_and];omega) | (simp only[true_and,true_or];omega) | (simp only[true_and,or_true];omega)
  ·have C:=zaa ca;clear ca;go_enter Tryz.func61,Tryz.ntmps61;go_wp2_with (go_at_call 43;refine (zeb _ _ _ _ C.o).mono ?_;rintro e w' ⟨rfl,rfl⟩);go_ret;have:=C.o;refine ⟨zae ?_,hb0⟩;rw[Bool.eq_iff_iff,E.o];simp;omega
 ·by_cases ca:(a == 0)=true
  ·go_enter Tryz.func61,Tryz.ntmps61;go_wp2;go_ret;have:=beq_iff_eq.1 ca;refine ⟨zae ?_,hb0⟩;rw[Bool.eq_iff_iff,E.o,beq_iff_eq]
   first | omega | (simp only[true_and];omega) | (simp only[true_and,true_or];omega) | (simp only[true_and,or_true];omega)
  ·have ca':(a == 0)=false:=by simpa using ca
   clear ca;go_enter Tryz.func61,Tryz.ntmps61;go_wp2;go_ret;have:=beq_eq_false_iff_ne.1 ca';refine ⟨zae ?_,hb0⟩;rw[Bool.eq_iff_iff,E.o];simp;omega
 ·have q1:(k == 1)=false:=by simpa using n1
  have q2:(k == 2)=false:=by simpa using n2
  have q3:(k == 3)=false:=by simpa using n3
  have q4:(k == 4)=false:=by simpa using n4
  have q5:(k == 5)=false:=by simpa using n5
  have N:=zaa (And.intro n1 (And.intro n2 (And.intro n3 (And.intro n4 n5))));clear n1 n2 n3 n4 n5;go_enter Tryz.func61,Tryz.ntmps61;go_wp2;go_ret;have:=N.o;refine ⟨zae ?_,hb0⟩;rw[Bool.eq_iff_iff,E.o];simp;omega
def zck (zs:List Int) (i:Nat):Int:=if zs.length=0 then 0 else zs[i % zs.length]?.getD 0
def zaw (zs:List Int):Bool:=decide (∀ k (h:k < zs.length),0≤zs[k]∧zs[k]≤400)
theorem zyi {zs:List Int} (h:∀ k (h:k < zs.length),0≤zs[k]∧zs[k]≤400):zaw zs=true:=decide_eq_true h
theorem yabh {zs:List Int} (h:zaw zs=true):∀ k (h:k < zs.length),0≤zs[k]∧zs[k]≤400:=of_decide_eq_true h
theorem ztf {zs:List Int} {k:Nat} (hk:k < zs.length) (h:¬ (0≤zs[k]∧zs[k]≤400)):zaw zs=false:=decide_eq_false (fun x=>h (x k hk))
theorem zoa {zs:List Int} (h:zaw zs=true) (i:Nat):0≤zck zs i∧zck zs i≤400:=by
 unfold zck
 by_cases h0:zs.length=0
 ·rw[if_pos h0];omega
 ·rw[if_neg h0];have hl:i % zs.length < zs.length:=Nat.mod_lt _ (by omega);rw[List.getElem?_eq_getElem hl,Option.getD_some];exact yabh h _ hl
theorem zxb (n:Int) (w:World) (h:0≤n∧n≤400):Calls Tryz.prog 43 #[.int .i64 n,.int .i64 0,.int .i64 400] w fun e w'=>e=.returned (.bool true)∧w'=w:=by
 have e:inB n 0 400=true:=decide_eq_true h;rw[← e];exact zhv n 0 400 w
theorem zyp (n:Int) (w:World) (h:¬ (0≤n∧n≤400)):Calls Tryz.prog 43 #[.int .i64 n,.int .i64 0,.int .i64 400] w fun e w'=>e=.returned (.bool false)∧w'=w:=by
 have e:inB n 0 400=false:=decide_eq_false h;rw[← e];exact zhv n 0 400 w
theorem zhw (v:Value) (zs:List Int) (w:World) (h:RdI w v zs) (hn:zs.length≤1048576) :
  Calls Tryz.prog 25 #[v] w fun e w'=>e=.returned (.bool (zaw zs))∧w'=w:=by
 obtain ⟨ao,cap,rfl,hcap,hc⟩:=h.shape;clear h;go_enter Tryz.func25,Tryz.ntmps25;go_wp2
 go_loop [3] (fun i=>∃ k:Nat,k≤zs.length∧i=.int .i64 k∧Hid (∀ j (h:j < zs.length),j < k→0≤zs[j]∧zs[j]≤400)) (fun i=>zs.length - (intOf i).toNat)
 case atStart=>exact ⟨0,by omega,rfl,fun j _ h=>absurd h (by omega)⟩
 case round =>
  obtain ⟨k,hk,rfl,H⟩:=hrel
  by_cases hlt:k < zs.length
  ·obtain ⟨b,o,rfl,hbl,hcell⟩:=hc (by omega);have hck:=hcell k hlt;clear hcell hc
   by_cases c:0≤zs[k]∧zs[k]≤400
   ·have C:=zaa c;clear c;go_wp2_with (go_at_call 43;refine (zxb _ _ C.o).mono ?_;rintro e w' ⟨rfl,rfl⟩)
    go_round
    case rel =>
     refine ⟨k+1,by omega,by go_num,fun j h a=>?_⟩
     by_cases e:j=k
     ·subst e;exact C.o
     ·exact H.o j h (by omega)
    case measure=>simp[intOf];omega
   ·have C:=zaa c;have E:=zaa (ztf hlt c);clear c;go_wp2_with (go_at_call 43;refine (zyp _ _ C.o).mono ?_;rintro e w' ⟨rfl,rfl⟩);go_ret;exact ⟨zae E.o.symm,rfl⟩
  ·have E:=zaa (zyi (fun j h=>H.o j h (by omega)));go_wp2;go_ret;exact ⟨zae E.o.symm,rfl⟩
theorem zmj (v:Value) (zs:List Int) (i:Nat) (w:World) (h:RdI w v zs) (hn:zs.length≤1048576) (hi:i≤1048576) :
  Calls Tryz.prog 134 #[v,.int .i64 (i:Int)] w fun e w'=>e=.returned (.int .i64 (zck zs i))∧w'=w:=by
 obtain ⟨ao,cap,rfl,hcap,hc⟩:=h.shape;clear h
 by_cases h0:zs.length=0
 ·have E:=zaa (show zck zs i=0 by unfold zck;rw[if_pos h0])
  have h0':((zs.length:Int) == 0)=true:=by simp[h0]
  clear h0 hc;go_enter Tryz.func134,Tryz.ntmps134;go_wp2;go_ret;exact ⟨zhn E.o.symm,rfl⟩
 ·have hl:i % zs.length < zs.length:=Nat.mod_lt _ (by omega);have E:=zaa (show zck zs i=zs[i % zs.length] by unfold zck;rw[if_neg h0,List.getElem?_eq_getElem hl,Option.getD_some]);obtain ⟨b,o,rfl,hbl,hcell⟩:=hc (by omega);have hck:=hcell (i % zs.length) hl
  have hpos:(0:Int) < (zs.length:Int):=by omega
  have hne:((zs.length:Int) == 0)=false:=by rw[beq_eq_false_iff_ne];omega
  have m0:(0:Int)≤(i:Int) % (zs.length:Int):=Int.emod_nonneg _ (by omega);have m1:(i:Int) % (zs.length:Int) < (zs.length:Int):=Int.emod_lt_of_pos _ hpos
  have mt:((i:Int) % (zs.length:Int)).toNat=i % zs.length:=by rw[← Int.natCast_emod,Int.toNat_natCast]
  have hck2:w.cell? ⟨b,o+((i:Int) % (zs.length:Int)).toNat,none⟩=some (.int .i64 zs[i % zs.length]):=by rw[mt];exact hck
  clear hcell hc h0 mt;go_enter Tryz.func134,Tryz.ntmps134;go_wp2;go_ret;exact ⟨zhn E.o.symm,rfl⟩
end Go.Proofs.YtahiphgmhndgaaaGreatDoor
