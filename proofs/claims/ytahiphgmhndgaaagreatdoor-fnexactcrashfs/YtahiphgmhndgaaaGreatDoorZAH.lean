/- Several texts laid together: MicD, MicO, MiL, JiM. -/
import Derived.Test.YtahiphgmhndgaaaGreatDoorZAD
import Derived.Test.YtahiphgmhndgaaaGreatDoorZAF
import Derived.Test.YtahiphgmhndgaaaGreatDoorZAE
import Derived.Test.YtahiphgmhndgaaaGreatDoorZAG
import Derived.Deep.RegionWith
import Derived.Deep.DeepCutAuto
import Derived.Test.YtahiphgmhndgaaaGreatDoorZAA
set_option maxRecDepth 100000
set_option maxHeartbeats 8000000
namespace Go.Proofs.YtahiphgmhndgaaaGreatDoor
open Go.RowKit
def doW (m:Mi) (ws:List Int) (ps:List St):List Int:=if m.kind=3 then zjm ws ps else ws
def doP (m:Mi) (ps:List St):List St:=if m.kind=1 then ps ++ [⟨m.at_,m.val,false⟩] else if m.kind=2 then ps.map (fl1 m.at_) else if m.kind=3 then zgs ps else ps
def doE (m:Mi) (es:List Int) (qs:List Se):List Int:=if m.kind=5 then ztd es qs else es
def doQ (m:Mi) (qs:List Se):List Se:=if m.kind=4 then qs ++ [⟨m.at_,m.val⟩] else if m.kind=5 then [] else qs
theorem Rd.boxless {w w':World} {size:Nat} {v:Value} {n:Nat} {xs:List Value} {b:Nat} {cs:Array Value} {t:TypeId} {fr:Nat×Nat} (h:Rd w size v n xs) (h0:0 < n*size→∃ z,xs[0]?=some (.int .i64 z)) (hb:w.heap[b]?=some (.cells cs t fr)) (hcs:∀ (o:Nat) (z:Int),¬ cs[o]?=some (.int .i64 z)) (hz:w.heap.size≤w'.heap.size) (ho:∀ j,j < w.heap.size→¬ j=b→w'.heap[j]?=w.heap[j]?):Rd w' size v n xs:=by
 by_cases hn:0 < n*size
 ·refine h.same hz (fun j hj he=>ho j hj (fun e=>?_));subst e;obtain ⟨hl,ao,cap,rfl,_,hc⟩:=h
  have hn':0 < n:=by
   rcases Nat.eq_zero_or_pos n with e | e
   ·subst e;simp at hn
   ·exact e
  obtain ⟨b',o,rfl,_,hc⟩:=hc hn';simp only[Value.ownBlock,Option.some.injEq] at he;subst he;obtain ⟨z,e⟩:=h0 hn;have:=hc 0 hn;rw[e] at this;simp only[World.cell?,hb] at this;exact hcs o z (by simpa using this)
 ·obtain ⟨h3,ao,cap,rfl,h4,h5⟩:=h;refine ⟨h3,ao,cap,rfl,h4,fun hp=>?_⟩;obtain ⟨b',o,e,hlt,hc⟩:=h5 hp;exact ⟨b',o,e,by omega,fun j hj=>absurd (Nat.lt_of_le_of_lt (Nat.zero_le _) hj) hn⟩
theorem RdI.boxless {w w':World} {v:Value} {zs:List Int} {b:Nat} {cs:Array Value} {t:TypeId} {fr:Nat×Nat} (h:RdI w v zs) (hb:w.heap[b]?=some (.cells cs t fr)) (hcs:∀ (o:Nat) (z:Int),¬ cs[o]?=some (.int .i64 z)) (hz:w.heap.size≤w'.heap.size) (ho:∀ j,j < w.heap.size→¬ j=b→w'.heap[j]?=w.heap[j]?):RdI w' v zs :=
 Rd.boxless h (fun hn=>⟨zs[0]'(by simpa using hn),zay zs 0 (by simpa using hn)⟩) hb hcs hz ho
theorem RdPm.boxless {w w':World} {v:Value} {ws:List Int} {ps:List St} {b:Nat} {cs:Array Value} {t:TypeId} {fr:Nat×Nat} (h:RdPm w v ws ps) (hb:w.heap[b]?=some (.cells cs t fr)) (hcs:∀ (o:Nat) (z:Int),¬ cs[o]?=some (.int .i64 z)) (hz:w.heap.size≤w'.heap.size) (ho:∀ j,j < w.heap.size→¬ j=b→w'.heap[j]?=w.heap[j]?):RdPm w' v ws ps:=by
 obtain ⟨vW,vP,rfl,h1,h2⟩:=h;refine ⟨vW,vP,rfl,RdI.boxless h1 hb hcs hz ho,Rd.boxless h2 (fun hn=>?_) hb hcs hz ho⟩
 have hl:0 < ps.length:=by omega
 have:=zey ps 0 hl;rw[Nat.zero_mul] at this;exact ⟨_,this⟩
theorem RdBlk.boxless {w w':World} {v:Value} {ws:List Int} {ps:List Se} {b:Nat} {cs:Array Value} {t:TypeId} {fr:Nat×Nat} (h:RdBlk w v ws ps) (hb:w.heap[b]?=some (.cells cs t fr)) (hcs:∀ (o:Nat) (z:Int),¬ cs[o]?=some (.int .i64 z)) (hz:w.heap.size≤w'.heap.size) (ho:∀ j,j < w.heap.size→¬ j=b→w'.heap[j]?=w.heap[j]?):RdBlk w' v ws ps:=by
 obtain ⟨vW,vP,rfl,h1,h2⟩:=h;refine ⟨vW,vP,rfl,RdI.boxless h1 hb hcs hz ho,Rd.boxless h2 (fun hn=>?_) hb hcs hz ho⟩
 have hl:0 < ps.length:=by omega
 have:=zgx ps 0 hl;rw[Nat.zero_mul] at this;exact ⟨_,this⟩
theorem zdi {a b c d:Value} (ha:∀ z,¬ a=.int .i64 z) (hb:∀ z,¬ b=.int .i64 z) (hc:∀ z,¬ c=.int .i64 z) (hd:∀ z,¬ d=.int .i64 z):∀ (o:Nat) (z:Int),¬ (#[a,b,c,d]:Array Value)[o]?=some (.int .i64 z):=fun o z e=>by
 match o with
 | 0=>simp at e;exact ha z e
 | 1=>simp at e;exact hb z e
 | 2=>simp at e;exact hc z e
 | 3=>simp at e;exact hd z e
 | o+4=>simp at e
theorem zaj (a:Option Addr) (n c:Nat) (z:Int):¬ Value.slice a n c=.int .i64 z:=fun e=>by cases e
def putD (w:World) (bD bR i j:Nat) (x y a b c d:Value):World:=(((((w.setCell ⟨bD,i,none⟩ x).setCell ⟨bD,j,none⟩ y).setCell ⟨bR,0,none⟩ a).setCell ⟨bR,1,none⟩ b).setCell ⟨bR,2,none⟩ c).setCell ⟨bR,3,none⟩ d
theorem zfx (w:World) (bD bR i j:Nat) (x y a b c d:Value):(putD w bD bR i j x y a b c d).heap.size=w.heap.size:=by simp[putD,World.setCell]
theorem yafk (w:World) (bD bR i j:Nat) (x y a b c d:Value) (k:Nat) (h1:¬ k=bD) (h2:¬ k=bR):(putD w bD bR i j x y a b c d).heap[k]?=w.heap[k]?:=by
 unfold putD;rw[Below.heap_setCell _ _ _ _ h2,Below.heap_setCell _ _ _ _ h2,Below.heap_setCell _ _ _ _ h2,Below.heap_setCell _ _ _ _ h2,Below.heap_setCell _ _ _ _ h1,Below.heap_setCell _ _ _ _ h1]
theorem Rd.put {w:World} {size:Nat} {v:Value} {n:Nat} {xs:List Value} {bD bR i j:Nat} {x y a b c d:Value} {cs cs':Array Value} {t t':TypeId} {fr fr':Nat×Nat} (h:Rd w size v n xs) (h0:0 < n*size→∃ z,xs[0]?=some (.int .i64 z)) (hD:w.heap[bD]?=some (.cells cs t fr)) (hcs:∀ (o:Nat) (z:Int),¬ cs[o]?=some (.int .i64 z)) (hR:w.heap[bR]?=some (.cells cs' t' fr')) (hcs':∀ (o:Nat) (z:Int),¬ cs'[o]?=some (.int .i64 z)):Rd (putD w bD bR i j x y a b c d) size v n xs:=by
 by_cases e:v.ownBlock=some bD∨v.ownBlock=some bR
 ·obtain ⟨h3,ao,cap,rfl,h4,h5⟩:=h;refine ⟨h3,ao,cap,rfl,h4,fun hp=>?_⟩;obtain ⟨b',o,rfl,hlt,hc⟩:=h5 hp;refine ⟨b',o,rfl,by rw[zfx];exact hlt,fun k hk=>?_⟩;exfalso;obtain ⟨z,ez⟩:=h0 (Nat.lt_of_le_of_lt (Nat.zero_le _) hk);have:=hc 0 (Nat.lt_of_le_of_lt (Nat.zero_le _) hk);rw[ez] at this;simp only[Value.ownBlock,Option.some.injEq] at e
  rcases e with rfl | rfl
  ·simp only[World.cell?,hD] at this;exact hcs o z (by simpa using this)
  ·simp only[World.cell?,hR] at this;exact hcs' o z (by simpa using this)
 ·refine h.same (Nat.le_of_eq (zfx ..).symm) (fun k _ he=>yafk _ _ _ _ _ _ _ _ _ _ _ k (fun x=>?_) (fun x=>?_))
  ·subst x;exact e (.inl he)
  ·subst x;exact e (.inr he)
theorem RdI.put {w:World} {v:Value} {zs:List Int} {bD bR i j:Nat} {x y a b c d:Value} {cs cs':Array Value} {t t':TypeId} {fr fr':Nat×Nat} (h:RdI w v zs) (hD:w.heap[bD]?=some (.cells cs t fr)) (hcs:∀ (o:Nat) (z:Int),¬ cs[o]?=some (.int .i64 z)) (hR:w.heap[bR]?=some (.cells cs' t' fr')) (hcs':∀ (o:Nat) (z:Int),¬ cs'[o]?=some (.int .i64 z)):RdI (putD w bD bR i j x y a b c d) v zs :=
 Rd.put h (fun hn=>⟨zs[0]'(by simpa using hn),zay zs 0 (by simpa using hn)⟩) hD hcs hR hcs'
theorem RdPm.put {w:World} {v:Value} {ws:List Int} {ps:List St} {bD bR i j:Nat} {x y a b c d:Value} {cs cs':Array Value} {t t':TypeId} {fr fr':Nat×Nat} (h:RdPm w v ws ps) (hD:w.heap[bD]?=some (.cells cs t fr)) (hcs:∀ (o:Nat) (z:Int),¬ cs[o]?=some (.int .i64 z)) (hR:w.heap[bR]?=some (.cells cs' t' fr')) (hcs':∀ (o:Nat) (z:Int),¬ cs'[o]?=some (.int .i64 z)):RdPm (putD w bD bR i j x y a b c d) v ws ps:=by
 obtain ⟨vW,vP,rfl,h1,h2⟩:=h;refine ⟨vW,vP,rfl,RdI.put h1 hD hcs hR hcs',Rd.put h2 (fun hn=>?_) hD hcs hR hcs'⟩;have:=zey ps 0 (by omega);rw[Nat.zero_mul] at this;exact ⟨_,this⟩
theorem RdBlk.put {w:World} {v:Value} {ws:List Int} {ps:List Se} {bD bR i j:Nat} {x y a b c d:Value} {cs cs':Array Value} {t t':TypeId} {fr fr':Nat×Nat} (h:RdBlk w v ws ps) (hD:w.heap[bD]?=some (.cells cs t fr)) (hcs:∀ (o:Nat) (z:Int),¬ cs[o]?=some (.int .i64 z)) (hR:w.heap[bR]?=some (.cells cs' t' fr')) (hcs':∀ (o:Nat) (z:Int),¬ cs'[o]?=some (.int .i64 z)):RdBlk (putD w bD bR i j x y a b c d) v ws ps:=by
 obtain ⟨vW,vP,rfl,h1,h2⟩:=h;refine ⟨vW,vP,rfl,RdI.put h1 hD hcs hR hcs',Rd.put h2 (fun hn=>?_) hD hcs hR hcs'⟩;have:=zgx ps 0 (by omega);rw[Nat.zero_mul] at this;exact ⟨_,this⟩
theorem zgk {B:Nat} {a0 w:World} (h:Below B a0 w) {bD bR:Nat} (h1:B≤bD) (h2:B≤bR) (i j:Nat) (x y a b c d:Value):Below B a0 (putD w bD bR i j x y a b c d):=by
 unfold putD
 repeat (refine Below.setCell ?_ (by simp only;omega) _)
 exact h
def zix (w:World) (bR:Nat) (a b c d:Value):World:=(((w.setCell ⟨bR,0,none⟩ a).setCell ⟨bR,1,none⟩ b).setCell ⟨bR,2,none⟩ c).setCell ⟨bR,3,none⟩ d
theorem zbb (w:World) (bR:Nat) (a b c d:Value):Outside bR (bR+1) w (zix w bR a b c d):=by
 unfold zix
 repeat (refine Outside.setCell ?_ (by simp only;omega) (by simp only;omega) _)
 exact Outside.refl _ _ _
theorem zax (w:World) (bR:Nat) (a b c d:Value):(zix w bR a b c d).heap.size=w.heap.size:=by simp[zix,World.setCell]
theorem zth (v:Value) (ws:List Int) (ps:List St) (es:List Int) (qs:List Se) (w:World) (h:RdDev w v ws ps es qs) (hw:ws.length≤1048576) (hp:ps.length≤1048576) (he:es.length≤1048576) (hq:qs.length≤1048576) :
  Calls Tryz.prog 26 #[v] w fun e w'=>∃ v',e=.returned v'∧RowDev w' w.heap.size w'.heap.size v' ws ps es qs∧Below w.heap.size w w':=by
 obtain ⟨aW,cW,aP,cP,aS,cS,aQ,cQ,rfl,r1,r2⟩:=h.form;have R1:=zaa r1;have R2:=zaa r2;clear h r1 r2
 have hb0:Below w.heap.size w ((w.alloc (.cells #[.slice aW ws.length cW,.slice aP ps.length cP,.slice aS es.length cS,.slice aQ qs.length cQ] 45)).alloc (.cells #[.slice none 0 0,.slice none 0 0,.slice none 0 0,.slice none 0 0] 45)):=by
  repeat (refine Below.alloc ?_ (by simp <;> omega) _)
  exact Below.refl _ _
 go_enter Tryz.func26,Tryz.ntmps26;go_upto_region 1 with fail
 obtain ⟨w0,hw0⟩:∃ w0:World,w0=(w.alloc (.cells #[.slice aW ws.length cW,.slice aP ps.length cP,.slice aS es.length cS,.slice aQ qs.length cQ] 45)).alloc (.cells #[.slice none 0 0,.slice none 0 0,.slice none 0 0,.slice none 0 0] 45):=⟨_,rfl⟩
 rw[← hw0];rw[← hw0] at hb0
 have hz0:w.heap.size+2≤w0.heap.size:=by rw[hw0];simp
 have V0:Hid (w0.heap[w.heap.size]?=some (.cells #[.slice aW ws.length cW,.slice aP ps.length cP,.slice aS es.length cS,.slice aQ qs.length cQ] 45 (0,0))):=by rw[hw0];exact zal (zag rfl)
 have V1:Hid (w0.heap[w.heap.size+1]?=some (.cells #[.slice none 0 0,.slice none 0 0,.slice none 0 0,.slice none 0 0] 45 (0,0))):=by rw[hw0];exact zag (by simp)
 clear hw0;have B0:=zaa hb0;clear hb0;obtain ⟨x0,x1,x2,x3,-,-,-,-⟩:=zaf V0.o;obtain ⟨y0,y1,y2,y3,y4,y5,y6,y7⟩:=zaf V1.o
 go_region_with (first
  | (go_at_call 64;refine (zma _ ws ps _ (R1.o.below (by first | exact B0.o | exact B0.o.drew)) (by omega) (by omega)).mono ?_;rintro e w1 ⟨v1,rfl,hr1,hb1⟩;obtain ⟨aW1,cW1,aP1,cP1,rfl⟩:=hr1.form;have hz1:w0.heap.size≤w1.heap.size:=hb1.size;have B1:Hid (Below w0.heap.size w0 w1):=(by first | exact hb1 | exact zab ((Below.refl _ _).drew) hb1 (Nat.le_refl _));have Q1:Hid (RowPm w1 w0.heap.size w1.heap.size (.agg #[.slice aW1 ws.length cW1,.slice aP1 ps.length cP1]) ws ps):=hr1;obtain ⟨z0,z1,z2,z3,-,-,-,-⟩:=zaf ((B1.o.block w.heap.size (by omega)).trans V0.o);clear hr1 hb1)
  | (go_at_call 65;refine (zta _ es qs _ (R2.o.below (by first | exact zab B0.o B1.o (by omega) | exact (zab B0.o B1.o (by omega)).drew)) (by omega) (by omega)).mono ?_;rintro e w2 ⟨v2,rfl,hr2,hb2⟩;obtain ⟨aS2,cS2,aQ2,cQ2,rfl⟩:=hr2.form;have hz2:w1.heap.size≤w2.heap.size:=hb2.size;have B2:Hid (Below w1.heap.size w1 w2):=(by first | exact hb2 | exact zab ((Below.refl _ _).drew) hb2 (Nat.le_refl _));have Q2:Hid (RowBlk w2 w1.heap.size w2.heap.size (.agg #[.slice aS2 es.length cS2,.slice aQ2 qs.length cQ2]) es qs):=hr2;have VR:=zaa ((B2.o.block (w.heap.size+1) (by omega)).trans ((B1.o.block (w.heap.size+1) (by omega)).trans V1.o));obtain ⟨t0,t1,t2,t3,t4,t5,t6,t7⟩:=zaf VR.o;clear hr2 hb2))
 all_goals
  go_wp2;refine bodyPost_ret (v:=.agg #[.slice aW1 ws.length cW1,.slice aP1 ps.length cP1,.slice aS2 es.length cS2,.slice aQ2 qs.length cQ2]) (by simp[results,Tryz.results26,go_sem,t0,t1,t2,t3]) rfl ?_;have O:=zbb w2 (w.heap.size+1) (.slice aW1 ws.length cW1) (.slice aP1 ps.length cP1) (.slice aS2 es.length cS2) (.slice aQ2 qs.length cQ2);have Z:=zax w2 (w.heap.size+1) (.slice aW1 ws.length cW1) (.slice aP1 ps.length cP1) (.slice aS2 es.length cS2) (.slice aQ2 qs.length cQ2);refine ⟨_,rfl,⟨_,_,_,_,w0.heap.size,w1.heap.size,w1.heap.size,w2.heap.size,rfl,?_,?_,by omega,Nat.le_trans hz2 (Nat.le_of_eq Z.symm),by omega,Nat.le_of_eq Z.symm,.inl (Nat.le_refl _)⟩,?_⟩
  ·exact (Q1.o.below B2.o (Nat.le_refl _)).outside O (by omega) (by omega)
  ·exact Q2.o.outside O (by omega) (Nat.le_refl _)
  ·exact (zab (zab B0.o B1.o (by omega)) B2.o (by omega)).trans (O.below (by omega) (by omega))
def zgl (m:Mi) (ps:List St) (qs:List Se):Bool:=decide ((m.kind=1∧ps.length=400)∨(m.kind=4∧qs.length=400))
def mdC (m:Mi) (ws:List Int) (ps:List St) (es:List Int) (qs:List Se):Int:=if (pmB ws ps && zbp es qs && miB m)=true then if zgl m ps qs=true then 7 else 0 else 1
def mdW (m:Mi) (ws:List Int) (ps:List St) (es:List Int) (qs:List Se):List Int:=if mdC m ws ps es qs=0 then doW m ws ps else if mdC m ws ps es qs=7 then ws else []
def mdP (m:Mi) (ws:List Int) (ps:List St) (es:List Int) (qs:List Se):List St:=if mdC m ws ps es qs=0 then doP m ps else if mdC m ws ps es qs=7 then ps else []
def mdE (m:Mi) (ws:List Int) (ps:List St) (es:List Int) (qs:List Se):List Int:=if mdC m ws ps es qs=0 then doE m es qs else if mdC m ws ps es qs=7 then es else []
def mdQ (m:Mi) (ws:List Int) (ps:List St) (es:List Int) (qs:List Se):List Se:=if mdC m ws ps es qs=0 then doQ m qs else if mdC m ws ps es qs=7 then qs else []
theorem zkc (m:Mi) (ws:List Int) (ps:List St) (es:List Int) (qs:List Se) :
  ((pmB ws ps && zbp es qs)=false∧mdC m ws ps es qs=1∧mdW m ws ps es qs=[]∧mdP m ws ps es qs=[]∧mdE m ws ps es qs=[]∧mdQ m ws ps es qs=[]) ∨
  ((pmB ws ps && zbp es qs)=true∧miB m=false∧mdC m ws ps es qs=1∧mdW m ws ps es qs=[]∧mdP m ws ps es qs=[]∧mdE m ws ps es qs=[]∧mdQ m ws ps es qs=[]) ∨
  ((pmB ws ps && zbp es qs)=true∧miB m=true∧zgl m ps qs=true∧mdC m ws ps es qs=7∧mdW m ws ps es qs=ws∧mdP m ws ps es qs=ps∧mdE m ws ps es qs=es∧mdQ m ws ps es qs=qs) ∨
  ((pmB ws ps && zbp es qs)=true∧miB m=true∧zgl m ps qs=false∧mdC m ws ps es qs=0∧mdW m ws ps es qs=doW m ws ps∧mdP m ws ps es qs=doP m ps∧mdE m ws ps es qs=doE m es qs∧mdQ m ws ps es qs=doQ m qs):=by
 by_cases c1:(pmB ws ps && zbp es qs)=true
 ·by_cases c2:miB m=true
  ·by_cases c3:zgl m ps qs=true
   ·have e:mdC m ws ps es qs=7:=by unfold mdC;rw[c1,c2,c3];rfl
    refine .inr (.inr (.inl ⟨c1,c2,c3,e,?_,?_,?_,?_⟩))
    ·unfold mdW;rw[e];rfl
    ·unfold mdP;rw[e];rfl
    ·unfold mdE;rw[e];rfl
    ·unfold mdQ;rw[e];rfl
   ·have c3':zgl m ps qs=false:=by simpa using c3
    have e:mdC m ws ps es qs=0:=by unfold mdC;rw[c1,c2,c3'];rfl
    refine .inr (.inr (.inr ⟨c1,c2,c3',e,?_,?_,?_,?_⟩))
    ·unfold mdW;rw[e];rfl
    ·unfold mdP;rw[e];rfl
    ·unfold mdE;rw[e];rfl
    ·unfold mdQ;rw[e];rfl
  ·have c2':miB m=false:=by simpa using c2
   have e:mdC m ws ps es qs=1:=by unfold mdC;rw[c1,c2'];rfl
   refine .inr (.inl ⟨c1,c2',e,?_,?_,?_,?_⟩)
   ·unfold mdW;rw[e];rfl
   ·unfold mdP;rw[e];rfl
   ·unfold mdE;rw[e];rfl
   ·unfold mdQ;rw[e];rfl
 ·have c1':(pmB ws ps && zbp es qs)=false:=by simpa using c1
  have e:mdC m ws ps es qs=1:=by unfold mdC;rw[c1'];rfl
  refine .inl ⟨c1',e,?_,?_,?_,?_⟩
  ·unfold mdW;rw[e];rfl
  ·unfold mdP;rw[e];rfl
  ·unfold mdE;rw[e];rfl
  ·unfold mdQ;rw[e];rfl
theorem RowDev.zero (w:World) (lo hi:Nat) (h:lo≤hi):RowDev w lo hi (.agg #[.slice none 0 0,.slice none 0 0,.slice none 0 0,.slice none 0 0]) [] [] [] [] :=
 ⟨_,_,_,_,lo,lo,lo,hi,rfl,RowPm.zero w lo lo,RowBlk.zero w lo hi,Nat.le_refl _,h,Nat.le_refl _,Nat.le_refl _,.inl (Nat.le_refl _)⟩
def Mi.cells (s:Mi):List Value:=[.int .i64 s.kind,.int .i64 s.at_,.int .i64 s.val]
def mis (ps:List Mi):List Value:=ps.flatMap Mi.cells
theorem Mi.cells_len (s:Mi):s.cells.length=3:=rfl
theorem yabu (ps:List Mi):(mis ps).length=ps.length*3:=zgt _ 3 Mi.cells_len ps
theorem zqi (ps:List Mi) (k:Nat) (h:k < ps.length):(mis ps)[k*3]?=some (.int .i64 ps[k].kind):=zbl _ 3 Mi.cells_len ps k 0 h (by omega)
theorem zqn (ps:List Mi) (k:Nat) (h:k < ps.length):(mis ps)[k*3+1]?=some (.int .i64 ps[k].at_):=zbl _ 3 Mi.cells_len ps k 1 h (by omega)
theorem zor (ps:List Mi) (k:Nat) (h:k < ps.length):(mis ps)[k*3+2]?=some (.int .i64 ps[k].val):=zbl _ 3 Mi.cells_len ps k 2 h (by omega)
def RdM (w:World) (v:Value) (ps:List Mi):Prop:=Rd w 3 v ps.length (mis ps)
theorem RdM.shape {w:World} {v:Value} {ps:List Mi} (h:RdM w v ps):∃ ao cap,v=.slice ao ps.length cap∧ps.length≤cap∧(0 < ps.length→∃ b o,ao=some ⟨b,o,none⟩∧b < w.heap.size ∧
  ∀ k (h:k < ps.length),w.cell? ⟨b,o+k*3,none⟩=some (.int .i64 ps[k].kind)∧w.cell? ⟨b,o+k*3+1,none⟩=some (.int .i64 ps[k].at_)∧w.cell? ⟨b,o+k*3+2,none⟩=some (.int .i64 ps[k].val)):=by
 obtain ⟨_,ao,cap,rfl,h2,h3⟩:=h;refine ⟨ao,cap,rfl,h2.1,fun hn=>?_⟩;obtain ⟨b,o,rfl,hb,hc⟩:=h3 hn;exact ⟨b,o,rfl,hb,fun k hk=>⟨(hc (k*3) (by omega)).trans (zqi ps k hk),(hc (k*3+1) (by omega)).trans (zqn ps k hk),(hc (k*3+2) (by omega)).trans (zor ps k hk)⟩⟩
theorem zem:(Tryz.prog.info? 98).map (fun i=>(i.zero,i.size,i.bytes))=some (some (.agg #[.int .i64 0,.int .i64 0,.int .i64 0]),3,24):=by kernel_rfl
theorem yahg (a v:Int) (f:Int) (w:World):Calls Tryz.prog 70 #[.agg #[.int .i64 a,.int .i64 v,.int .i64 f]] w fun e w'=>e=.returned (.agg #[.int .i64 a,.int .i64 v,.int .i64 f])∧Below w.heap.size w w':=by
 go_enter Tryz.func70,Tryz.ntmps70;go_wp2;refine bodyPost_ret (v:=.agg #[.int .i64 a,.int .i64 v,.int .i64 f]) (by simp[results,Tryz.results70,go_sem]) rfl ⟨rfl,?_⟩
 repeat (refine Below.alloc ?_ (by simp <;> omega) _)
 exact Below.refl _ _
theorem zsj {ys:List Value} {ps:List Mi} {k:Nat} (hk:k < ps.length) (hl:ys.length=ps.length*3) (h:∀ j,j < k*3→ys[j]?=(mis ps)[j]?) :
  ∀ j,j < (k+1)*3→(put3 ys k (.int .i64 ps[k].kind) (.int .i64 ps[k].at_) (.int .i64 ps[k].val))[j]?=(mis ps)[j]?:=by
 intro j hj;rw[zgp (by omega)]
 split
 ·rename_i e;rw[e,zor ps k hk]
 ·split
  ·rename_i e;rw[e,zqn ps k hk]
  ·split
   ·rename_i e;rw[e,zqi ps k hk]
   ·exact h j (by omega)
theorem yajq {ys:List Value} {ps:List Mi} (hl:ys.length=ps.length*3) (h:∀ j,j < ps.length*3→ys[j]?=(mis ps)[j]?):ys=mis ps:=by
 apply List.ext_getElem?;intro j
 by_cases hj:j < ps.length*3
 ·exact h j hj
 ·rw[List.getElem?_eq_none (by omega),List.getElem?_eq_none (by rw[yabu];omega)]
theorem zws (v:Value) (ps:List Mi) (w:World) (h:RdM w v ps) (hn:ps.length≤1048576) :
  Calls Tryz.prog 29 #[v] w fun e w'=>∃ v',e=.returned v'∧Row w' 98 3 w.heap.size w'.heap.size v' ps.length (mis ps)∧Below w.heap.size w w':=by
 obtain ⟨ao,cap,rfl,hcap,hc⟩:=h.shape;clear h;have hmk:=zdu (P:=Tryz.prog) 48 98 (.agg #[.int .i64 0,.int .i64 0,.int .i64 0]) 3 24 Tryz.underlying48 zem .i64 .i64 ps.length (by omega) (by omega);go_enter Tryz.func29,Tryz.ntmps29;go_wp2
 go_loopw [4] (fun i wr=>∃ k:Nat,k≤ps.length∧i=.int .i64 k∧(∃ ys,Row wr 98 3 w.heap.size (w.heap.size+1) (.slice (some ⟨w.heap.size,0,none⟩) ps.length ps.length) ps.length ys∧∀ j,j < k*3→ys[j]?=(mis ps)[j]?)∧Below w.heap.size w wr∧w.heap.size+1≤wr.heap.size) (fun i _=>ps.length - (intOf i).toNat)
 case atStart =>
  refine ⟨0,by omega,rfl,⟨_,ztz w (.agg #[.int .i64 0,.int .i64 0,.int .i64 0]) 3 ps.length 98 (by simp[maxLen];omega),fun j hj=>absurd hj (by omega)⟩,(Below.refl _ _).alloc (Nat.le_refl _) _,by simp⟩
 case round =>
  obtain ⟨k,hk,rfl,⟨ys,hrow,hys⟩,hb,hz⟩:=hrel
  by_cases hlt:k < ps.length
  ·obtain ⟨b,o,rfl,hbl,hcell⟩:=hc (by omega);obtain ⟨c0,c1,c2⟩:=hcell k hlt;have d0:=(hb.cell (p:=⟨b,o+k*3,none⟩) hbl).trans c0;have d1:=(hb.cell (p:=⟨b,o+k*3+1,none⟩) hbl).trans c1;have d2:=(hb.cell (p:=⟨b,o+k*3+2,none⟩) hbl).trans c2;have RH:=zaa hrow;have YH:=zaa hys;clear hcell hc c0 c1 c2 hrow hys;go_wp2_with fail;refine (yahg _ _ _ _).mono ?_;rintro e w1 ⟨rfl,hb1⟩;have R1:=zaa (RH.o.below hb1 (by omega))
   obtain ⟨_,_,_,hsz,hfr,hcl⟩:=R1.o.at
   have hl:=RH.o.len;have f0:=hfr (k*3);have f1:=hfr (k*3+1);have f2:=hfr (k*3+2)
   have e0:w1.cell? ⟨w.heap.size,k*3,none⟩=some (ys[k*3]'(by omega)):=by rw[hcl _ (by omega)];simp
   have e1:w1.cell? ⟨w.heap.size,k*3+1,none⟩=some (ys[k*3+1]'(by omega)):=by rw[hcl _ (by omega)];simp
   have e2:w1.cell? ⟨w.heap.size,k*3+2,none⟩=some (ys[k*3+2]'(by omega)):=by rw[hcl _ (by omega)];simp
   have BH:=zaa (hb.trans (hb1.mono (show w.heap.size≤wr.heap.size by omega)));have hz1:=hb1.size;clear hfr hcl hb1 hb d0 d1 d2;have P1:=zaa (R1.o.put3 k (.int .i64 ps[k].kind) (.int .i64 ps[k].at_) (.int .i64 ps[k].val));have B1:=zaa (((BH.o.setCell (p:=⟨w.heap.size,k*3,none⟩) (Nat.le_refl _) (.int .i64 ps[k].kind)).setCell (p:=⟨w.heap.size,k*3+1,none⟩) (Nat.le_refl _) (.int .i64 ps[k].at_)).setCell (p:=⟨w.heap.size,k*3+2,none⟩) (Nat.le_refl _) (.int .i64 ps[k].val));go_wp2
   go_roundw
   case rel=>exact ⟨k+1,by omega,by go_num,⟨_,P1.o,zsj hlt hl YH.o⟩,B1.o,by simp;omega⟩
   case measure=>simp[intOf];omega
  ·have e:k=ps.length:=by omega
   subst e;have hl:=hrow.len;have RH:=zaa hrow;have YH:=zaa hys;clear hrow hys hc;go_wp2;go_ret;have e:=yajq hl YH.o;refine ⟨_,rfl,?_,hb⟩;rw[← e];exact RH.o.wide (Nat.le_refl _) hz
theorem zwg (ao:Option Addr) (n cap:Nat) (left:Int) (w:World) (hn:n≤maxLen) (h0:0≤left) (h1:left≤1048576) :
  Calls Tryz.prog 22 #[.slice ao n cap,.int .i64 left] w fun e w'=>e=.returned (.int .i64 (zhb left n))∧w'=w:=by
 unfold maxLen at hn
 by_cases h:left < n
 ·have e:zhb left n=-1:=by unfold zhb;rw[if_pos h]
  rw[e];clear e;go_enter Tryz.func22,Tryz.ntmps22;go_wp2;go_ret;exact ⟨rfl,rfl⟩
 ·have e:zhb left n=left - n:=by unfold zhb;rw[if_neg h]
  rw[e];clear e;go_enter Tryz.func22,Tryz.ntmps22;go_wp2;go_ret;exact ⟨rfl,rfl⟩
theorem yaem (a v:Int) (f:Int) (w:World):Calls Tryz.prog 74 #[.agg #[.int .i64 a,.int .i64 v,.int .i64 f],.agg #[.int .i64 a,.int .i64 v,.int .i64 f]] w fun e w'=>e=.returned (.bool true)∧Below w.heap.size w w':=by
 go_enter Tryz.func74,Tryz.ntmps74;go_wp2;go_ret;refine ⟨rfl,?_⟩
 repeat (refine Below.alloc ?_ (by simp <;> omega) _)
 exact Below.refl _ _
structure MR where
 c:Int
 W:List Int
 P:List St
 E:List Int
 Q:List Se
def mr:List Mi→List Int→List St→List Int→List Se→MR
 | [],ws,ps,es,qs=>⟨0,ws,ps,es,qs⟩
 | m :: l,ws,ps,es,qs=>if zgl m ps qs=true then ⟨7,ws,ps,es,qs⟩ else mr l (doW m ws ps) (doP m ps) (doE m es qs) (doQ m qs)
theorem zok:∀ (l l':List Mi) (ws:List Int) (ps:List St) (es:List Int) (qs:List Se),mr (l ++ l') ws ps es qs=if (mr l ws ps es qs).c=0 then mr l' (mr l ws ps es qs).W (mr l ws ps es qs).P (mr l ws ps es qs).E (mr l ws ps es qs).Q else mr l ws ps es qs
 | [],l',ws,ps,es,qs=>by simp[mr]
 | m :: l,l',ws,ps,es,qs=>by
   by_cases c:zgl m ps qs=true
   ·simp[mr,c]
   ·simp only[List.cons_append,mr,if_neg c];exact zok l l' _ _ _ _
theorem yaup (m:Mi) (ws:List Int) (ps:List St) (es:List Int) (qs:List Se):mr [m] ws ps es qs=if zgl m ps qs=true then ⟨7,ws,ps,es,qs⟩ else ⟨0,doW m ws ps,doP m ps,doE m es qs,doQ m qs⟩:=rfl
theorem zlt {ws:List Int} {ps:List St}:pmB ws ps=true↔ws.length=336∧ps.length≤400∧(∀ x∈ws,zao x=true)∧∀ p∈ps,zbk p.at_=true∧zao p.val=true:=by
 constructor
 ·intro h;refine ⟨(zbz h).1,(zbz h).2,fun x hx=>?_,fun p hp=>?_⟩
  ·obtain ⟨i,hi,rfl⟩:=List.getElem_of_mem hx;exact ztk h i hi
  ·obtain ⟨i,hi,rfl⟩:=List.getElem_of_mem hp;exact zhj h i hi
 ·rintro ⟨h1,h2,h3,h4⟩;exact yaly h1 h2 (fun k hk=>h3 _ (List.getElem_mem hk)) (fun k hk=>h4 _ (List.getElem_mem hk))
theorem zkf {ws:List Int} {ps:List Se}:zbp ws ps=true↔ws.length=32∧ps.length≤400∧(∀ x∈ws,zao x=true)∧∀ p∈ps,zlg p.at_=true∧zao p.val=true:=by
 constructor
 ·intro h;refine ⟨(zbt h).1,(zbt h).2,fun x hx=>?_,fun p hp=>?_⟩
  ·obtain ⟨i,hi,rfl⟩:=List.getElem_of_mem hx;exact yakx h i hi
  ·obtain ⟨i,hi,rfl⟩:=List.getElem_of_mem hp;exact zli h i hi
 ·rintro ⟨h1,h2,h3,h4⟩;exact zzt h1 h2 (fun k hk=>h3 _ (List.getElem_mem hk)) (fun k hk=>h4 _ (List.getElem_mem hk))
theorem zyo:∀ (ps:List St) (ws:List Int),(∀ x∈ws,zao x=true)→(∀ p∈ps,zao p.val=true)→∀ x∈zjm ws ps,zao x=true
 | [],ws,h,_=>h
 | p :: ps,ws,h,k=>by
   show ∀ x∈zjm (if p.fl then ws.set p.at_.toNat p.val else ws) ps,zao x=true
   refine zyo ps _ ?_ (fun q hq=>k q (List.mem_cons_of_mem _ hq))
   split
   ·intro x hx
    rcases List.mem_or_eq_of_mem_set hx with hx | rfl
    ·exact h x hx
    ·exact k p (List.mem_cons_self)
   ·exact h
theorem zzl:∀ (ps:List Se) (ws:List Int),(∀ x∈ws,zao x=true)→(∀ p∈ps,zao p.val=true)→∀ x∈ztd ws ps,zao x=true
 | [],ws,h,_=>h
 | p :: ps,ws,h,k=>by
   show ∀ x∈ztd (ws.set p.at_.toNat p.val) ps,zao x=true
   refine zzl ps _ ?_ (fun q hq=>k q (List.mem_cons_of_mem _ hq));intro x hx
   rcases List.mem_or_eq_of_mem_set hx with hx | rfl
   ·exact h x hx
   ·exact k p (List.mem_cons_self)
theorem yavz {m:Mi} {ws:List Int} {ps:List St} {es:List Int} {qs:List Se} (h:pmB ws ps=true) (hb:zbp es qs=true) (hm:miB m=true) (hf:zgl m ps qs=false):pmB (doW m ws ps) (doP m ps)=true∧zbp (doE m es qs) (doQ m qs)=true:=by
 obtain ⟨k,a,x⟩:=m;obtain ⟨p1,p2,p3,p4⟩:=zlt.1 h;obtain ⟨b1,b2,b3,b4⟩:=zkf.1 hb;have hk:=(zkr k a x).1 hm;have hf':¬ ((k=1∧ps.length=400)∨(k=4∧qs.length=400)):=of_decide_eq_false hf
 rcases (show (k=1∧(0≤a∧a < 336)∧0≤x∧x < 1099511627776)∨k=2∨k=3∨(k=4∧(0≤a∧a < 32)∧0≤x∧x < 1099511627776)∨k=5 by omega) with ⟨rfl,ha,hx⟩ | rfl | rfl | ⟨rfl,ha,hx⟩ | rfl
 ·refine ⟨zlt.2 ⟨p1,?_,p3,?_⟩,hb⟩
  ·show (ps ++ [(⟨a,x,false⟩:St)]).length≤400
   simp;omega
  ·intro p hp
   rcases List.mem_append.1 (show p∈ps ++ [⟨a,x,false⟩] from hp) with hp | hp
   ·exact p4 p hp
   ·rw[List.mem_singleton.1 hp];exact ⟨decide_eq_true ha,decide_eq_true hx⟩
 ·refine ⟨zlt.2 ⟨p1,?_,p3,?_⟩,hb⟩
  ·show (ps.map (fl1 a)).length≤400
   simpa using p2
  ·intro p hp;obtain ⟨q,hq,rfl⟩:=List.mem_map.1 (show p∈ps.map (fl1 a) from hp);have:=p4 q hq;unfold fl1
   split <;> exact this
 ·refine ⟨zlt.2 ⟨?_,?_,?_,?_⟩,hb⟩
  ·show (zjm ws ps).length=336
   rw[ziq];exact p1
  ·exact Nat.le_trans (List.length_filter_le _ _) p2
  ·exact zyo ps ws p3 (fun p hp=>(p4 p hp).2)
  ·intro p hp;exact p4 p (List.mem_filter.1 (show p∈ps.filter (fun p=>!p.fl) from hp)).1
 ·refine ⟨h,zkf.2 ⟨b1,?_,b3,?_⟩⟩
  ·show (qs ++ [(⟨a,x⟩:Se)]).length≤400
   simp;omega
  ·intro p hp
   rcases List.mem_append.1 (show p∈qs ++ [⟨a,x⟩] from hp) with hp | hp
   ·exact b4 p hp
   ·rw[List.mem_singleton.1 hp];exact ⟨decide_eq_true ha,decide_eq_true hx⟩
 ·refine ⟨h,zkf.2 ⟨?_,Nat.zero_le _,?_,fun p hp=>by cases hp⟩⟩
  ·show (ztd es qs).length=32
   rw[zir];exact b1
  ·exact zzl qs es b3 (fun p hp=>(b4 p hp).2)
theorem zyz:∀ (l:List Mi) (ws:List Int) (ps:List St) (es:List Int) (qs:List Se),pmB ws ps=true→zbp es qs=true→(∀ m∈l,miB m=true)→pmB (mr l ws ps es qs).W (mr l ws ps es qs).P=true∧zbp (mr l ws ps es qs).E (mr l ws ps es qs).Q=true
 | [],ws,ps,es,qs,h,hb,_=>⟨h,hb⟩
 | m :: l,ws,ps,es,qs,h,hb,hm=>by
   by_cases c:zgl m ps qs=true
   ·simp only[mr,if_pos c];exact ⟨h,hb⟩
   ·simp only[mr,if_neg c];obtain ⟨h1,h2⟩:=yavz h hb (hm m List.mem_cons_self) (by simpa using c);exact zyz l _ _ _ _ h1 h2 (fun q hq=>hm q (List.mem_cons_of_mem _ hq))
theorem yakb {l:List Mi} {i:Nat} (hi:i < l.length) {ws:List Int} {ps:List St} {es:List Int} {qs:List Se} {W:List Int} {P:List St} {E:List Int} {Q:List Se} (h:mr (l.take i) ws ps es qs=⟨0,W,P,E,Q⟩) (hf:zgl l[i] P Q=false) :
  mr (l.take (i+1)) ws ps es qs=⟨0,doW l[i] W P,doP l[i] P,doE l[i] E Q,doQ l[i] Q⟩:=by
 rw[List.take_succ_eq_append_getElem hi,zok,h];simp only[if_true,yaup];rw[if_neg (by rw[hf];simp)]
theorem yamb {l:List Mi} {i:Nat} (hi:i < l.length) {ws:List Int} {ps:List St} {es:List Int} {qs:List Se} {W:List Int} {P:List St} {E:List Int} {Q:List Se} (h:mr (l.take i) ws ps es qs=⟨0,W,P,E,Q⟩) (hf:zgl l[i] P Q=true) :
  mr l ws ps es qs=⟨7,W,P,E,Q⟩:=by
 have e:l=l.take i ++ l[i] :: l.drop (i+1):=by rw[List.getElem_cons_drop];exact (List.take_append_drop i l).symm
 rw[e,zok,h];simp only[if_true,mr];rw[if_pos hf]
theorem yaql {l:List Mi} {i:Nat} (hi:l.length≤i) {ws:List Int} {ps:List St} {es:List Int} {qs:List Se} {W:List Int} {P:List St} {E:List Int} {Q:List Se} (h:mr (l.take i) ws ps es qs=⟨0,W,P,E,Q⟩):mr l ws ps es qs=⟨0,W,P,E,Q⟩:=by
 rw[List.take_of_length_le hi] at h;exact h
def yaev (l:List Mi):Bool:=decide (∀ k (h:k < l.length),miB l[k]=true)
def ms (l:List Mi) (ws:List Int) (ps:List St) (es:List Int) (qs:List Se):MR:=if 4096 < l.length then ⟨2,[],[],[],[]⟩ else if (pmB ws ps && zbp es qs && yaev l)=true then mr l ws ps es qs else ⟨1,[],[],[],[]⟩
theorem yatt {l:List Mi} {ws:List Int} {ps:List St} {es:List Int} {qs:List Se} (h:4096 < l.length):ms l ws ps es qs=⟨2,[],[],[],[]⟩:=by unfold ms;rw[if_pos h]
theorem yari {l:List Mi} {ws:List Int} {ps:List St} {es:List Int} {qs:List Se} (h:¬ 4096 < l.length) (c:(pmB ws ps && zbp es qs && yaev l)=false):ms l ws ps es qs=⟨1,[],[],[],[]⟩:=by unfold ms;rw[if_neg h,c];rfl
theorem yarl {l:List Mi} {ws:List Int} {ps:List St} {es:List Int} {qs:List Se} (h:¬ 4096 < l.length) (c:(pmB ws ps && zbp es qs && yaev l)=true):ms l ws ps es qs=mr l ws ps es qs:=by unfold ms;rw[if_neg h,c];rfl
end Go.Proofs.YtahiphgmhndgaaaGreatDoor
