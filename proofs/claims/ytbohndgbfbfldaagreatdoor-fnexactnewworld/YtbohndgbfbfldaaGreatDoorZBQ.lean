/- Several texts laid together: DuA, LastW. -/
import Derived.Test.YtbohndgbfbfldaaGreatDoorZBN
import Derived.Test.YtbohndgbfbfldaaGreatDoorRdF
import Derived.Test.YtbohndgbfbfldaaGreatDoorZAQ
set_option maxRecDepth 100000
set_option maxHeartbeats 4000000
namespace Go.Proofs.YtbohndgbfbfldaaGreatDoor
open Go.RowKit
theorem yaet {ws:List Int} {ps:List St} {es:List Int} {qs:List Se} (h:zfa es qs=false):dvN ws ps es qs=[]∧dvD ws ps es qs=[]:=(yaav (by rw[h,Bool.and_false])).2
theorem yaft {ws:List Int} {ps:List St} {es:List Int} {qs:List Se} (h:zfa es qs=true):dvN ws ps es qs=riN ws ps∧dvD ws ps es qs=riD ws ps:=by
 cases p:pmB ws ps with
 | true=>exact (yadj (by rw[p,h];rfl)).2
 | false =>
  obtain ⟨-,a,b⟩:=yaax p;obtain ⟨-,c,d⟩:=yaav (ws:=ws) (ps:=ps) (es:=es) (qs:=qs) (by rw[p];rfl);exact ⟨by rw[a,c],by rw[b,d]⟩
theorem zfv {ws:List Int} {ps:List St} {es:List Int} {qs:List Se} (h:¬ dvB ws ps es qs=true):dvN ws ps es qs=[]∧dvD ws ps es qs=[]:=⟨by unfold dvN;rw[if_neg h],by unfold dvD;rw[if_neg h]⟩
theorem dv_R {ws:List Int} {ps:List St} {es:List Int} {qs:List Se}:∀ k (h:k < (dvN ws ps es qs).length),(dvN ws ps es qs)[k].R:=by
 by_cases c:dvB ws ps es qs=true
 ·obtain ⟨p,-,e,-,-⟩:=zfh c;rw[e];exact zqg p 16
 ·rw[(zfv c).1];intro k h
  cases h
theorem yacp {ws:List Int} {ps:List St} {es:List Int} {qs:List Se}:∀ k (h:k < (dvD ws ps es qs).length),(dvD ws ps es qs)[k].name.size≤maxLen:=by
 by_cases c:dvB ws ps es qs=true
 ·obtain ⟨p,-,-,e,-⟩:=zfh c;rw[e];exact zir _ 24
 ·rw[(zfv c).2];intro k h
  cases h
theorem yaba (ws:List Int) (ps:List St) (es:List Int) (qs:List Se):(dvN ws ps es qs).length≤1048576∧(dvD ws ps es qs).length≤1048576:=by
 by_cases c:dvB ws ps es qs=true
 ·obtain ⟨-,-,e1,e2,-⟩:=zfh c;rw[e1,e2,zcr,zco];omega
 ·rw[(zfv c).1,(zfv c).2];exact ⟨by simp,by simp⟩
theorem zxx:zsz [] []=false:=by decide
theorem yaey (ws:List Int) (ps:List St) (es:List Int) (qs:List Se):zsz (dvN ws ps es qs) (dvD ws ps es qs)=dvB ws ps es qs:=by
 by_cases c:dvB ws ps es qs=true
 ·obtain ⟨-,-,e1,e2,h⟩:=zfh c;rw[e1,e2,h,c]
 ·rw[(zfv c).1,(zfv c).2,zxx];exact ((Bool.not_eq_true _).mp c).symm
theorem zlo (v:Value) (ws:List Int) (ps:List St) (es:List Int) (qs:List Se) (w:World) (h:RdDev w v ws ps es qs) (hw:ws.length≤1048576) (hp:ps.length≤1048576) (he:es.length≤1048576) (hq:qs.length≤1048576) (hT:TS w) (hE:ED w) (hF:FD w) :
  Calls Tryz.prog 101 #[v] w fun e w'=>∃ v',e=.returned v'∧RowIm w' w.heap.size w'.heap.size v' (dvN ws ps es qs) (dvD ws ps es qs)∧Below w.heap.size w w':=by
 obtain ⟨aW,cW,aP,cP,aS,cS,aQ,cQ,rfl,h1,h2⟩:=h.form;have LO:=zaa (fun w1 (hb:Below w.heap.size w w1)=>zcm _ es qs w1 (h2.below hb) he hq);have LR:=zaa (fun w1 (hb:Below w.heap.size w w1)=>zft _ ws ps w1 (h1.below hb) hw hp (hT.below hb) (hE.below hb) (hF.below hb));have NO:=zaa (fun q=>yaet (ws:=ws) (ps:=ps) (es:=es) (qs:=qs) q);have YES:=zaa (fun q=>yaft (ws:=ws) (ps:=ps) (es:=es) (qs:=qs) q);clear h h1 h2 hT hE hF
 obtain ⟨W1,hW1⟩:∃ W1,W1=(w.alloc (.cells #[.slice aW ws.length cW,.slice aP ps.length cP,.slice aS es.length cS,.slice aQ qs.length cQ] 30)).alloc (.cells #[.slice none 0 0,.slice none 0 0] 123):=⟨_,rfl⟩
 have hz1:W1.heap.size=w.heap.size+1+1:=by rw[hW1];simp
 have CA:Hid (∀ w',Below W1.heap.size W1 w'→w'.cell? ⟨w.heap.size,0,none⟩=some (.slice aW ws.length cW)∧w'.cell? ⟨w.heap.size,1,none⟩=some (.slice aP ps.length cP)∧w'.cell? ⟨w.heap.size,2,none⟩=some (.slice aS es.length cS)∧w'.cell? ⟨w.heap.size,3,none⟩=some (.slice aQ qs.length cQ)):=fun w' hb=>by
  have:w'.heap[w.heap.size]?=some (.cells #[.slice aW ws.length cW,.slice aP ps.length cP,.slice aS es.length cS,.slice aQ qs.length cQ] 30 (0,0)):=(hb.block _ (by omega)).trans (by rw[hW1];exact zao (zae rfl));obtain ⟨x0,x1,x2,x3,-,-,-,-⟩:=zaj this;exact ⟨x0,x1,x2,x3⟩
 have CR:Hid (∀ w',Below W1.heap.size W1 w'→w'.heap[w.heap.size+1]?=some (.cells #[.slice none 0 0,.slice none 0 0] 123 (0,0))):=fun w' hb=>(hb.block _ (by omega)).trans (by
  rw[hW1];have:=zae (w:=w.alloc (.cells #[.slice aW ws.length cW,.slice aP ps.length cP,.slice aS es.length cS,.slice aQ qs.length cQ] 30)) (o:=.cells #[.slice none 0 0,.slice none 0 0] 123) rfl;rw[World.size_alloc] at this
  exact this)
 have BW:Hid (Below w.heap.size w W1):=by rw[hW1];exact ((Below.refl _ _).alloc (Nat.le_refl _) _).alloc (by simp) _
 have hz0:w.heap.size+1 < W1.heap.size:=by omega
 clear hz1;obtain ⟨x0,x1,x2,x3⟩:=CA.o W1 (Below.refl _ _);generalize riC ws ps=rc at *;generalize riN ws ps=rn at *;generalize riD ws ps=rd at *;generalize dvN ws ps es qs=dn at *;generalize dvD ws ps es qs=dd at *;generalize zfa es qs=ok at *;go_enter Tryz.func101,Tryz.ntmps101;go_wp2_with fail;rw[← hW1];clear hW1;refine (LO.o _ BW.o).mono ?_;rintro e w1 ⟨rfl,hb1⟩;have B1:=zaa hb1;have B1w:=zaa (zab BW.o B1.o BW.o.size);clear x0 x1 x2 x3 hb1;obtain ⟨x0,x1,x2,x3⟩:=CA.o w1 B1.o
 cases ok with
 | false =>
  obtain ⟨rfl,rfl⟩:=NO.o rfl;have CB:=zaa (CR.o _ B1.o);obtain ⟨p0,p1,p2,p3⟩:=zac CB.o;have BR:Hid (Below w.heap.size w ((w1.setCell ⟨w.heap.size+1,0,none⟩ (.slice none 0 0)).setCell ⟨w.heap.size+1,1,none⟩ (.slice none 0 0))):=(B1w.o.setCell (by simp only;omega) _).setCell (by simp only;omega) _;clear NO YES;go_wp2;refine bodyPost_ret (v:=.agg #[.slice none 0 0,.slice none 0 0]) (by simp[results,Tryz.results101,go_sem,p0,p1]) rfl ?_;exact ⟨_,rfl,zdx _ _ _,BR.o⟩
 | true =>
  obtain ⟨rfl,rfl⟩:=YES.o rfl;clear NO YES;go_wp2_with fail;refine (LR.o _ B1w.o).mono ?_;rintro e w2 ⟨v2,rfl,⟨vI,vD,rfl,hI,hD⟩,hb2⟩;obtain ⟨-,a1,c1,hv1,-⟩:=hI.rd;obtain ⟨-,a2,c2,hv2,-⟩:=hD.rd;subst hv1;subst hv2;have HI:=zaa hI;have HD:=zaa hD;have B2:=zaa (zxr B1.o hb2);have B3:Hid (Below W1.heap.size W1 (w2.alloc (.cells #[.slice a1 dn.length c1,.slice a2 dd.length c2] 123))):=zba B2.o _;have hz12:W1.heap.size≤w1.heap.size:=B1.o.size;have hz2:w1.heap.size≤w2.heap.size:=hb2.size;have hzw:w.heap.size≤w1.heap.size:=B1w.o.size;clear x0 x1 x2 x3 hb2 hI hD;obtain ⟨y0,y1,_,_⟩:=zac (zae (w:=w2) (o:=.cells #[.slice a1 dn.length c1,.slice a2 dd.length c2] 123) rfl)
  obtain ⟨w3,hw3⟩:∃ w3,w3=w2.alloc (.cells #[.slice a1 dn.length c1,.slice a2 dd.length c2] 123):=⟨_,rfl⟩
  have BC:Hid (Below w2.heap.size w2 w3):=by rw[hw3];exact (Below.refl _ _).alloc (Nat.le_refl _) _
  rw[← hw3] at B3 y0 y1;have HI3:=zaa (HI.o.below BC.o (Nat.le_refl _));have HD3:=zaa (HD.o.below BC.o (Nat.le_refl _));have hz3:w2.heap.size≤w3.heap.size:=BC.o.size;have CB:=zaa (CR.o _ B3.o);obtain ⟨p0,p1,p2,p3⟩:=zac CB.o;have BR:Hid (Below w.heap.size w ((w3.setCell ⟨w.heap.size+1,0,none⟩ (.slice a1 dn.length c1)).setCell ⟨w.heap.size+1,1,none⟩ (.slice a2 dd.length c2))):=((zab BW.o B3.o BW.o.size).setCell (by simp only;omega) _).setCell (by simp only;omega) _;have RF:=zaa (zka (zwc HI3.o HD3.o CB.o (.slice a1 dn.length c1) (.slice a2 dd.length c2)) (lo':=w.heap.size) (hi':=((w3.setCell ⟨w.heap.size+1,0,none⟩ (.slice a1 dn.length c1)).setCell ⟨w.heap.size+1,1,none⟩ (.slice a2 dd.length c2)).heap.size) (by omega) (by simp;omega));clear CB HI HD HI3 HD3 BC B3 B2 LR LO CA CR;subst hw3;go_wp2;refine bodyPost_ret (v:=.agg #[.slice a1 dn.length c1,.slice a2 dd.length c2]) (by simp[results,Tryz.results101,go_sem,p0,p1]) rfl ?_;exact ⟨_,rfl,RF.o,BR.o⟩
def NW (w:World):Prop:=∃ t fr,w.heap[3]?=some (.cells #[.int .i64 (-1),.int .i64 0] t fr)
theorem NW.lt {w:World} (h:NW w):3 < w.heap.size:=by
 obtain ⟨t,fr,h⟩:=h;exact (Array.getElem?_eq_some_iff.1 h).1
theorem NW.later {w w':World} {B:Nat} (h:NW w) (hB:3 < B) (hb:Below B w w'):NW w':=by
 obtain ⟨t,fr,h⟩:=h;exact ⟨t,fr,(hb.block 3 hB).trans h⟩
theorem NW.below {w w':World} (h:NW w) (hb:Below w.heap.size w w'):NW w':=h.later h.lt hb
theorem NW.cells {w:World} (h:NW w):w.cell? ⟨3,0,none⟩=some (.int .i64 (-1))∧w.cell? ⟨3,1,none⟩=some (.int .i64 0):=by
 obtain ⟨t,fr,h⟩:=h;simp[World.cell?,h]
def zfc (at_:Int) (acc:Se×Int) (p:Se):Se×Int:=if p.at_=at_∧0 < acc.2 then (p,acc.2 - 1) else acc
def lwR (at_ most:Int) (ps:List Se):Se×Int:=ps.foldl (zfc at_) (⟨-1,0⟩,most)
def zog (at_ most:Int) (ps:List Se):Se:=(lwR at_ most ps).1
theorem zrb (at_ most:Int) (ps:List Se) (p:Se):lwR at_ most (ps ++ [p])=zfc at_ (lwR at_ most ps) p:=by simp[lwR]
theorem yabb {at_ most:Int} {ps:List Se} {m:Nat} (hm:m < ps.length) (h:ps[m].at_=at_) (h0:0 < (lwR at_ most (ps.take m)).2):lwR at_ most (ps.take (m+1))=(ps[m],(lwR at_ most (ps.take m)).2 - 1):=by
 rw[zhq ps m hm,zrb];unfold zfc;rw[if_pos ⟨h,h0⟩]
theorem zqk {at_ most:Int} {ps:List Se} {m:Nat} (hm:m < ps.length) (h:¬ (ps[m].at_=at_∧0 < (lwR at_ most (ps.take m)).2)):lwR at_ most (ps.take (m+1))=lwR at_ most (ps.take m):=by
 rw[zhq ps m hm,zrb];unfold zfc;rw[if_neg h]
structure LwInv (w wr:World) (s:Se):Prop where
 last:wr.heap[w.heap.size+1]?=some (.cells #[.int .i64 s.at_,.int .i64 s.val] 208 (0,0))
 res:wr.heap[w.heap.size]?=some (.cells #[.int .i64 0,.int .i64 0] 208 (0,0))
 below:Below w.heap.size w wr
theorem LwInv.alloc {w wr:World} {s:Se} (h:LwInv w wr s) (o:Obj):LwInv w (wr.alloc o) s :=
 ⟨zao h.last,zao h.res,h.below.alloc h.below.size o⟩
theorem LwInv.set {w wr:World} {s:Se} (h:LwInv w wr s) (p:Se):LwInv w ((wr.setCell ⟨w.heap.size+1,0,none⟩ (.int .i64 p.at_)).setCell ⟨w.heap.size+1,1,none⟩ (.int .i64 p.val)) p :=
 ⟨zxh (zcx h.last _) _,by rw[Below.heap_setCell _ _ _ _ (by simp only;omega),Below.heap_setCell _ _ _ _ (by simp only;omega)];exact h.res,(h.below.setCell (by simp only;omega) _).setCell (by simp only;omega) _⟩
theorem zkm (v:Value) (ps:List Se) (at_ most:Int) (w:World) (h:RdE w v ps) (hG:NW w) (hp:ps.length≤1048576) (h0:0≤most) (h1:most≤400) :
  Calls Tryz.prog 215 #[v,.int .i64 at_,.int .i64 most] w fun e w'=>e=.returned (.agg #[.int .i64 (zog at_ most ps).at_,.int .i64 (zog at_ most ps).val])∧Below w.heap.size w w':=by
 obtain ⟨aP,cP,rfl,_,hcP⟩:=h.shape;have HP:=zaa hcP;have hw0:=hG.lt;have hb0:Below w.heap.size w (w.alloc (.cells #[.int .i64 0,.int .i64 0] 208)):=(Below.refl _ _).alloc (Nat.le_refl _) _;obtain ⟨g0,g1⟩:=(hG.below hb0).cells
 have INV:Hid (LwInv w ((w.alloc (.cells #[.int .i64 0,.int .i64 0] 208)).alloc (.cells #[.int .i64 (-1),.int .i64 0] 208)) (lwR at_ most (ps.take 0)).1) :=
  ⟨zae (by simp),zao (zae rfl),hb0.alloc (by simp) _⟩
 clear h hcP hb0;go_enter Tryz.func215,Tryz.ntmps215;go_wp2
 go_loopw [2,9,13] (fun mo _ i wr=>∃ m:Nat,m≤ps.length∧i=.int .i64 m∧mo=.int .i64 (lwR at_ most (ps.take m)).2∧(0≤(lwR at_ most (ps.take m)).2∧(lwR at_ most (ps.take m)).2≤most)∧Hid (LwInv w wr (lwR at_ most (ps.take m)).1)) (fun _ _ i _=>ps.length - (intOf i).toNat)
 case atStart=>exact ⟨0,by omega,rfl,rfl,⟨h0,Int.le_refl _⟩,INV⟩
 case round =>
  obtain ⟨m,hm,rfl,rfl,⟨hm0,hm1⟩,I⟩:=hrel
  by_cases hlt:m < ps.length
  ·obtain ⟨b,o,rfl,hbl,hcell⟩:=HP.o (by omega);obtain ⟨c0,c1⟩:=hcell m hlt;have d0:=(I.o.below.cell (p:=⟨b,o+m*2,none⟩) hbl).trans c0;have d1:=(I.o.below.cell (p:=⟨b,o+m*2+1,none⟩) hbl).trans c1;have hzr:w.heap.size+2≤wr.heap.size:=(Array.getElem?_eq_some_iff.1 I.o.last).1;obtain ⟨y0,y1,y2,y3⟩:=zac (zao (o:=.cells #[.int .i64 ps[m].at_,.int .i64 ps[m].val] 208) I.o.last);clear hcell c0 c1
   by_cases q:ps[m].at_=at_
   ·have q':(ps[m].at_ == at_)=true:=by simpa using q
    by_cases q2:0 < (lwR at_ most (ps.take m)).2
    ·have E:=zaa (yabb hlt q q2);have I1:=zaa ((I.o.alloc (.cells #[.int .i64 ps[m].at_,.int .i64 ps[m].val] 208)).set ps[m]);have I2:=zaa ((I.o.set ps[m]).alloc (.cells #[.int .i64 ps[m].at_,.int .i64 ps[m].val] 208));generalize (lwR at_ most (ps.take m)).2=mo at *;clear q;go_wp2
     go_roundw
     case rel =>
      refine ⟨m+1,by omega,by go_num,?_,?_,?_⟩
      ·rw[E.o]
      ·rw[E.o];exact ⟨by show 0≤mo - 1;omega,by show mo - 1≤most;omega⟩
      ·rw[E.o]
       first | exact I1 | exact I2
     case measure=>simp[intOf];omega
    ·have E:=zaa (zqk hlt (fun c=>q2 c.2));have I1:=zaa (I.o.alloc (.cells #[.int .i64 ps[m].at_,.int .i64 ps[m].val] 208))
     have e0:(lwR at_ most (ps.take m)).2=0:=by omega
     have E0:=zaa e0;rw[e0];clear e0 q q2;go_wp2
     go_roundw
     case rel =>
      refine ⟨m+1,by omega,by go_num,?_,?_,?_⟩
      ·rw[E.o,E0.o]
      ·rw[E.o];exact ⟨hm0,hm1⟩
      ·rw[E.o];exact I1
     case measure=>simp[intOf];omega
   ·have q':(ps[m].at_ == at_)=false:=by simpa using q
    have E:=zaa (zqk (most:=most) hlt (fun c=>q c.1));have I1:=zaa (I.o.alloc (.cells #[.int .i64 ps[m].at_,.int .i64 ps[m].val] 208));clear q;go_wp2
    go_roundw
    case rel =>
     refine ⟨m+1,by omega,by go_num,?_,?_,?_⟩
     ·rw[E.o]
     ·rw[E.o];exact ⟨hm0,hm1⟩
     ·rw[E.o];exact I1
    case measure=>simp[intOf];omega
  ·have e:m=ps.length:=by omega
   subst e;rw[List.take_length] at I;obtain ⟨y0,y1,y2,y3⟩:=zac I.o.last;obtain ⟨t0,t1,t2,t3⟩:=zac I.o.res;go_wp2;refine bodyPost_ret (v:=.agg #[.int .i64 (lwR at_ most ps).1.at_,.int .i64 (lwR at_ most ps).1.val]) (by simp[results,Tryz.results215,go_sem,t0,t1]) rfl ?_;exact ⟨rfl,(I.o.below.setCell (by simp only;omega) _).setCell (by simp only;omega) _⟩
end Go.Proofs.YtbohndgbfbfldaaGreatDoor
