/- Several texts laid together: LastW, BlkReadI, DuC. -/
import Derived.Test.YtehnphoeplmpdaaGreatDoorZAX
import Derived.Test.YtehnphoeplmpdaaGreatDoorZBL
import Derived.Test.YtehnphoeplmpdaaGreatDoorZAU
import Derived.Test.YtehnphoeplmpdaaGreatDoorZAB
import Derived.Deep.RegionHeld3
set_option maxRecDepth 100000
set_option maxHeartbeats 8000000
namespace Go.Proofs.YtehnphoeplmpdaaGreatDoor
open Go.RowKit
def NW (w:World):Prop:=∃ t fr,w.heap[2]?=some (.cells #[.int .i64 (-1),.int .i64 0] t fr)
theorem NW.lt {w:World} (h:NW w):2 < w.heap.size:=by
 obtain ⟨t,fr,h⟩:=h;exact (Array.getElem?_eq_some_iff.1 h).1
theorem NW.later {w w':World} {B:Nat} (h:NW w) (hB:2 < B) (hb:Below B w w'):NW w':=by
 obtain ⟨t,fr,h⟩:=h;exact ⟨t,fr,(hb.block 2 hB).trans h⟩
theorem NW.below {w w':World} (h:NW w) (hb:Below w.heap.size w w'):NW w':=h.later h.lt hb
theorem NW.cells {w:World} (h:NW w):w.cell? ⟨2,0,none⟩=some (.int .i64 (-1))∧w.cell? ⟨2,1,none⟩=some (.int .i64 0):=by
 obtain ⟨t,fr,h⟩:=h;simp[World.cell?,h]
def zkl (at_:Int) (acc:Se×Int) (p:Se):Se×Int:=if p.at_=at_∧0 < acc.2 then (p,acc.2 - 1) else acc
def lwR (at_ most:Int) (ps:List Se):Se×Int:=ps.foldl (zkl at_) (⟨-1,0⟩,most)
def zuo (at_ most:Int) (ps:List Se):Se:=(lwR at_ most ps).1
theorem yabi (at_ most:Int) (ps:List Se) (p:Se):lwR at_ most (ps ++ [p])=zkl at_ (lwR at_ most ps) p:=by simp[lwR]
theorem yapi {at_ most:Int} {ps:List Se} {m:Nat} (hm:m < ps.length) (h:ps[m].at_=at_) (h0:0 < (lwR at_ most (ps.take m)).2):lwR at_ most (ps.take (m+1))=(ps[m],(lwR at_ most (ps.take m)).2 - 1):=by
 rw[znw ps m hm,yabi];unfold zkl;rw[if_pos ⟨h,h0⟩]
theorem yabg {at_ most:Int} {ps:List Se} {m:Nat} (hm:m < ps.length) (h:¬ (ps[m].at_=at_∧0 < (lwR at_ most (ps.take m)).2)):lwR at_ most (ps.take (m+1))=lwR at_ most (ps.take m):=by
 rw[znw ps m hm,yabi];unfold zkl;rw[if_neg h]
structure LwInv (w wr:World) (s:Se):Prop where
 last:wr.heap[w.heap.size+1]?=some (.cells #[.int .i64 s.at_,.int .i64 s.val] 193 (0,0))
 res:wr.heap[w.heap.size]?=some (.cells #[.int .i64 0,.int .i64 0] 193 (0,0))
 below:Below w.heap.size w wr
theorem LwInv.alloc {w wr:World} {s:Se} (h:LwInv w wr s) (o:Obj):LwInv w (wr.alloc o) s :=
 ⟨zat h.last,zat h.res,h.below.alloc h.below.size o⟩
theorem LwInv.set {w wr:World} {s:Se} (h:LwInv w wr s) (p:Se):LwInv w ((wr.setCell ⟨w.heap.size+1,0,none⟩ (.int .i64 p.at_)).setCell ⟨w.heap.size+1,1,none⟩ (.int .i64 p.val)) p :=
 ⟨yama (zte h.last _) _,by rw[Below.heap_setCell _ _ _ _ (by simp only;omega),Below.heap_setCell _ _ _ _ (by simp only;omega)];exact h.res,(h.below.setCell (by simp only;omega) _).setCell (by simp only;omega) _⟩
theorem ztx (v:Value) (ps:List Se) (at_ most:Int) (w:World) (h:RdE w v ps) (hG:NW w) (hp:ps.length≤1048576) (h0:0≤most) (h1:most≤400) :
  Calls Tryz.prog 241 #[v,.int .i64 at_,.int .i64 most] w fun e w'=>e=.returned (.agg #[.int .i64 (zuo at_ most ps).at_,.int .i64 (zuo at_ most ps).val])∧Below w.heap.size w w':=by
 obtain ⟨aP,cP,rfl,_,hcP⟩:=h.shape;have HP:=zaa hcP;have hw0:=hG.lt;have hb0:Below w.heap.size w (w.alloc (.cells #[.int .i64 0,.int .i64 0] 193)):=(Below.refl _ _).alloc (Nat.le_refl _) _;obtain ⟨g0,g1⟩:=(hG.below hb0).cells
 have INV:Hid (LwInv w ((w.alloc (.cells #[.int .i64 0,.int .i64 0] 193)).alloc (.cells #[.int .i64 (-1),.int .i64 0] 193)) (lwR at_ most (ps.take 0)).1) :=
  ⟨zah (by simp),zat (zah rfl),hb0.alloc (by simp) _⟩
 clear h hcP hb0;go_enter Tryz.func241,Tryz.ntmps241;go_wp2
 go_loopw [2,9,13] (fun mo _ i wr=>∃ m:Nat,m≤ps.length∧i=.int .i64 m∧mo=.int .i64 (lwR at_ most (ps.take m)).2∧(0≤(lwR at_ most (ps.take m)).2∧(lwR at_ most (ps.take m)).2≤most)∧Hid (LwInv w wr (lwR at_ most (ps.take m)).1)) (fun _ _ i _=>ps.length - (intOf i).toNat)
 case atStart=>exact ⟨0,by omega,rfl,rfl,⟨h0,Int.le_refl _⟩,INV⟩
 case round =>
  obtain ⟨m,hm,rfl,rfl,⟨hm0,hm1⟩,I⟩:=hrel
  by_cases hlt:m < ps.length
  ·obtain ⟨b,o,rfl,hbl,hcell⟩:=HP.o (by omega);obtain ⟨c0,c1⟩:=hcell m hlt;have d0:=(I.o.below.cell (p:=⟨b,o+m*2,none⟩) hbl).trans c0;have d1:=(I.o.below.cell (p:=⟨b,o+m*2+1,none⟩) hbl).trans c1;have hzr:w.heap.size+2≤wr.heap.size:=(Array.getElem?_eq_some_iff.1 I.o.last).1;obtain ⟨y0,y1,y2,y3⟩:=zac (zat (o:=.cells #[.int .i64 ps[m].at_,.int .i64 ps[m].val] 193) I.o.last);clear hcell c0 c1
   by_cases q:ps[m].at_=at_
   ·have q':(ps[m].at_ == at_)=true:=by simpa using q
    by_cases q2:0 < (lwR at_ most (ps.take m)).2
    ·have E:=zaa (yapi hlt q q2);have I1:=zaa ((I.o.alloc (.cells #[.int .i64 ps[m].at_,.int .i64 ps[m].val] 193)).set ps[m]);have I2:=zaa ((I.o.set ps[m]).alloc (.cells #[.int .i64 ps[m].at_,.int .i64 ps[m].val] 193));generalize (lwR at_ most (ps.take m)).2=mo at *;clear q;go_wp2
     go_roundw
     case rel =>
      refine ⟨m+1,by omega,by go_num,?_,?_,?_⟩
      ·rw[E.o]
      ·rw[E.o];exact ⟨by show 0≤mo - 1;omega,by show mo - 1≤most;omega⟩
      ·rw[E.o]
       first | exact I1 | exact I2
     case measure=>simp[intOf];omega
    ·have E:=zaa (yabg hlt (fun c=>q2 c.2));have I1:=zaa (I.o.alloc (.cells #[.int .i64 ps[m].at_,.int .i64 ps[m].val] 193))
     have e0:(lwR at_ most (ps.take m)).2=0:=by omega
     have E0:=zaa e0;rw[e0];clear e0 q q2;go_wp2
     go_roundw
     case rel =>
      refine ⟨m+1,by omega,by go_num,?_,?_,?_⟩
      ·rw[E.o,E0.o]
      ·rw[E.o];exact ⟨hm0,hm1⟩
      ·rw[E.o];exact I1
     case measure=>simp[intOf];omega
   ·have q':(ps[m].at_ == at_)=false:=by simpa using q
    have E:=zaa (yabg (most:=most) hlt (fun c=>q c.1));have I1:=zaa (I.o.alloc (.cells #[.int .i64 ps[m].at_,.int .i64 ps[m].val] 193));clear q;go_wp2
    go_roundw
    case rel =>
     refine ⟨m+1,by omega,by go_num,?_,?_,?_⟩
     ·rw[E.o]
     ·rw[E.o];exact ⟨hm0,hm1⟩
     ·rw[E.o];exact I1
    case measure=>simp[intOf];omega
  ·have e:m=ps.length:=by omega
   subst e;rw[List.take_length] at I;obtain ⟨y0,y1,y2,y3⟩:=zac I.o.last;obtain ⟨t0,t1,t2,t3⟩:=zac I.o.res;go_wp2;refine bodyPost_ret (v:=.agg #[.int .i64 (lwR at_ most ps).1.at_,.int .i64 (lwR at_ most ps).1.val]) (by simp[results,Tryz.results241,go_sem,t0,t1]) rfl ?_;exact ⟨rfl,(I.o.below.setCell (by simp only;omega) _).setCell (by simp only;omega) _⟩
theorem zjh (at_:Int):∀ (ps:List Se) (s:Se) (mo:Int),(ps.length:Int)≤mo→((∀ p∈ps,¬ p.at_=at_)∧(ps.foldl (zkl at_) (s,mo)).1=s)∨((ps.foldl (zkl at_) (s,mo)).1.at_=at_∧∀ d,zgc at_ d ps=(ps.foldl (zkl at_) (s,mo)).1.val)
 | [],s,mo,_=>.inl ⟨by simp,rfl⟩
 | p :: ps,s,mo,h=>by
  have h':(ps.length:Int)+1≤mo:=by simpa using h
  by_cases c:p.at_=at_
  ·have e:zkl at_ (s,mo) p=(p,mo - 1):=if_pos ⟨c,by show 0 < mo;omega⟩;rw[List.foldl_cons,e]
   rcases zjh at_ ps p (mo - 1) (by omega) with ⟨h1,h2⟩ | ⟨h1,h2⟩
   ·right;rw[h2];refine ⟨c,fun d=>?_⟩
    show zgc at_ (if p.at_=at_ then p.val else d) ps=p.val
    rw[if_pos c];exact zfw h1
   ·exact .inr ⟨h1,fun d=>h2 _⟩
  ·have e:zkl at_ (s,mo) p=(s,mo):=if_neg (fun x=>c x.1);rw[List.foldl_cons,e]
   rcases zjh at_ ps s mo (by omega) with ⟨h1,h2⟩ | ⟨h1,h2⟩
   ·left;refine ⟨fun q hq=>?_,h2⟩
    rcases List.mem_cons.1 hq with rfl | hq
    ·exact c
    ·exact h1 q hq
   ·exact .inr ⟨h1,fun d=>h2 _⟩
theorem yadh {at_:Int} {ps:List Se} (h:ps.length≤400):((∀ p∈ps,¬ p.at_=at_)∧zuo at_ 400 ps=⟨-1,0⟩)∨((zuo at_ 400 ps).at_=at_∧∀ d,zgc at_ d ps=(zuo at_ 400 ps).val) :=
 zjh at_ ps ⟨-1,0⟩ 400 (by omega)
theorem zou (v:Value) (ws:List Int) (ps:List Se) (at_:Int) (w:World) (h:RdBlk w v ws ps) (hG:NW w) (hw:ws.length≤1048576) (hp:ps.length≤1048576) :
  Calls Tryz.prog 174 #[v,.int .i64 at_] w fun e w'=>e=.returned (.tuple #[.int .i64 (zyu ws ps at_),.int .i64 (zuc ws ps at_)])∧Below w.heap.size w w':=by
 have HR:=zaa h;obtain ⟨vW,vP,rfl,h1,h2⟩:=h;have H2:=zaa h2;obtain ⟨aW,cW,rfl,_,hcW⟩:=h1.shape;obtain ⟨aP,cP,rfl,_⟩:=h2.shape;clear h1 h2;have hb0:Below w.heap.size w (w.alloc (.cells #[.slice aW ws.length cW,.slice aP ps.length cP] 46)):=(Below.refl _ _).alloc (Nat.le_refl _) _
 rcases yact ws ps at_ with hc | ⟨hc,hok,k,rfl,hk,hkl⟩
 ·have hne:(zuc ws ps at_ != 0)=true:=by rcases hc with hc | hc <;> simp[hc]
  have E:=zaa (yahw (ws:=ws) (ps:=ps) (at_:=at_) (by rcases hc with hc | hc <;> simp[hc]));clear hc hcW;go_enter Tryz.func174,Tryz.ntmps174;go_wp2_with (go_at_call 240;refine (zhx _ ws ps _ _ (HR.o.below hb0) hw hp).mono ?_;rintro e w1 ⟨rfl,hb1⟩);go_ret2;exact ⟨zbt E.o.symm rfl,zab hb0 hb1 (by simp)⟩
 ·have E:=zaa (yaks hc hkl);have C:=zaa hc;obtain ⟨bW,oW,rfl,hbW,hcellW⟩:=hcW (by omega);have hcw:=zaa (hcellW k hkl);have LF:=zaa (yadh (at_:=(k:Int)) (ps:=ps) (znd hok).2);clear hc hcW hcellW;go_enter Tryz.func174,Tryz.ntmps174;go_wp2_with fail;refine (zhx _ ws ps _ _ (HR.o.below hb0) hw hp).mono ?_;rw[C.o];rintro e w1 ⟨rfl,hb1⟩;have V1:=(hb1.block w.heap.size (by simp)).trans (zah rfl);obtain ⟨x1,x2,_,_⟩:=zac V1;have B1:=zaa (zab hb0 hb1 (by simp))
  have hz1:w.heap.size+1≤w1.heap.size:=by have:=hb1.size;simp at this;omega
  have VH:=zaa V1;have G1:=zaa (hG.below B1.o);clear V1 hb1 hb0;go_wp2_with fail;refine (ztx _ ps _ _ _ (Rd.below H2.o B1.o) G1.o hp (by omega) (by omega)).mono ?_
  rcases LF.o with ⟨hn,hl⟩ | ⟨ha,hl⟩
  ·rw[hl];rintro e w2 ⟨rfl,hb2⟩;have hz2:=hb2.size;have B2:=zaa (zab B1.o hb2 (by omega))
   have hb3:=zab B1.o hb2 (by omega) |>.alloc (by omega) (.cells #[.int .i64 (-1),.int .i64 0] 193)
   obtain ⟨g0,g1⟩:=((G1.o.below hb2).below ((Below.refl _ _).alloc (Nat.le_refl _) (.cells #[.int .i64 (-1),.int .i64 0] 193))).cells;obtain ⟨x1',x2',_,_⟩:=zac (zat (o:=.cells #[.int .i64 (-1),.int .i64 0] 193) ((hb2.block w.heap.size (by omega)).trans VH.o));have hcw1:=(hb3.cell (p:=⟨bW,oW+k,none⟩) hbW).trans hcw.o;have B3:=zaa hb3;have E2:=zaa (zfw (d:=ws[k]) hn);clear hb2 hb3 hn hl x1 x2;go_wp2;go_ret2;exact ⟨zbt (E.o.trans E2.o).symm C.o.symm,B3.o⟩
  ·rw[ha];rintro e w2 ⟨rfl,hb2⟩;have hz2:=hb2.size
   have hb3:=zab B1.o hb2 (by omega) |>.alloc (by omega) (.cells #[.int .i64 (k:Int),.int .i64 (zuo (k:Int) 400 ps).val] 193)
   obtain ⟨g0,g1⟩:=((G1.o.below hb2).below ((Below.refl _ _).alloc (Nat.le_refl _) (.cells #[.int .i64 (k:Int),.int .i64 (zuo (k:Int) 400 ps).val] 193))).cells;have B3:=zaa hb3;have E2:=zaa (hl ws[k])
   have kn:((k:Int) == -1)=false:=by first | (simp;done) | (simp;omega)
   clear hb2 hb3 ha hl x1 x2;generalize (zuo (k:Int) 400 ps).val=y at *;go_wp2;go_ret2;exact ⟨zbt (E.o.trans E2.o).symm C.o.symm,B3.o⟩
theorem zwx {ws:List Int} {ps:List St} (h:pmB ws ps=true) {k:Nat} (hk:k < 24):zyk ws ps (312+(k:Int))=ldW ws ps (312+k)∧zue ws ps (312+(k:Int))=0:=by
 have p:zbn (312+(k:Int))=true:=decide_eq_true (by omega)
 have a:zue ws ps (312+(k:Int))=0:=by unfold zue;rw[h,p];rfl
 refine ⟨?_,a⟩;unfold zyk ldW;rw[if_pos a,show (312+(k:Int)).toNat=312+k by omega,show ((312+k:Nat):Int)=312+(k:Int) by omega]
theorem zvc {es:List Int} {qs:List Se} (h:zin es qs=true) {k:Nat} (hk:k < 32):zyu es qs (k:Int)=zgc (k:Int) (es[k]?.getD 0) qs∧zuc es qs (k:Int)=0:=by
 have p:zmh (k:Int)=true:=decide_eq_true (by omega)
 have a:zuc es qs (k:Int)=0:=by unfold zuc;rw[h,p];rfl
 refine ⟨?_,a⟩;unfold zyu;rw[if_pos a,Int.toNat_natCast]
theorem zxu (v:Value) (ws:List Int) (ps:List St) (es:List Int) (qs:List Se) (e:Int) (w:World) (h:RdDev w v ws ps es qs) (hP:pmB ws ps=true) (hB:zin es qs=true) (te:zfu e=true) (hT:TS w) (hN:NW w) :
  Calls Tryz.prog 98 #[v,.int .i64 e] w fun r w'=>r=.returned (.int .i64 (pgV ws ps es qs e))∧Below w.heap.size w w':=by
 obtain ⟨aW,cW,aP,cP,aS,cS,aQ,cQ,rfl,h1,h2⟩:=h.form
 have te':0≤e∧((e % 4=0∧e / 4=0)∨(e % 4=1∧0≤e / 4∧e / 4 < 24)∨(e % 4=2∧0≤e / 4∧e / 4 < 32)):=by
  unfold zfu zfe at te;rw[Bool.and_eq_true,decide_eq_true_eq,decide_eq_true_eq] at te;exact te
 have wl:=zlg hP;have el:=znd hB;have BW:Hid (Below w.heap.size w (w.alloc (.cells #[.slice aW ws.length cW,.slice aP ps.length cP,.slice aS es.length cS,.slice aQ qs.length cQ] 48))):=(Below.refl _ _).alloc (Nat.le_refl _) _
 have LT:Hid (∀ w1,Below w.heap.size w w1→Calls Tryz.prog 172 #[.int .i64 e] w1 fun r w'=>r=.returned (.tuple #[.int .i64 (e % 4),.int .i64 (e / 4),.int .i64 0])∧w'=w1):=fun w1 hb=>by
  have q:=zdv e w1 (hT.below hb) (by omega) (by omega);rw[(zrw te).1,(zrw te).2.1,(zrw te).2.2] at q;exact q
 have EV:=zaa (show pgV ws ps es qs e=if e % 4=1 then ldW ws ps (312+e / 4).toNat else if e % 4=2 then zgc (e / 4) (es[(e / 4).toNat]?.getD 0) qs else 0 from rfl)
 have L1:Hid (∀ (k:Nat),k < 24→∀ w1,Below w.heap.size w w1→Calls Tryz.prog 173 #[.agg #[.slice aW ws.length cW,.slice aP ps.length cP],.int .i64 (312+(k:Int))] w1 fun r w'=>r=.returned (.tuple #[.int .i64 (ldW ws ps (312+k)),.int .i64 0])∧Below w1.heap.size w1 w'):=fun k hk w1 hb=>by
  have:=zqp _ ws ps (312+(k:Int)) w1 (h1.below hb) (by omega) (by omega);rw[(zwx hP hk).1,(zwx hP hk).2] at this;exact this
 have L2:Hid (∀ (k:Nat),k < 32→∀ w1,Below w.heap.size w w1→Calls Tryz.prog 174 #[.agg #[.slice aS es.length cS,.slice aQ qs.length cQ],.int .i64 (k:Int)] w1 fun r w'=>r=.returned (.tuple #[.int .i64 (zgc (k:Int) (es[k]?.getD 0) qs),.int .i64 0])∧Below w1.heap.size w1 w'):=fun k hk w1 hb=>by
  have:=zou _ es qs (k:Int) w1 (h2.below hb) (hN.below hb) (by omega) (by omega);rw[(zvc hB hk).1,(zvc hB hk).2] at this;exact this
 clear h h1 h2 te hP hB wl el hT hN;generalize pgV ws ps es qs e=r at *;generalize e % 4=t at *;generalize e / 4=a at *
 rcases te'.2 with ⟨rfl,rfl⟩ | ⟨rfl,a0,a1⟩ | ⟨rfl,a0,a1⟩
 ·rw[if_neg (by omega),if_neg (by omega)] at EV;obtain rfl:=EV.o;clear te' L1 L2 EV;go_enter Tryz.func98,Tryz.ntmps98;go_wp2_with fail;refine (LT.o _ BW.o).mono ?_;rintro r w1 ⟨rfl,hw1⟩;subst w1;go_wp2;go_ret;exact ⟨rfl,BW.o⟩
 ·obtain ⟨k,rfl⟩:∃ k:Nat,a=(k:Int):=⟨a.toNat,by omega⟩
  rw[if_pos rfl,show (312+(k:Int)).toNat=312+k by omega] at EV;obtain rfl:=EV.o
  have k24:k < 24:=by omega
  have Q:=zaa (L1.o k k24);clear te' L1 L2 EV a0 a1;go_enter Tryz.func98,Tryz.ntmps98;go_wp2_with fail;refine (LT.o _ BW.o).mono ?_;rintro r w1 ⟨rfl,hw1⟩;subst w1;go_wp2_with fail;refine (Q.o _ BW.o).mono ?_;rintro r w2 ⟨rfl,hb2⟩;have B2:=zaa (zab BW.o hb2 BW.o.size);clear hb2;go_wp2;go_ret;exact ⟨rfl,B2.o⟩
 ·obtain ⟨k,rfl⟩:∃ k:Nat,a=(k:Int):=⟨a.toNat,by omega⟩
  rw[if_neg (by omega),if_pos rfl,Int.toNat_natCast] at EV;obtain rfl:=EV.o
  have k32:k < 32:=by omega
  have Q:=zaa (L2.o k k32);clear te' L1 L2 EV a0 a1;go_enter Tryz.func98,Tryz.ntmps98;go_wp2_with fail;refine (LT.o _ BW.o).mono ?_;rintro r w1 ⟨rfl,hw1⟩;subst w1;go_wp2_with fail;refine (Q.o _ BW.o).mono ?_;rintro r w2 ⟨rfl,hb2⟩;have B2:=zaa (zab BW.o hb2 BW.o.size);clear hb2;go_wp2;go_ret;exact ⟨rfl,B2.o⟩
theorem yaoh {ws:List Int} {ps:List St} {es:List Int} {qs:List Se} {s:ByteArray} {page:Int}:rpR ws ps es qs s page=if (flR (dvN ws ps es qs) (dvD ws ps es qs) s).2=0 then rpF ws ps es qs (dvN ws ps es qs) (flR (dvN ws ps es qs) (dvD ws ps es qs) s).1 page else (0,(flR (dvN ws ps es qs) (dvD ws ps es qs) s).2):=by
 unfold rpR flR;rw[zmr]
 by_cases c:65536 < s.size
 ·rw[if_pos c,if_pos c];rfl
 ·rw[if_neg c,if_neg c]
  by_cases d:dvB ws ps es qs=true
  ·rw[if_pos d,if_pos d,← (zdk d).2.2.1,← (zdk d).2.2.2.1];rfl
  ·rw[if_neg d,if_neg d];rfl
theorem yarj {ws:List Int} {ps:List St} {es:List Int} {qs:List Se} {s:ByteArray} (h:(flR (dvN ws ps es qs) (dvD ws ps es qs) s).2=0):pmB ws ps=true∧zin es qs=true∧zay (dvN ws ps es qs) (dvD ws ps es qs)=true∧∃ i:Nat,i < 16∧(flR (dvN ws ps es qs) (dvD ws ps es qs) s).1=(i:Int):=by
 obtain ⟨hi,-,e⟩:=yaaf h
 have d:dvB ws ps es qs=true:=by rw[← zmr];exact hi
 rw[e] at h ⊢;obtain ⟨i,h16,ei,-⟩:=zlh (zca.1 hi) h;exact ⟨(zdk d).1,(zdk d).2.1,hi,i,h16,ei⟩
def Ino.fa (x:Ino) (i:Int):List Value:=[.int .i64 x.kind,.int .i64 x.size,.int .i64 x.links,.int .i64 x.m0,.int .i64 x.m1,.int .i64 x.m2,.int .i64 x.m3,.int .i64 x.m4,.int .i64 x.m5,.int .i64 x.m6,.int .i64 x.m7,.int .i64 i]
theorem Ino.faM (x:Ino) (i:Int) (m:Nat) (hm:m < 8):(x.fa i)[3+m]?=some (.int .i64 (x.map.getD m 0)):=by
 rcases (show m=0∨m=1∨m=2∨m=3∨m=4∨m=5∨m=6∨m=7 by omega) with rfl | rfl | rfl | rfl | rfl | rfl | rfl | rfl <;> rfl
theorem zms (v:Value) (ws:List Int) (ps:List St) (es:List Int) (qs:List Se) (s:ByteArray) (page:Int) (w:World) (h:RdDev w v ws ps es qs) (hw:ws.length≤1048576) (hp:ps.length≤1048576) (he:es.length≤1048576) (hq:qs.length≤1048576) (hT:TS w) (hE:ED w) (hF:FD w) (hN:NW w) :
  Calls Tryz.prog 39 #[v,.string s,.int .i64 page] w fun e w'=>e=.returned (.tuple #[.int .i64 (rpR ws ps es qs s page).1,.int .i64 (rpR ws ps es qs s page).2])∧Below w.heap.size w w':=by
 have LI:=zaa (fun w1 (hb:Below w.heap.size w w1)=>zgq v ws ps es qs w1 (h.below hb) hw hp he hq (hT.below hb) (hE.below hb) (hF.below hb));have LF:=zaa (fun v2 w1 (hb:Below w.heap.size w w1) h2=>zqs v2 (dvN ws ps es qs) (dvD ws ps es qs) s page w1 h2 (zez ws ps es qs).1 (zez ws ps es qs).2 (hT.below hb) (hE.below hb) (hF.below hb) dv_R zju);have LV:=zaa (fun hP hB w1 (hb:Below w.heap.size w w1) z (hz:zfu z=true)=>zxu v ws ps es qs z w1 (h.below hb) hP hB hz (hT.below hb) (hN.below hb));have EL:=zaa (yaoh (ws:=ws) (ps:=ps) (es:=es) (qs:=qs) (s:=s) (page:=page));have FL:=zaa (fun h=>yarj (ws:=ws) (ps:=ps) (es:=es) (qs:=qs) (s:=s) h)
 have EF:Hid (∀ i:Nat,∀ x,x=zci (dvN ws ps es qs) i→rpF ws ps es qs (dvN ws ps es qs) (i:Int) page=if 0≤page∧page < x.size then (pgV ws ps es qs (x.map.getD page.toNat 0),0) else (0,4)):=fun i x e=>by rw[e];rfl
 have OK:Hid (zay (dvN ws ps es qs) (dvD ws ps es qs)=true→∀ i:Nat,i < 16→∀ x,x=zci (dvN ws ps es qs) i→(0≤x.size∧x.size≤8)∧∀ j:Nat,j < 8→zfu (x.map.getD j 0)=true):=fun hi i h16 x e=>by
  have q:=(zca.1 hi).ok i h16;rw[← e] at q;refine ⟨(zft q).2.1,fun j hj=>(zig q).1 _ ?_⟩;rw[List.getD_eq_getElem?_getD,List.getElem?_eq_getElem (show j < x.map.length from hj)];exact List.getElem_mem _
 obtain ⟨dW,eW,dP,eP,dS,eS,dQ,eQ,rfl,-,-⟩:=h.form;clear h hT hE hF hN
 obtain ⟨W,hW⟩:∃ W,W=w.alloc (.cells #[.slice dW ws.length eW,.slice dP ps.length eP,.slice dS es.length eS,.slice dQ qs.length eQ] 48):=⟨_,rfl⟩
 have CD:Hid (∀ w',Below W.heap.size W w'→w'.cell? ⟨w.heap.size,0,none⟩=some (.slice dW ws.length eW)∧w'.cell? ⟨w.heap.size,1,none⟩=some (.slice dP ps.length eP)∧w'.cell? ⟨w.heap.size,2,none⟩=some (.slice dS es.length eS)∧w'.cell? ⟨w.heap.size,3,none⟩=some (.slice dQ qs.length eQ)):=fun w' hb=>by
  have:w'.heap[w.heap.size]?=some (.cells #[.slice dW ws.length eW,.slice dP ps.length eP,.slice dS es.length eS,.slice dQ qs.length eQ] 48 (0,0)):=(hb.block _ (by rw[hW];simp)).trans (by rw[hW];exact zah rfl);obtain ⟨x0,x1,x2,x3,-,-,-,-⟩:=zax this;exact ⟨x0,x1,x2,x3⟩
 have BW:Hid (Below w.heap.size w W):=by rw[hW];exact (Below.refl _ _).alloc (Nat.le_refl _) _
 obtain ⟨x0,x1,x2,x3⟩:=CD.o _ (Below.refl _ _);generalize dvN ws ps es qs=dn at *;generalize dvD ws ps es qs=dd at *;generalize rpR ws ps es qs s page=res at *;generalize hfl:flR dn dd s=lr at *;obtain ⟨li,lc⟩:=lr
 obtain ⟨x,hx⟩:∃ x,x=faI dn (li,lc):=⟨_,rfl⟩
 have LF2:=zaa (fun v2 w1 hb h2=>LF.o v2 w1 hb h2 x li lc hx rfl);have HX:=zaa hx;simp only at EL FL;clear LF hfl hx
 -- nothing is read: the code is told
 have FAIL:∀ c:Int,¬ c=0→res=(0,c)→FtIs x li lc (0≤page∧page < x.size) zav 0 c→Calls Tryz.prog 39 #[.agg #[.slice dW ws.length eW,.slice dP ps.length eP,.slice dS es.length eS,.slice dQ qs.length eQ],.string s,.int .i64 page] w fun e w'=>e=.returned (.tuple #[.int .i64 res.1,.int .i64 res.2])∧Below w.heap.size w w':=by
  rintro c cn rfl hq;have LF3:=zaa (fun v2 w1 hb h2=>LF2.o v2 w1 hb h2 zav 0 c hq)
  have q:(c != 0)=true:=by rw[bne_iff_ne];exact cn
  clear EL FL EF OK LV HX LF2 hq cn;go_enter Tryz.func39,Tryz.ntmps39;go_wp2_with fail;rw[← hW];clear hW;refine (LI.o _ BW.o).mono ?_;rintro e w1 ⟨v1,rfl,hR,hb1⟩;have B1:=zaa (zab BW.o hb1 BW.o.size);have R1:=zaa hR.rd;clear hR hb1 x0 x1 x2 x3 LI;go_wp2_with fail;refine (LF3.o _ _ B1.o R1.o).mono ?_;rintro e w2 ⟨rfl,hb2⟩;have B2:=zaa (zab B1.o hb2 B1.o.size);have BX:=zaa (B2.o.alloc B2.o.size (.cells #[.int .i64 zav.kind,.int .i64 zav.size,.int .i64 zav.links,.int .i64 zav.m0,.int .i64 zav.m1,.int .i64 zav.m2,.int .i64 zav.m3,.int .i64 zav.m4,.int .i64 zav.m5,.int .i64 zav.m6,.int .i64 zav.m7,.int .i64 0] 148));clear hb2 B1 R1 LF3;go_wp2;go_ret2;exact ⟨rfl,BX.o⟩
 by_cases cl:lc=0
 case neg=>exact FAIL lc cl (by rw[if_neg cl] at EL;exact EL.o) (.inl ⟨cl,rfl,rfl,rfl⟩)
 subst cl;rw[if_pos rfl] at EL;obtain ⟨hP,hB,hi,i,i16,ei⟩:=FL.o rfl;have LV2:=zaa (LV.o hP hB);subst ei;have hx:x=zci dn i:=HX.o.trans ((if_pos rfl).trans (by simp only[Int.toNat_natCast]));obtain ⟨⟨z0,z8⟩,ti⟩:=OK.o hi i i16 x hx;have TI:=zaa ti;rw[EF.o i x hx] at EL
 by_cases c:0≤page∧page < x.size
 case neg=>exact FAIL 4 (by decide) (by rw[if_neg c] at EL;exact EL.o) (.inr (.inl ⟨rfl,c,rfl,rfl,rfl⟩))
 clear FAIL FL OK EF LV HX hP hB hi ti hx;rw[if_pos c] at EL;have LF3:=zaa (fun v2 w1 hb h2=>LF2.o v2 w1 hb h2 x i 0 (.inr (.inr ⟨rfl,c,rfl,rfl,rfl⟩)));clear LF2;go_enter Tryz.func39,Tryz.ntmps39;go_wp2_with fail;rw[← hW];clear hW;refine (LI.o _ BW.o).mono ?_;rintro e w1 ⟨v1,rfl,hR,hb1⟩;have A1:=zaa hb1;have B1:=zaa (zab BW.o hb1 BW.o.size);have R1:=zaa hR.rd;clear hR hb1 x0 x1 x2 x3 LI;go_wp2_with fail;refine (LF3.o _ _ B1.o R1.o).mono ?_;rintro e w2 ⟨rfl,hb2⟩;have A2:=zaa (zfh A1.o hb2);have B2:=zaa (zab B1.o hb2 B1.o.size);clear hb2 A1 B1 R1 LF3;have BX:=zaa (B2.o.alloc B2.o.size (.cells #[.int .i64 x.kind,.int .i64 x.size,.int .i64 x.links,.int .i64 x.m0,.int .i64 x.m1,.int .i64 x.m2,.int .i64 x.m3,.int .i64 x.m4,.int .i64 x.m5,.int .i64 x.m6,.int .i64 x.m7,.int .i64 (i:Int)] 148));have VX:Hid ((w2.alloc (.cells #[.int .i64 x.kind,.int .i64 x.size,.int .i64 x.links,.int .i64 x.m0,.int .i64 x.m1,.int .i64 x.m2,.int .i64 x.m3,.int .i64 x.m4,.int .i64 x.m5,.int .i64 x.m6,.int .i64 x.m7,.int .i64 (i:Int)] 148)).heap[w2.heap.size]?=some (.cells (x.fa (i:Int)).toArray 148 (0,0))):=zah rfl;have AX:=zaa (A2.o.alloc A2.o.size (.cells #[.int .i64 x.kind,.int .i64 x.size,.int .i64 x.links,.int .i64 x.m0,.int .i64 x.m1,.int .i64 x.m2,.int .i64 x.m3,.int .i64 x.m4,.int .i64 x.m5,.int .i64 x.m6,.int .i64 x.m7,.int .i64 (i:Int)] 148))
 obtain ⟨w3,hw3⟩:∃ w3,w3=w2.alloc (.cells #[.int .i64 x.kind,.int .i64 x.size,.int .i64 x.links,.int .i64 x.m0,.int .i64 x.m1,.int .i64 x.m2,.int .i64 x.m3,.int .i64 x.m4,.int .i64 x.m5,.int .i64 x.m6,.int .i64 x.m7,.int .i64 (i:Int)] 148):=⟨_,rfl⟩
 rw[← hw3] at VX AX BX;have hz3:w2.heap.size < w3.heap.size:=(Array.getElem?_eq_some_iff.1 VX.o).1
 have KS:Hid (∀ w',Below w3.heap.size w3 w'→w'.cell? ⟨w2.heap.size,1,none⟩=some (.int .i64 x.size)):=fun w' hb=>(hb.cell (p:=⟨w2.heap.size,1,none⟩) hz3).trans (zae VX.o 1).1
 have KM:Hid (∀ w',Below w3.heap.size w3 w'→∀ m,m < 8→w'.cell? ⟨w2.heap.size,3+m,none⟩=some (.int .i64 (x.map.getD m 0))):=fun w' hb m hm=>((hb.cell (p:=⟨w2.heap.size,3+m,none⟩) hz3).trans (zae VX.o (3+m)).1).trans (x.faM _ m hm)
 have y1:=KS.o _ (Below.refl _ _);clear VX A2 B2
 obtain ⟨j,rfl⟩:∃ j:Nat,page=(j:Int):=⟨page.toNat,by omega⟩
 rw[Int.toNat_natCast] at EL
 have j8:j < 8:=by omega
 have te:=zaa (TI.o j j8);have LV3:=zaa (fun w1 hb=>LV2.o w1 hb _ te.o)
 have j0:(0:Int)≤(j:Int):=by omega
 have j1:(j:Int) < 8:=by omega
 have KE:Hid (∀ w',Below w3.heap.size w3 w'→w'.cell? ⟨w.heap.size,0,none⟩=some (.slice dW ws.length eW)∧w'.cell? ⟨w.heap.size,1,none⟩=some (.slice dP ps.length eP)∧w'.cell? ⟨w.heap.size,2,none⟩=some (.slice dS es.length eS)∧w'.cell? ⟨w.heap.size,3,none⟩=some (.slice dQ qs.length eQ)∧w'.cell? ⟨w2.heap.size,3+j,none⟩=some (.int .i64 (x.map.getD j 0))):=fun w' hb=>by
  obtain ⟨a0,a1,a2,a3⟩:=CD.o w' (zfh AX.o hb);exact ⟨a0,a1,a2,a3,KM.o w' hb j j8⟩
 generalize x.map.getD j 0=pz at *;have B3r:=zaa (Below.refl w3.heap.size w3);obtain ⟨r0,r1,r2,r3,r4⟩:=KE.o _ B3r.o;rw[hw3] at r0 r1 r2 r3 r4;go_wp2_with fail;rw[← hw3] at r0 r1 r2 r3 r4 ⊢;clear hw3 c y1 KS KM TI te LV2 CD
 go_region_held3 (fun w'=>w'.cell? ⟨w.heap.size,0,none⟩=some (.slice dW ws.length eW)∧w'.cell? ⟨w.heap.size,1,none⟩=some (.slice dP ps.length eP)∧w'.cell? ⟨w.heap.size,2,none⟩=some (.slice dS es.length eS)∧w'.cell? ⟨w.heap.size,3,none⟩=some (.slice dQ qs.length eQ)∧w'.cell? ⟨w2.heap.size,3+j,none⟩=some (.int .i64 pz))
  (first | with_reducible exact KE.o _ A4.o | with_reducible exact KE.o _ B3r.o | with_reducible exact KE.o _ B3r.o.drew)
  (first
   | (go_at_call 98;refine (LV3.o _ (by first | with_reducible exact BX.o | with_reducible exact BX.o.drew)).mono ?_;rintro e w4 ⟨rfl,hb4⟩;have A4:=zaa (zcu hb4);clear hb4;obtain ⟨t0,t1,t2,t3,t4⟩:=KE.o _ A4.o))
 all_goals
  have B4:=zaa (zab BX.o A4.o BX.o.size);obtain rfl:=EL.o;go_wp2;go_ret2;exact ⟨rfl,B4.o⟩
end Go.Proofs.YtehnphoeplmpdaaGreatDoor
