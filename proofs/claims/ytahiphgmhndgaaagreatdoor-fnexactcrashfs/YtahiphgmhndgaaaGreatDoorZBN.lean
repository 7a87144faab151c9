/- Several texts laid together: LastW, BlkUnsI, BlkCrI. -/
import Derived.Test.YtahiphgmhndgaaaGreatDoorZAG
import Derived.Test.YtahiphgmhndgaaaGreatDoorZBC
import Derived.Deep.RegionWith
import Derived.Test.YtahiphgmhndgaaaGreatDoorZBD
import Derived.Test.YtahiphgmhndgaaaGreatDoorZBJ
set_option maxRecDepth 100000
set_option maxHeartbeats 8000000
namespace Go.Proofs.YtahiphgmhndgaaaGreatDoor
open Go.RowKit
def NW (w:World):Prop:=∃ t fr,w.heap[0]?=some (.cells #[.int .i64 (-1),.int .i64 0] t fr)
theorem NW.lt {w:World} (h:NW w):0 < w.heap.size:=by
 obtain ⟨t,fr,h⟩:=h;exact (Array.getElem?_eq_some_iff.1 h).1
theorem NW.later {w w':World} {B:Nat} (h:NW w) (hB:0 < B) (hb:Below B w w'):NW w':=by
 obtain ⟨t,fr,h⟩:=h;exact ⟨t,fr,(hb.block 0 hB).trans h⟩
theorem NW.below {w w':World} (h:NW w) (hb:Below w.heap.size w w'):NW w':=h.later h.lt hb
theorem NW.cells {w:World} (h:NW w):w.cell? ⟨0,0,none⟩=some (.int .i64 (-1))∧w.cell? ⟨0,1,none⟩=some (.int .i64 0):=by
 obtain ⟨t,fr,h⟩:=h;simp[World.cell?,h]
def zeg (at_:Int) (acc:Se×Int) (p:Se):Se×Int:=if p.at_=at_∧0 < acc.2 then (p,acc.2 - 1) else acc
def lwR (at_ most:Int) (ps:List Se):Se×Int:=ps.foldl (zeg at_) (⟨-1,0⟩,most)
def znn (at_ most:Int) (ps:List Se):Se:=(lwR at_ most ps).1
theorem yadz (at_ most:Int) (ps:List Se) (p:Se):lwR at_ most (ps ++ [p])=zeg at_ (lwR at_ most ps) p:=by simp[lwR]
theorem yary {at_ most:Int} {ps:List Se} {m:Nat} (hm:m < ps.length) (h:ps[m].at_=at_) (h0:0 < (lwR at_ most (ps.take m)).2):lwR at_ most (ps.take (m+1))=(ps[m],(lwR at_ most (ps.take m)).2 - 1):=by
 rw[zbd ps m hm,yadz];unfold zeg;rw[if_pos ⟨h,h0⟩]
theorem yacy {at_ most:Int} {ps:List Se} {m:Nat} (hm:m < ps.length) (h:¬ (ps[m].at_=at_∧0 < (lwR at_ most (ps.take m)).2)):lwR at_ most (ps.take (m+1))=lwR at_ most (ps.take m):=by
 rw[zbd ps m hm,yadz];unfold zeg;rw[if_neg h]
structure LwInv (w wr:World) (s:Se):Prop where
 last:wr.heap[w.heap.size+1]?=some (.cells #[.int .i64 s.at_,.int .i64 s.val] 150 (0,0))
 res:wr.heap[w.heap.size]?=some (.cells #[.int .i64 0,.int .i64 0] 150 (0,0))
 below:Below w.heap.size w wr
theorem LwInv.alloc {w wr:World} {s:Se} (h:LwInv w wr s) (o:Obj):LwInv w (wr.alloc o) s :=
 ⟨zal h.last,zal h.res,h.below.alloc h.below.size o⟩
theorem LwInv.set {w wr:World} {s:Se} (h:LwInv w wr s) (p:Se):LwInv w ((wr.setCell ⟨w.heap.size+1,0,none⟩ (.int .i64 p.at_)).setCell ⟨w.heap.size+1,1,none⟩ (.int .i64 p.val)) p :=
 ⟨zga (zep h.last _) _,by rw[Below.heap_setCell _ _ _ _ (by simp only;omega),Below.heap_setCell _ _ _ _ (by simp only;omega)];exact h.res,(h.below.setCell (by simp only;omega) _).setCell (by simp only;omega) _⟩
theorem zfh (v:Value) (ps:List Se) (at_ most:Int) (w:World) (h:RdE w v ps) (hG:NW w) (hp:ps.length≤1048576) (h0:0≤most) (h1:most≤400) :
  Calls Tryz.prog 136 #[v,.int .i64 at_,.int .i64 most] w fun e w'=>e=.returned (.agg #[.int .i64 (znn at_ most ps).at_,.int .i64 (znn at_ most ps).val])∧Below w.heap.size w w':=by
 obtain ⟨aP,cP,rfl,_,hcP⟩:=h.shape;have HP:=zaa hcP;have hw0:=hG.lt;have hb0:Below w.heap.size w (w.alloc (.cells #[.int .i64 0,.int .i64 0] 150)):=(Below.refl _ _).alloc (Nat.le_refl _) _;obtain ⟨g0,g1⟩:=(hG.below hb0).cells
 have INV:Hid (LwInv w ((w.alloc (.cells #[.int .i64 0,.int .i64 0] 150)).alloc (.cells #[.int .i64 (-1),.int .i64 0] 150)) (lwR at_ most (ps.take 0)).1) :=
  ⟨zag (by simp),zal (zag rfl),hb0.alloc (by simp) _⟩
 clear h hcP hb0;go_enter Tryz.func136,Tryz.ntmps136;go_wp2
 go_loopw [2,9,13] (fun mo _ i wr=>∃ m:Nat,m≤ps.length∧i=.int .i64 m∧mo=.int .i64 (lwR at_ most (ps.take m)).2∧(0≤(lwR at_ most (ps.take m)).2∧(lwR at_ most (ps.take m)).2≤most)∧Hid (LwInv w wr (lwR at_ most (ps.take m)).1)) (fun _ _ i _=>ps.length - (intOf i).toNat)
 case atStart=>exact ⟨0,by omega,rfl,rfl,⟨h0,Int.le_refl _⟩,INV⟩
 case round =>
  obtain ⟨m,hm,rfl,rfl,⟨hm0,hm1⟩,I⟩:=hrel
  by_cases hlt:m < ps.length
  ·obtain ⟨b,o,rfl,hbl,hcell⟩:=HP.o (by omega);obtain ⟨c0,c1⟩:=hcell m hlt;have d0:=(I.o.below.cell (p:=⟨b,o+m*2,none⟩) hbl).trans c0;have d1:=(I.o.below.cell (p:=⟨b,o+m*2+1,none⟩) hbl).trans c1;have hzr:w.heap.size+2≤wr.heap.size:=(Array.getElem?_eq_some_iff.1 I.o.last).1;obtain ⟨y0,y1,y2,y3⟩:=zad (zal (o:=.cells #[.int .i64 ps[m].at_,.int .i64 ps[m].val] 150) I.o.last);clear hcell c0 c1
   by_cases q:ps[m].at_=at_
   ·have q':(ps[m].at_ == at_)=true:=by simpa using q
    by_cases q2:0 < (lwR at_ most (ps.take m)).2
    ·have E:=zaa (yary hlt q q2);have I1:=zaa ((I.o.alloc (.cells #[.int .i64 ps[m].at_,.int .i64 ps[m].val] 150)).set ps[m]);have I2:=zaa ((I.o.set ps[m]).alloc (.cells #[.int .i64 ps[m].at_,.int .i64 ps[m].val] 150));generalize (lwR at_ most (ps.take m)).2=mo at *;clear q;go_wp2
     go_roundw
     case rel =>
      refine ⟨m+1,by omega,by go_num,?_,?_,?_⟩
      ·rw[E.o]
      ·rw[E.o];exact ⟨by show 0≤mo - 1;omega,by show mo - 1≤most;omega⟩
      ·rw[E.o]
       first | exact I1 | exact I2
     case measure=>simp[intOf];omega
    ·have E:=zaa (yacy hlt (fun c=>q2 c.2));have I1:=zaa (I.o.alloc (.cells #[.int .i64 ps[m].at_,.int .i64 ps[m].val] 150))
     have e0:(lwR at_ most (ps.take m)).2=0:=by omega
     have E0:=zaa e0;rw[e0];clear e0 q q2;go_wp2
     go_roundw
     case rel =>
      refine ⟨m+1,by omega,by go_num,?_,?_,?_⟩
      ·rw[E.o,E0.o]
      ·rw[E.o];exact ⟨hm0,hm1⟩
      ·rw[E.o];exact I1
     case measure=>simp[intOf];omega
   ·have q':(ps[m].at_ == at_)=false:=by simpa using q
    have E:=zaa (yacy (most:=most) hlt (fun c=>q c.1));have I1:=zaa (I.o.alloc (.cells #[.int .i64 ps[m].at_,.int .i64 ps[m].val] 150));clear q;go_wp2
    go_roundw
    case rel =>
     refine ⟨m+1,by omega,by go_num,?_,?_,?_⟩
     ·rw[E.o]
     ·rw[E.o];exact ⟨hm0,hm1⟩
     ·rw[E.o];exact I1
    case measure=>simp[intOf];omega
  ·have e:m=ps.length:=by omega
   subst e;rw[List.take_length] at I;obtain ⟨y0,y1,y2,y3⟩:=zad I.o.last;obtain ⟨t0,t1,t2,t3⟩:=zad I.o.res;go_wp2;refine bodyPost_ret (v:=.agg #[.int .i64 (lwR at_ most ps).1.at_,.int .i64 (lwR at_ most ps).1.val]) (by simp[results,Tryz.results136,go_sem,t0,t1]) rfl ?_;exact ⟨rfl,(I.o.below.setCell (by simp only;omega) _).setCell (by simp only;omega) _⟩
theorem zic (a:Int):∀ (ps:List Se) (s:Se) (mo:Int),s.at_=a→(ps.foldl (zeg a) (s,mo)).1.at_=a
 | [],_,_,h=>h
 | p :: ps,s,mo,h=>by
  rw[List.foldl_cons]
  by_cases c:p.at_=a∧0 < mo
  ·rw[show zeg a (s,mo) p=(p,mo - 1) from if_pos c];exact zic a ps p (mo - 1) c.1
  ·rw[show zeg a (s,mo) p=(s,mo) from if_neg c];exact zic a ps s mo h
theorem zsx (a:Int):∀ (ps:List Se) (s:Se) (mo:Int),0 < mo→((∀ p∈ps,¬ p.at_=a)∧ps.foldl (zeg a) (s,mo)=(s,mo))∨(ps.foldl (zeg a) (s,mo)).1.at_=a
 | [],_,_,_=>.inl ⟨by simp,rfl⟩
 | p :: ps,s,mo,h=>by
  rw[List.foldl_cons]
  by_cases c:p.at_=a
  ·rw[show zeg a (s,mo) p=(p,mo - 1) from if_pos ⟨c,h⟩];exact .inr (zic a ps p (mo - 1) c)
  ·rw[show zeg a (s,mo) p=(s,mo) from if_neg (fun x=>c x.1)]
   rcases zsx a ps s mo h with ⟨h1,h2⟩ | h1
   ·refine .inl ⟨fun q hq=>?_,h2⟩
    rcases List.mem_cons.1 hq with rfl | hq
    ·exact c
    ·exact h1 q hq
   ·exact .inr h1
theorem zpt {ps:List Se} {m:Nat} {mo:Int} (h0:0 < mo) (h:zum ps m=true):(znn (m:Int) mo ps).at_=(m:Int):=by
 rcases zsx (m:Int) ps ⟨-1,0⟩ mo h0 with ⟨h1,_⟩ | h1
 ·unfold zum at h;rw[List.any_eq_true] at h;obtain ⟨p,hp,e⟩:=h;exact absurd (by simpa using e) (h1 p hp)
 ·exact h1
theorem yaga {ps:List Se} {m:Nat} {mo:Int} (h:zum ps m=false):znn (m:Int) mo ps=⟨-1,0⟩:=by
 have hn:∀ p∈ps,¬ p.at_=(m:Int):=by
  unfold zum at h;rw[List.any_eq_false] at h;intro p hp;simpa using h p hp
 unfold znn lwR;clear h;generalize (⟨-1,0⟩:Se)=s
 induction ps with
 | nil=>rfl
 | cons p ps ih =>
  rw[List.foldl_cons,show zeg (m:Int) (s,mo) p=(s,mo) from if_neg (fun x=>hn p (by simp) x.1)];exact ih (fun q hq=>hn q (by simp[hq]))
theorem zel (v:Value) (ws:List Int) (ps:List Se) (w:World) (h:RdBlk w v ws ps) (hG:NW w) (hw:ws.length≤1048576) (hp:ps.length≤1048576) :
  Calls Tryz.prog 135 #[v] w fun e w'=>∃ v',e=.returned (.tuple #[v',.int .i64 (barC ws ps)])∧Row w' 3 1 w.heap.size w'.heap.size v' (yagl ws ps).length (zav (yagl ws ps))∧Below w.heap.size w w':=by
 have HR:=zaa h;have HG:=zaa hG;obtain ⟨vW,vP,rfl,h1,h2⟩:=h;have H2:=zaa h2;obtain ⟨aW,cW,rfl,_⟩:=h1.shape;obtain ⟨aP,cP,rfl,_⟩:=h2.shape;clear h1 h2 hG;have hb0:Below w.heap.size w (w.alloc (.cells #[.slice aW ws.length cW,.slice aP ps.length cP] 43)):=(Below.refl _ _).alloc (Nat.le_refl _) _
 by_cases hc:zbp ws ps=true
 ·obtain ⟨e1,e2⟩:=yaau hc;rw[e1,e2];have C:=zaa hc;clear e1 e2 hc;go_enter Tryz.func135,Tryz.ntmps135;go_wp2_with fail;refine (zbr _ ws ps _ (HR.o.below hb0) hw hp).mono ?_;rw[C.o];rintro e w1 ⟨rfl,hb1⟩
  have hz1:w.heap.size+1≤w1.heap.size:=by have:=hb1.size;simp at this;omega
  have V0:=zaa ((hb1.block w.heap.size (by simp <;> omega)).trans (zag rfl));have B1:=zaa (zab hb0 hb1 (by simp <;> omega));clear hb0 hb1;go_wp2
  go_loopw [4,5,9] (fun vL _ i wr=>∃ m:Nat,m≤32∧i=.int .i64 m∧Hid (wr.ownsRow w1.heap.size 3 1 vL (zcr ps m).length (zav (zcr ps m))∧wr.heap[w.heap.size]?=some (.cells #[.slice aW ws.length cW,.slice aP ps.length cP] 43 (0,0))∧Below w.heap.size w wr)∧w1.heap.size≤wr.heap.size) (fun _ _ i _=>32 - (intOf i).toNat)
  case atStart=>exact ⟨0,by omega,rfl,⟨by simpa[zcr,zar,zav] using World.ownsRow_nil w1 w1.heap.size 3 1,V0.o,B1.o⟩,Nat.le_refl _⟩
  case round =>
   obtain ⟨m,hm,rfl,I,hz⟩:=hrel
   by_cases hlt:m < 32
   ·obtain ⟨y1,y2,y3,y4⟩:=zad I.o.2.1;obtain ⟨g0,g1⟩:=(HG.o.below I.o.2.2).cells;have hle:=znw ps m
    by_cases hh:zum ps m=true
    ·have E:=zaa (zxc hh);have LH:=zaa (zpt (mo:=1) (by decide) hh)
     have mn:((m:Int) == -1)=false:=by first | (simp;done) | (simp;omega)
     clear hh;go_wp2_with fail
     go_region_with (go_at_call 136;refine (zfh _ ps _ _ _ (by first | exact Rd.below H2.o I.o.2.2.drew | exact Rd.below H2.o I.o.2.2) (by first | exact HG.o.below I.o.2.2.drew | exact HG.o.below I.o.2.2) hp (by omega) (by omega)).mono ?_;rw[LH.o];rintro e wa ⟨rfl,hba⟩;have BA:Hid (Below wr.heap.size wr wa):=(by first | exact zab ((Below.refl _ _).drew) hba (Nat.le_refl _) | exact hba);obtain ⟨k0,k1⟩:=((HG.o.below I.o.2.2).below BA.o).cells;generalize (znn (m:Int) 1 ps).val=yy at *;clear hba)
     all_goals
      have hza:=BA.o.size;have O1:=((zai I.o.1).below BA.o (Nat.le_refl _)).wide (Nat.le_refl _) hza;have O2:=zaa (O1.1.alloc (.cells #[.int .i64 (m:Int)] 3));have V2:=zaa ((BA.o.block w.heap.size (by omega)).trans I.o.2.1);have B2:=zaa (zab I.o.2.2 BA.o (by omega));have HRD:=zaa (zmo wa (m:Int));have HRE:=zaa (zmo wa.drew (m:Int))
      have O3:Hid ((wa.drew.alloc (.cells #[.int .i64 (m:Int)] 3)).ownsRow w1.heap.size 3 1 _ _ _):=(((O1.same (fun _ _ _=>rfl):Row wa.drew _ _ _ _ _ _ _)).1.alloc (.cells #[.int .i64 (m:Int)] 3))
      clear O1
      first
       | (go_wp2_with (at_builtin;refine zak _ rfl (.tmp 18) (.tmp 20) 22 rfl w1.heap.size 3 (.int .i64 0) 1 8 Tryz.underlying22 zfz rfl (by decide) _ _ _ rfl O2.o _ 1 _ rfl HRD.o (by simp[Value.oneCell']) (by simp[maxLen];omega) (by omega) (by simp;omega) ?_))
       | (go_wp2_with (at_builtin;refine zak _ rfl (.tmp 18) (.tmp 20) 22 rfl w1.heap.size 3 (.int .i64 0) 1 8 Tryz.underlying22 zfz rfl (by decide) _ _ _ rfl O3.o _ 1 _ rfl HRE.o (by simp[Value.oneCell']) (by simp[maxLen];omega) (by omega) (by simp;omega) ?_))
      intro vN wN hownN hgrN
      have hl:=fun k hk=>(O2.o.lt k hk).1
      have hzN:=hgrN.size;simp only[World.size_alloc] at hzN
      have G:Hid (wN.ownsRow w1.heap.size 3 1 vN (zcr ps (m+1)).length (zav (zcr ps (m+1)))∧wN.heap[w.heap.size]?=some (.cells #[.slice aW ws.length cW,.slice aP ps.length cP] 43 (0,0))∧Below w.heap.size w wN):=by
       refine ⟨?_,(hgrN.block w.heap.size (by simp;omega) (fun e=>by have:=hl _ e.symm;omega)).trans (zal V2.o),?_⟩
       ·rw[E.o,zhq,List.length_append];exact hownN
       ·first
         | exact (B2.o.alloc (by omega) (.cells #[.int .i64 (m:Int)] 3)).grown hgrN (by simp;omega) (fun k hk=>by have:=hl k hk;omega)
         | exact (B2.o.drew.alloc (by simp;omega) (.cells #[.int .i64 (m:Int)] 3)).grown hgrN (by simp;omega) (fun k hk=>by have:=hl k hk;omega)
      clear hownN hgrN hl;go_wp2
      go_roundw
      case rel=>exact ⟨m+1,by omega,by go_num,G,by first | omega | (simp at hzN;omega)⟩
      case measure=>simp[intOf];omega
    ·have hh':zum ps m=false:=by simpa using hh
     have E:=zaa (zrs hh');have LH:=zaa (yaga (mo:=1) hh');clear hh hh';go_wp2_with fail
     go_region_with (go_at_call 136;refine (zfh _ ps _ _ _ (by first | exact Rd.below H2.o I.o.2.2.drew | exact Rd.below H2.o I.o.2.2) (by first | exact HG.o.below I.o.2.2.drew | exact HG.o.below I.o.2.2) hp (by omega) (by omega)).mono ?_;rw[LH.o];rintro e wa ⟨rfl,hba⟩;have BA:Hid (Below wr.heap.size wr wa):=(by first | exact zab ((Below.refl _ _).drew) hba (Nat.le_refl _) | exact hba);obtain ⟨k0,k1⟩:=((HG.o.below I.o.2.2).below BA.o).cells;clear hba)
     all_goals
      have hza:=BA.o.size
      have G:Hid (wa.ownsRow w1.heap.size 3 1 u4 (zcr ps (m+1)).length (zav (zcr ps (m+1)))∧wa.heap[w.heap.size]?=some (.cells #[.slice aW ws.length cW,.slice aP ps.length cP] 43 (0,0))∧Below w.heap.size w wa):=by
       rw[E.o];exact ⟨((zai I.o.1).below BA.o (Nat.le_refl _)).1,(BA.o.block w.heap.size (by omega)).trans I.o.2.1,zab I.o.2.2 BA.o (by omega)⟩
      go_wp2
      go_roundw
      case rel=>exact ⟨m+1,by omega,by go_num,by first | exact G | exact ⟨(((zai G.o.1).same (fun _ _ _=>rfl):Row wa.drew _ _ _ _ _ _ _)).1,G.o.2.1,G.o.2.2.drew⟩,by omega⟩
      case measure=>simp[intOf];omega
   ·have e:m=32:=by omega
    subst e;obtain ⟨aL,cL,hvL⟩:=RdI.form (zai I.o.1).rd rfl;subst hvL;go_wp2;go_ret2;exact ⟨_,rfl,(zai I.o.1).wide (by omega) (Nat.le_refl _),I.o.2.2⟩
 ·have hc':zbp ws ps=false:=by simpa using hc
  clear hc;obtain ⟨e1,e2⟩:=yacd hc';rw[e1,e2];have C:=zaa hc';clear e1 e2 hc';go_enter Tryz.func135,Tryz.ntmps135;go_wp2_with fail;refine (zbr _ ws ps _ (HR.o.below hb0) hw hp).mono ?_;rw[C.o];rintro e w1 ⟨rfl,hb1⟩;have B1:=zaa (zab hb0 hb1 (by simp <;> omega));clear hb0 hb1;go_wp2;go_ret2;exact ⟨_,rfl,Row.nil _ _ _ _ _,B1.o⟩
theorem zat {a w:World} (h:Below a.heap.size a w) (o:Obj):Below a.heap.size a (w.alloc o):=h.alloc h.size o
theorem yabn (a:Nat):∀ (ps:List Se) (s:Se) (d mo:Int),(ps.foldl (zeg (a:Int)) (s,mo)=(s,mo)∧zec a (d,mo) ps=(d,mo))∨((ps.foldl (zeg (a:Int)) (s,mo)).1.at_=(a:Int)∧(zec a (d,mo) ps).1=(ps.foldl (zeg (a:Int)) (s,mo)).1.val)
 | [],_,_,_=>.inl ⟨rfl,rfl⟩
 | p :: ps,s,d,mo=>by
  have e2:zec a (d,mo) (p :: ps)=zec a (zeh a (d,mo) p) ps:=rfl;rw[List.foldl_cons,e2]
  by_cases c:p.at_=(a:Int)∧0 < mo
  ·rw[show zeg (a:Int) (s,mo) p=(p,mo - 1) from if_pos c,show zeh a (d,mo) p=(p.val,mo - 1) from if_pos c]
   rcases yabn a ps p p.val (mo - 1) with ⟨h1,h2⟩ | h
   ·exact .inr ⟨by rw[h1];exact c.1,by rw[h1,h2]⟩
   ·exact .inr h
  ·rw[show zeg (a:Int) (s,mo) p=(s,mo) from if_neg c,show zeh a (d,mo) p=(d,mo) from if_neg c];exact yabn a ps s d mo
theorem yagw {ps:List Se} {a:Nat} {d mo:Int} (h0:0 < mo) (h:zum ps a=true):(zec a (d,mo) ps).1=(znn (a:Int) mo ps).val:=by
 rcases yabn a ps ⟨-1,0⟩ d mo with ⟨h1,_⟩ | ⟨_,h2⟩
 ·have:=zpt h0 h;unfold znn lwR at this;rw[h1] at this;exact absurd (show (-1:Int)=(a:Int) from this) (by omega)
 ·exact h2
theorem yafh {ps:List Se} {a mo:Int} (h:¬ 0 < mo):znn a mo ps=⟨-1,0⟩:=by
 unfold znn lwR;generalize (⟨-1,0⟩:Se)=s
 induction ps with
 | nil=>rfl
 | cons p ps ih =>
  rw[List.foldl_cons,show zeg a (s,mo) p=(s,mo) from if_neg (fun x=>h x.2)];exact ih
theorem yakq (ps:List Se) (n i:Nat) (hi:i < (zar ps n).length):zum ps ((zar ps n)[i]?.getD 0)=true:=by
 rw[List.getElem?_eq_getElem hi,Option.getD_some];have:=List.getElem_mem hi;unfold zar at this;rw[List.mem_filter] at this;exact this.2
theorem yasu {us:List Nat} {zs:List Int} {ps:List Se} {ws:List Int} {i:Nat} (h0:0 < zck zs i) (h:zum ps (us[i]?.getD 0)=true):spE us zs ps ws (i+1)=(spE us zs ps ws i).set (us[i]?.getD 0) (znn ((us[i]?.getD 0:Nat):Int) (zck zs i) ps).val:=by
 rw[spE,yagw h0 h]
theorem yanu {us:List Nat} {zs:List Int} {ps:List Se} {ws:List Int} {i:Nat} (h0:¬ 0 < zck zs i) (h:us[i]?.getD 0 < ws.length):spE us zs ps ws (i+1)=spE us zs ps ws i:=by
 have hl:us[i]?.getD 0 < (spE us zs ps ws i).length:=by rw[zhm];exact h
 rw[spE,zlv h0];simp[hl]
structure CrB (w w1 wr:World) (X:List Int) (us:List Int) (vW vP vU:Value):Prop where
 arr:Row wr 169 1 w1.heap.size (w1.heap.size+1) (.slice (some ⟨w1.heap.size,0,none⟩) 32 32) 32 (zav X)
 plc:Row wr 3 1 (w.heap.size+2) w1.heap.size vU us.length (zav us)
 box:wr.heap[w.heap.size]?=some (.cells #[vW,vP] 43 (0,0))
 res:wr.heap[w.heap.size+1]?=some (.cells #[.slice none 0 0,.slice none 0 0] 43 (0,0))
 below:Below w.heap.size w wr
 size:w1.heap.size+1≤wr.heap.size
theorem CrB.later {w w1 wr wx:World} {X us:List Int} {vW vP vU:Value} (h:CrB w w1 wr X us vW vP vU) (hb:Below wr.heap.size wr wx) (hz:w.heap.size+2≤w1.heap.size):CrB w w1 wx X us vW vP vU :=
 have h7:=h.size
 ⟨h.arr.below hb h7,h.plc.below hb (by omega),(hb.block _ (by omega)).trans h.box,(hb.block _ (by omega)).trans h.res,zab h.below hb h.below.size,Nat.le_trans h.size hb.size⟩
theorem CrB.store {w w1 wr:World} {X us:List Int} {vW vP vU:Value} (h:CrB w w1 wr X us vW vP vU) (hz:w.heap.size+2≤w1.heap.size) (a:Nat) (x:Int):CrB w w1 (wr.setCell ⟨w1.heap.size,a,none⟩ (.int .i64 x)) (X.set a x) us vW vP vU:=by
 obtain ⟨h1,h2,h3,h4,h5,h6⟩:=h;refine ⟨?_,h2.same (fun k _ hk=>Below.heap_setCell _ _ _ _ (by simp only;omega)),?_,?_,h5.setCell (by simp only;omega) _,by simpa using h6⟩
 ·rw[← zeo];exact h1.stored _ _
 ·rw[Below.heap_setCell _ _ _ _ (by simp only;omega)];exact h3
 ·rw[Below.heap_setCell _ _ _ _ (by simp only;omega)];exact h4
structure LCut (wr wx:World) (x y:Int) (bx:Nat):Prop where
 lo:wr.heap.size≤bx
 box:wx.heap[bx]?=some (.cells #[.int .i64 x,.int .i64 y] 150 (0,0))
 below:Below wr.heap.size wr wx
theorem LCut.new {wr wf:World} {x y:Int} (hb:Below wr.heap.size wr wf):LCut wr (wf.alloc (.cells #[.int .i64 x,.int .i64 y] 150)) x y wf.heap.size:=⟨hb.size,zag rfl,zat hb _⟩
theorem LCut.old {wr wf:World} {x y:Int} {bx:Nat} (hb:Below wr.heap.size wr wf) (hx:wr.heap.size≤bx) (hv:wf.heap[bx]?=some (.cells #[.int .i64 0,.int .i64 0] 150 (0,0))):LCut wr ((wf.setCell ⟨bx,0,none⟩ (.int .i64 x)).setCell ⟨bx,1,none⟩ (.int .i64 y)) x y bx :=
 ⟨hx,zga (zep hv _) _,(hb.setCell (by simp only;omega) _).setCell (by simp only;omega) _⟩
def kbC (ws:List Int) (ps:List Se) (zs:List Int):Int:=if zbp ws ps=true then if zaw zs=true then 0 else 4 else 1
def kbW (ws:List Int) (ps:List Se) (zs:List Int):List Int:=if kbC ws ps zs=0 then spE (zar ps 32) zs ps ws (zar ps 32).length else []
theorem yamf (ws:List Int) (ps:List Se) (zs:List Int) :
  (zbp ws ps=false∧kbC ws ps zs=1∧kbW ws ps zs=[]) ∨
  (zbp ws ps=true∧zaw zs=false∧kbC ws ps zs=4∧kbW ws ps zs=[]) ∨
  (zbp ws ps=true∧zaw zs=true∧kbC ws ps zs=0∧kbW ws ps zs=spE (zar ps 32) zs ps ws (zar ps 32).length):=by
 by_cases c2:zbp ws ps=true
 ·by_cases c3:zaw zs=true
  ·have e:kbC ws ps zs=0:=by unfold kbC;rw[if_pos c2,if_pos c3]
   exact .inr (.inr ⟨c2,c3,e,by unfold kbW;rw[if_pos e]⟩)
  ·have e:kbC ws ps zs=4:=by unfold kbC;rw[if_pos c2,if_neg c3]
   exact .inr (.inl ⟨c2,by simpa using c3,e,by unfold kbW;rw[e];rfl⟩)
 ·have e:kbC ws ps zs=1:=by unfold kbC;rw[if_neg c2]
  exact .inl ⟨by simpa using c2,e,by unfold kbW;rw[e];rfl⟩
theorem znk (v vZ:Value) (ws:List Int) (ps:List Se) (zs:List Int) (w:World) (h:RdBlk w v ws ps) (hz:RdI w vZ zs) (hG:NW w) (hw:ws.length≤1048576) (hp:ps.length≤1048576) (hzl:zs.length≤1048576) :
  Calls Tryz.prog 94 #[v,vZ] w fun e w'=>∃ v',e=.returned (.tuple #[v',.int .i64 (kbC ws ps zs)])∧RowBlk w' w.heap.size w'.heap.size v' (kbW ws ps zs) []∧Below w.heap.size w w':=by
 have HR:=zaa h;have HZ:=zaa hz;have HG:=zaa hG;obtain ⟨vW,vP,rfl,h1,h2⟩:=h;have H2:=zaa h2;obtain ⟨aW,cW,rfl,_,hcW⟩:=h1.shape;obtain ⟨aP,cP,rfl,_⟩:=h2.shape;obtain ⟨aZ,cZ,rfl,_⟩:=hz.shape;have HW:=zaa hcW;clear h1 h2 hz hcW hG
 have hb0:Below w.heap.size w ((w.alloc (.cells #[.slice aW ws.length cW,.slice aP ps.length cP] 43)).alloc (.cells #[.slice none 0 0,.slice none 0 0] 43)):=by
  repeat (refine Below.alloc ?_ (by simp <;> omega) _)
  exact Below.refl _ _
 rcases yamf ws ps zs with ⟨c2,e1,e2⟩ | ⟨c2,c3,e1,e2⟩ | ⟨c2,c3,e1,e2⟩
 ·rw[e1,e2];obtain ⟨s1,s2⟩:=yacd c2;have S1:=zaa s1;clear e1 e2 s1 s2;go_enter Tryz.func94,Tryz.ntmps94;go_wp2_with fail;refine (zel _ ws ps _ (HR.o.below hb0) (HG.o.below hb0) hw hp).mono ?_;rw[S1.o];rintro e w1 ⟨v1,rfl,hr1,hb1⟩;obtain ⟨aU,cU,rfl⟩:=RdI.form hr1.rd rfl;have V1:=(hb1.block (w.heap.size+1) (by simp)).trans (zag (by simp));obtain ⟨t1,t2,t3,t4⟩:=zad V1;have B1:=zaa (zab hb0 hb1 (by simp <;> omega));clear hb0 hb1 V1 hr1;go_wp2;refine bodyPost_ret (v:=.tuple #[.agg #[.slice none 0 0,.slice none 0 0],.int .i64 1]) (by simp[results,Tryz.results94,go_sem,t1,t2]) rfl ?_;exact ⟨_,rfl,RowBlk.zero _ _ _,(B1.o.setCell (by simp only;omega) _).setCell (by simp only;omega) _⟩
 ·rw[e1,e2];obtain ⟨s1,s2⟩:=yaau c2;have S1:=zaa s1;clear e1 e2 s1 s2;go_enter Tryz.func94,Tryz.ntmps94;go_wp2_with fail;refine (zel _ ws ps _ (HR.o.below hb0) (HG.o.below hb0) hw hp).mono ?_;rw[S1.o];rintro e w1 ⟨v1,rfl,hr1,hb1⟩;obtain ⟨aU,cU,rfl⟩:=RdI.form hr1.rd rfl;have V1:=(hb1.block (w.heap.size+1) (by simp)).trans (zag (by simp));obtain ⟨t1,t2,t3,t4⟩:=zad V1;have B1:=zaa (zab hb0 hb1 (by simp <;> omega));clear hb0 hb1 V1 hr1;go_wp2_with (go_at_call 131;refine (zdz _ zs _ (Rd.below HZ.o B1.o) (by omega)).mono ?_;rintro e w1 ⟨rfl,rfl⟩);refine bodyPost_ret (v:=.tuple #[.agg #[.slice none 0 0,.slice none 0 0],.int .i64 4]) (by simp[results,Tryz.results94,go_sem,t1,t2]) rfl ?_;exact ⟨_,rfl,RowBlk.zero _ _ _,(B1.o.setCell (by simp only;omega) _).setCell (by simp only;omega) _⟩
 ·rw[e1,e2];obtain ⟨s1,s2⟩:=yaau c2;have S1:=zaa s1;have L32:=zaa (zbt c2).1;have KB:=zaa (zoa c3);obtain ⟨bW,oW,rfl,hbW,hcellW⟩:=HW.o (by have:=L32.o;omega);have HCW:=zaa hcellW;clear e1 e2 s1 hcellW;go_enter Tryz.func94,Tryz.ntmps94;go_wp2_with fail;refine (zel _ ws ps _ (HR.o.below hb0) (HG.o.below hb0) hw hp).mono ?_;rw[S1.o,s2];rintro e w1 ⟨v1,rfl,hr1,hb1⟩;obtain ⟨aU,cU,rfl⟩:=RdI.form hr1.rd (n:=(zar ps 32).length) (zdd ps 32)
  have hz1:w.heap.size+2≤w1.heap.size:=by have:=hb1.size;simp at this;omega
  have V0:=(hb1.block w.heap.size (by simp <;> omega)).trans (zal (zag rfl));have V1:=(hb1.block (w.heap.size+1) (by simp)).trans (zag (by simp));have B1:=zaa (zab hb0 hb1 (by simp <;> omega));have RU:=zaa (hr1.wide (lo':=w.heap.size+2) (hi':=w1.heap.size) (by simp) (Nat.le_refl _));obtain ⟨x1,x2,x3,x4⟩:=zad V0;have RNG:=zaa (zrt (w:=w1) (b:=bW) (o:=oW) (zs:=ws) (fun k hk=>(B1.o.cell (p:=⟨bW,oW+k,none⟩) hbW).trans (HCW.o k hk)));have SZ:=zaa (show (Tryz.prog.info? 169).map (·.size)=some (zav ws).length by rw[zdg,L32.o];exact yace);have SZ2:=zaa (show (Tryz.prog.info? 169).map (·.size)=some (zav ws).toArray.size by rw[List.size_toArray,zdg,L32.o];exact yace);have SZ3:=zaa (show zfw.size=(zav ws).toArray.size by rw[ziy,List.size_toArray,zdg,L32.o])
  have START:Hid (CrB w w1 (w1.alloc (.cells (zav ws).toArray 169)) (spE (zar ps 32) zs ps ws 0) (zcr ps 32) (.slice (some ⟨bW,oW,none⟩) ws.length cW) (.slice aP ps.length cP) (.slice aU (zar ps 32).length cU)) :=
   ⟨yave w1 ws L32.o,RU.o.alloc (Nat.le_refl _) _,zal V0,zal V1,B1.o.alloc (by omega) _,by simp⟩
  have hal:=zjy;have har:=zpf (some ⟨bW,oW,none⟩) ws.length cW (by have:=L32.o;omega)
  have hul:(zar ps 32).length≤32:=by rw[← zdd];exact znw ps 32
  clear hb0 hb1 V0 V1 hr1
  go_wp2_with (first
   | (go_at_call 131;refine (zdz _ zs _ (Rd.below HZ.o B1.o) (by omega)).mono ?_;rintro e w1 ⟨rfl,rfl⟩)
   | (refine wpList_load_mid rfl 169 (.tmp 27) rfl bW oW rfl (zav ws) _ RNG.o Tryz.underlying169 rfl SZ.o ?_)
   | (refine zhc rfl 169 (.tmp 8) (.tmp 28) rfl zfw (zav ws).toArray rfl rfl SZ2.o SZ3.o (yacv ws) ?_))
  clear hal har x1 x2 x3 x4
  go_loopw [9,10,11,31] (fun _ _ _ ii wr=>∃ i:Nat,i≤(zar ps 32).length∧ii=.int .i64 i∧Hid (CrB w w1 wr (spE (zar ps 32) zs ps ws i) (zcr ps 32) (.slice (some ⟨bW,oW,none⟩) ws.length cW) (.slice aP ps.length cP) (.slice aU (zar ps 32).length cU))) (fun _ _ _ ii _=>(zar ps 32).length - (intOf ii).toNat)
  case atStart=>exact ⟨0,by omega,rfl,START⟩
  case round =>
   obtain ⟨i,hi,rfl,I⟩:=hrel
   by_cases hlt:i < (zar ps 32).length
   ·have ha32:(zar ps 32)[i]?.getD 0 < 32:=yaeg ps 32 i hlt
    have hal:(zar ps 32)[i]?.getD 0 < ws.length:=by rw[L32.o];exact ha32
    have hpl:=I.o.plc;rw[zdd] at hpl;obtain ⟨_,au',cu',eu',_,hcu⟩:=hpl.rd
    cases eu'
    obtain ⟨bu,ou,rfl,_,_⟩:=hcu (by omega)
    obtain ⟨rfl,_,_,_,_,hclu⟩:=hpl.at
    have hil:i < (zcr ps 32).length:=by rw[zdd];exact hlt
    have u0:=(hclu i (by omega)).trans (zay _ i hil);rw[zvd] at u0;clear hpl hcu hclu;have HAS:=zaa (yakq ps 32 i hlt);obtain ⟨kb0,kb1⟩:=KB.o i;have hzr:=I.o.size;obtain ⟨y1,y2,y3,y4⟩:=zad I.o.box;obtain ⟨f1,f2,f3,f4⟩:=zad (zal (o:=.cells #[.int .i64 0,.int .i64 0] 150) I.o.box)
    by_cases hk:0 < zck zs i
    ·have SP:=zaa (yasu (us:=zar ps 32) (ws:=ws) hk HAS.o);have LH:=zaa (zpt hk HAS.o);clear hk;generalize hkk:zck zs i=kk at *;have HKK:=zaa hkk
     have hspl:(zar ps 32)[i]?.getD 0 < (spE (zar ps 32) zs ps ws i).length:=by rw[zhm];exact hal
     have mn:((((zar ps 32)[i]?.getD 0:Nat):Int) == -1)=false:=by first | (simp;done) | (simp;omega)
     generalize (zar ps 32)[i]?.getD 0=a at *;clear hkk;go_wp2_with fail
     go_region_with (first
      | (go_at_call 134;refine (zmj _ zs i _ (Rd.below HZ.o (by repeat (first | exact I.o.below | refine zat ?_ _ | refine Below.drew ?_))) hzl (by omega)).mono ?_;rw[HKK.o];rintro e w' ⟨rfl,rfl⟩)
      | (go_at_call 136;refine (zfh _ ps _ _ _ (Rd.below H2.o (by repeat (first | exact I.o.below | refine zat ?_ _ | refine Below.drew ?_))) (HG.o.below (by repeat (first | exact I.o.below | refine zat ?_ _ | refine Below.drew ?_))) hp kb0 kb1).mono ?_;rw[LH.o];rintro e wa ⟨rfl,hba⟩;have BA:Hid (Below wr.heap.size wr wa):=zab (b:=_) (by repeat (first | exact Below.refl _ _ | refine zat ?_ _ | refine Below.drew ?_)) hba (Below.size (B:=wr.heap.size) (by repeat (first | exact Below.refl _ _ | refine zat ?_ _ | refine Below.drew ?_)));(first | (have VX:Hid (wa.heap[wr.heap.size]?=some (.cells #[.int .i64 0,.int .i64 0] 150 (0,0))):=(hba.block wr.heap.size (by first | (rw[World.size_alloc];exact Nat.lt_succ_self _) | (show _ < (World.alloc _ _).heap.size;rw[World.size_alloc];exact Nat.lt_succ_self _))).trans (zag rfl);obtain ⟨s0,s1,s2,s3⟩:=zad VX.o) | skip);generalize (znn (a:Int) kk ps).val=yy at *;obtain ⟨k0,k1⟩:=((HG.o.below I.o.below).below BA.o).cells;obtain ⟨l0,l1⟩:=((HG.o.below I.o.below).below (zat BA.o (.cells #[.int .i64 (a:Int),.int .i64 yy] 150))).cells;obtain ⟨_,_,_,_,hfr1,hcl1⟩:=(I.o.later BA.o hz1).arr.at;have r0:=hfr1 a;have r1:=(hcl1 a (by omega)).trans (zay _ a hspl);obtain ⟨_,_,_,_,hfr2,hcl2⟩:=(I.o.later (zat BA.o (.cells #[.int .i64 (a:Int),.int .i64 yy] 150)) hz1).arr.at;have r2:=hfr2 a;have r3:=(hcl2 a (by omega)).trans (zay _ a hspl);clear hfr1 hcl1 hfr2 hcl2;clear hba))
     all_goals
      go_wp2
      go_roundw
      case rel =>
       refine ⟨i+1,by omega,by go_num,?_⟩;rw[SP.o]
       first
        | exact ((I.o.later BA.o hz1).store hz1 a yy).later (zat (Below.refl _ _) _) hz1
        | exact (((I.o.later BA.o hz1).store hz1 a yy).later (zat (Below.refl _ _) _) hz1).drew
        | exact ((I.o.later BA.o hz1).drew.store hz1 a yy).later (zat (Below.refl _ _) _) hz1
        | exact (I.o.later (LCut.below (LCut.new BA.o)) hz1).store hz1 a yy
        | exact ((I.o.later (LCut.below (LCut.new BA.o)) hz1).store hz1 a yy).drew
        | exact (I.o.later (LCut.below (LCut.new BA.o).drew) hz1).store hz1 a yy
        | exact ((I.o.later (LCut.below (LCut.new BA.o).drew) hz1).store hz1 a yy).drew
        | exact (I.o.later (LCut.below (LCut.old BA.o (Nat.le_refl _) VX.o)) hz1).store hz1 a yy
        | exact ((I.o.later (LCut.below (LCut.old BA.o (Nat.le_refl _) VX.o)) hz1).store hz1 a yy).drew
        | exact (I.o.later (LCut.below (LCut.old BA.o (Nat.le_refl _) VX.o).drew) hz1).store hz1 a yy
        | exact ((I.o.later (LCut.below (LCut.old BA.o (Nat.le_refl _) VX.o).drew) hz1).store hz1 a yy).drew
      case measure=>simp[intOf];omega
    ·have SP:=zaa (yanu (us:=zar ps 32) (ps:=ps) hk hal)
     have hk0:zck zs i=0:=by omega
     clear hk;have LH:=zaa (yafh (ps:=ps) (a:=(((zar ps 32)[i]?.getD 0:Nat):Int)) (mo:=zck zs i) (by omega));clear hk0;generalize hkk:zck zs i=kk at *;have HKK:=zaa hkk;generalize (zar ps 32)[i]?.getD 0=a at *;clear hkk;go_wp2_with fail
     go_region_with (first
      | (go_at_call 134;refine (zmj _ zs i _ (Rd.below HZ.o (by repeat (first | exact I.o.below | refine zat ?_ _ | refine Below.drew ?_))) hzl (by omega)).mono ?_;rw[HKK.o];rintro e w' ⟨rfl,rfl⟩)
      | (go_at_call 136;refine (zfh _ ps _ _ _ (Rd.below H2.o (by repeat (first | exact I.o.below | refine zat ?_ _ | refine Below.drew ?_))) (HG.o.below (by repeat (first | exact I.o.below | refine zat ?_ _ | refine Below.drew ?_))) hp kb0 kb1).mono ?_;rw[LH.o];rintro e wa ⟨rfl,hba⟩;have BA:Hid (Below wr.heap.size wr wa):=zab (b:=_) (by repeat (first | exact Below.refl _ _ | refine zat ?_ _ | refine Below.drew ?_)) hba (Below.size (B:=wr.heap.size) (by repeat (first | exact Below.refl _ _ | refine zat ?_ _ | refine Below.drew ?_)));(first | (have VX:Hid (wa.heap[wr.heap.size]?=some (.cells #[.int .i64 0,.int .i64 0] 150 (0,0))):=(hba.block wr.heap.size (by first | (rw[World.size_alloc];exact Nat.lt_succ_self _) | (show _ < (World.alloc _ _).heap.size;rw[World.size_alloc];exact Nat.lt_succ_self _))).trans (zag rfl);obtain ⟨s0,s1,s2,s3⟩:=zad VX.o) | skip);obtain ⟨k0,k1⟩:=((HG.o.below I.o.below).below BA.o).cells;obtain ⟨l0,l1⟩:=((HG.o.below I.o.below).below (zat BA.o (.cells #[.int .i64 (-1),.int .i64 0] 150))).cells;clear hba))
     all_goals
      go_wp2
      go_roundw
      case rel =>
       refine ⟨i+1,by omega,by go_num,?_⟩;rw[SP.o]
       first
        | exact (I.o.later (LCut.below (LCut.new BA.o)) hz1)
        | exact (I.o.later (LCut.below (LCut.new BA.o)) hz1).drew
        | exact (I.o.later (LCut.below (LCut.new BA.o).drew) hz1)
        | exact (I.o.later (LCut.below (LCut.new BA.o).drew) hz1).drew
        | exact (I.o.later (LCut.below (LCut.old BA.o (Nat.le_refl _) VX.o)) hz1)
        | exact (I.o.later (LCut.below (LCut.old BA.o (Nat.le_refl _) VX.o)) hz1).drew
        | exact (I.o.later (LCut.below (LCut.old BA.o (Nat.le_refl _) VX.o).drew) hz1)
        | exact (I.o.later (LCut.below (LCut.old BA.o (Nat.le_refl _) VX.o).drew) hz1).drew
      case measure=>simp[intOf];omega
   ·have e:i=(zar ps 32).length:=by omega
    subst e;obtain ⟨t1,t2,t3,t4⟩:=zad I.o.res;have hsz:=I.o.size;go_wp2;refine bodyPost_ret (v:=.tuple #[.agg #[.slice (some ⟨w1.heap.size,0,none⟩) 32 32,.slice none 0 0],.int .i64 0]) (by simp[results,Tryz.results94,go_sem,t1,t2]) rfl ?_;refine ⟨_,rfl,⟨_,_,rfl,⟨169,by decide,?_⟩,Row.nil _ _ _ _ _⟩,(I.o.below.setCell (by simp only;omega) _).setCell (by simp only;omega) _⟩;rw[zhm,L32.o];refine (I.o.arr.same fun b h1 h2=>?_).wide (by omega) (by simp;omega);rw[Below.heap_setCell _ _ _ _ (by simp only;omega),Below.heap_setCell _ _ _ _ (by simp only;omega)]
end Go.Proofs.YtahiphgmhndgaaaGreatDoor
