/- Several texts laid together: PmStore, PmStoreI, PmFlush, PmFence. -/
import Derived.Test.YtahiphgmhndgaaaGreatDoorZAE
set_option maxHeartbeats 4000000
namespace Go.Proofs.YtahiphgmhndgaaaGreatDoor
open Go.RowKit
def zdv (ws:List Int) (ps:List St) (at_ v:Int):Int:=if zjw ws ps at_=0 then if zao v=false then 4 else if ps.length=400 then 7 else 0 else zjw ws ps at_
def zcy (ws:List Int) (ps:List St) (at_ v:Int):List Int:=if zdv ws ps at_ v=0∨zdv ws ps at_ v=7 then ws else []
def zdb (ws:List Int) (ps:List St) (at_ v:Int):List St:=if zdv ws ps at_ v=0 then ps ++ [⟨at_,v,false⟩] else if zdv ws ps at_ v=7 then ps else []
theorem zjv (ws:List Int) (ps:List St) (at_ v:Int) :
  ((zjw ws ps at_=1∨zjw ws ps at_=14)∧zdv ws ps at_ v=zjw ws ps at_∧zcy ws ps at_ v=[]∧zdb ws ps at_ v=[]) ∨
  (zjw ws ps at_=0∧zao v=false∧zdv ws ps at_ v=4∧zcy ws ps at_ v=[]∧zdb ws ps at_ v=[]) ∨
  (zjw ws ps at_=0∧zao v=true∧ps.length=400∧zdv ws ps at_ v=7∧zcy ws ps at_ v=ws∧zdb ws ps at_ v=ps) ∨
  (zjw ws ps at_=0∧zao v=true∧¬ ps.length=400∧zdv ws ps at_ v=0∧zcy ws ps at_ v=ws∧zdb ws ps at_ v=ps ++ [⟨at_,v,false⟩]):=by
 rcases ztc ws ps at_ with hc | ⟨hc,_⟩
 ·left
  have e:zdv ws ps at_ v=zjw ws ps at_:=by unfold zdv;rw[if_neg (by omega)]
  refine ⟨hc,e,?_,?_⟩
  ·unfold zcy;rw[e,if_neg (by omega)]
  ·unfold zdb;rw[e,if_neg (by omega),if_neg (by omega)]
 ·right
  by_cases c1:zao v=true
  ·right
   by_cases c2:ps.length=400
   ·have e:zdv ws ps at_ v=7:=by unfold zdv;rw[if_pos hc,if_neg (by rw[c1];simp),if_pos c2]
    refine .inl ⟨hc,c1,c2,e,?_,?_⟩
    ·unfold zcy;rw[e,if_pos (.inr rfl)]
    ·unfold zdb;rw[e,if_neg (by decide),if_pos rfl]
   ·have e:zdv ws ps at_ v=0:=by unfold zdv;rw[if_pos hc,if_neg (by rw[c1];simp),if_neg c2]
    refine .inr ⟨hc,c1,c2,e,?_,?_⟩
    ·unfold zcy;rw[e,if_pos (.inl rfl)]
    ·unfold zdb;rw[e,if_pos rfl]
  ·have c1':zao v=false:=by simpa using c1
   have e:zdv ws ps at_ v=4:=by unfold zdv;rw[if_pos hc,if_pos c1']
   refine .inl ⟨hc,c1',e,?_,?_⟩
   ·unfold zcy;rw[e,if_neg (by decide)]
   ·unfold zdb;rw[e,if_neg (by decide),if_neg (by decide)]
theorem zwo (v:Value) (ws:List Int) (ps:List St) (at_ x:Int) (w:World) (h:RdPm w v ws ps) (hp:ps.length≤1048576) :
  Calls Tryz.prog 121 #[v,.int .i64 at_,.int .i64 x] w fun e w'=>∃ v',e=.returned v'∧RdPm w' v' ws (ps ++ [⟨at_,x,false⟩])∧Below w.heap.size w w':=by
 obtain ⟨vW,vP,rfl,h1,h2⟩:=h;have H1:=zaa h1;have H2:=zaa h2;obtain ⟨aW,cW,rfl,_⟩:=h1.shape;obtain ⟨aP,cP,rfl,_⟩:=h2.shape;clear h1 h2
 have hb0:Below w.heap.size w (((w.alloc (.cells #[.slice aW ws.length cW,.slice aP ps.length cP] 40)).alloc (.cells #[.slice none 0 0,.slice none 0 0] 40)).alloc (.cells #[] 147)):=by
  repeat (refine Below.alloc ?_ (by simp <;> omega) _)
  exact Below.refl _ _
 have ho0:(((w.alloc (.cells #[.slice aW ws.length cW,.slice aP ps.length cP] 40)).alloc (.cells #[.slice none 0 0,.slice none 0 0] 40)).alloc (.cells #[] 147)).ownsRow (w.heap.size+2) 147 3 (.slice (some ⟨w.heap.size+1+1,0,none⟩) 0 0) 0 []:=by
  simpa using World.ownsRow_lit (base:=w.heap.size+2) (e:=147) (size:=3) ((w.alloc (.cells #[.slice aW ws.length cW,.slice aP ps.length cP] 40)).alloc (.cells #[.slice none 0 0,.slice none 0 0] 40)) #[] 0 (by simp) (by simp) rfl
 have HO:=zaa ho0;have HB:=zaa hb0;clear ho0 hb0;go_enter Tryz.func121,Tryz.ntmps121;go_wp2_with (at_builtin;refine zak _ rfl (.tmp 7) (.tmp 9) 38 rfl (w.heap.size+2) 147 (.agg #[.int .i64 0,.int .i64 0,.bool false]) 3 24 Tryz.underlying38 zkk rfl (by decide) _ 0 [] rfl HO.o _ ps.length (sts ps) rfl (Rd.below H2.o HB.o) (ztq ps) (by simp[maxLen];omega) (by omega) (by simp) ?_);intro v1 w1 hown1 hgr1
 have hown1:w1.ownsRow (w.heap.size+2) 147 3 v1 ps.length (sts ps):=by simpa using hown1
 have hz1:w.heap.size+3≤w1.heap.size:=by have:=hgr1.size;simp at this;omega
 have V0:=(hgr1.block w.heap.size (by simp <;> omega) (by simp[Value.ownBlock] <;> omega)).trans (zal (zal (zag rfl)));have V1:=(hgr1.block (w.heap.size+1) (by simp <;> omega) (by simp[Value.ownBlock] <;> omega)).trans (zal (zag (by simp)));have B1:=HB.o.grown hgr1 (by simp <;> omega) (fun k hk=>by simp[Value.ownBlock] at hk;omega);have hB2:=B1.alloc (by omega) (.cells #[.int .i64 at_,.int .i64 x,.bool false] 147);have V0':=zal (o:=.cells #[.int .i64 at_,.int .i64 x,.bool false] 147) V0;have V1':=zal (o:=.cells #[.int .i64 at_,.int .i64 x,.bool false] 147) V1;have ho2:=hown1.alloc (.cells #[.int .i64 at_,.int .i64 x,.bool false] 147)
 have hr2:Rd (w1.alloc (.cells #[.int .i64 at_,.int .i64 x,.bool false] 147)) 3 (.slice (some ⟨w1.heap.size,0,none⟩) 1 1) 1 (St.cells ⟨at_,x,false⟩):=by
  refine ⟨rfl,_,_,rfl,⟨Nat.le_refl _,fun e=>by cases e⟩,fun _=>⟨w1.heap.size,0,rfl,by simp,fun j hj=>?_⟩⟩;obtain ⟨e0,e1,e2⟩:=zas (zag (w:=w1) (o:=.cells #[.int .i64 at_,.int .i64 x,.bool false] 147) rfl);rw[Nat.zero_add]
  rcases (show j=0∨j=1∨j=2 from by omega) with rfl | rfl | rfl
  ·exact e0
  ·exact e1
  ·exact e2
 have HV:=zaa (And.intro V0' V1');have HB2:=zaa hB2;have HO2:=zaa ho2;have HR2:=zaa hr2;clear hown1 hgr1 V0 V1 B1 V0' V1' hB2 ho2 hr2;go_wp2_with (at_builtin;refine zak _ rfl (.tmp 10) (.tmp 14) 38 rfl (w.heap.size+2) 147 (.agg #[.int .i64 0,.int .i64 0,.bool false]) 3 24 Tryz.underlying38 zkk rfl (by decide) _ ps.length (sts ps) rfl HO2.o _ 1 (St.cells ⟨at_,x,false⟩) rfl HR2.o (fun u hu=>by simp[St.cells] at hu;rcases hu with rfl | rfl | rfl <;> rfl) (by simp[maxLen];omega) (by omega) (by simp;omega) ?_);intro v2 w2 hown2 hgr2
 have hr3:RdS w2 v2 (ps ++ [⟨at_,x,false⟩]):=by
  have:=(zai hown2).rd;unfold RdS;rw[zod,List.length_append];exact this
 have L3:=zaa (fun k hk=>(hown2.lt k hk).1);have R3:Hid (RdS w2 v2 (ps ++ [⟨at_,x,false⟩])):=hr3;obtain ⟨_,a2,c2,e2,_⟩:=hr3;simp only[List.length_append,List.length_singleton] at e2;subst e2
 have hz2:w1.heap.size+1≤w2.heap.size:=by have:=hgr2.size;simp at this;omega
 have hne:∀ b,b < w.heap.size+2→¬ some b=Value.ownBlock v1:=by
  intro b hb e;have:=(HO2.o.lt b e.symm).1;omega
 have V0:=(hgr2.block w.heap.size (by simp <;> omega) (hne _ (by omega))).trans HV.o.1;have V1:=(hgr2.block (w.heap.size+1) (by simp <;> omega) (hne _ (by omega))).trans HV.o.2;have B2:=zaa (HB2.o.grown hgr2 (by simp <;> omega) (fun k hk=>by have:=(HO2.o.lt k hk).1;omega));obtain ⟨z1,z2,z3,z4⟩:=zad V0;obtain ⟨t1,t2,t3,t4⟩:=zad V1;clear hown2 hgr2 V0 V1;go_wp2;refine bodyPost_ret (v:=.agg #[.slice aW ws.length cW,.slice a2 (ps.length+1) c2]) (by simp[results,Tryz.results121,go_sem,t1,t2]) rfl ?_;have B3:=((B2.o.setCell (p:=⟨w.heap.size,1,none⟩) (Nat.le_refl _) (.slice a2 (ps.length+1) c2)).setCell (p:=⟨w.heap.size+1,0,none⟩) (by simp only;omega) (.slice aW ws.length cW)).setCell (p:=⟨w.heap.size+1,1,none⟩) (by simp only;omega) (.slice a2 (ps.length+1) c2);refine ⟨_,rfl,⟨_,_,rfl,Rd.below H1.o B3,Rd.same R3.o (by simp) (fun b _ hb=>?_)⟩,B3⟩;have:=L3.o b hb;rw[Below.heap_setCell _ _ _ _ (by simp only;omega),Below.heap_setCell _ _ _ _ (by simp only;omega),Below.heap_setCell _ _ _ _ (by simp only;omega)]
theorem zom (v:Value) (ws:List Int) (ps:List St) (at_ x:Int) (w:World) (h:RdPm w v ws ps) (hw:ws.length≤1048576) (hp:ps.length≤1048576) :
  Calls Tryz.prog 146 #[v,.int .i64 at_,.int .i64 x] w fun e w'=>∃ v',e=.returned (.tuple #[v',.int .i64 (zdv ws ps at_ x)])∧RowPm w' w.heap.size w'.heap.size v' (zcy ws ps at_ x) (zdb ws ps at_ x)∧Below w.heap.size w w':=by
 have HR:=zaa h;obtain ⟨vW,vP,rfl,h1,h2⟩:=h;obtain ⟨aW,cW,rfl,_⟩:=h1.shape;obtain ⟨aP,cP,rfl,_⟩:=h2.shape;clear h1 h2
 have hb0:Below w.heap.size w ((w.alloc (.cells #[.slice aW ws.length cW,.slice aP ps.length cP] 40)).alloc (.cells #[.slice none 0 0,.slice none 0 0] 40)):=by
  repeat (refine Below.alloc ?_ (by simp <;> omega) _)
  exact Below.refl _ _
 rcases zjv ws ps at_ x with ⟨hc,e1,e2,e3⟩ | ⟨hc,hx,e1,e2,e3⟩ | ⟨hc,hx,hl,e1,e2,e3⟩ | ⟨hc,hx,hl,e1,e2,e3⟩
 ·rw[e1,e2,e3];clear e1 e2 e3
  have hne:(zjw ws ps at_ != 0)=true:=by rcases hc with hc | hc <;> simp[hc]
  clear hc;go_enter Tryz.func146,Tryz.ntmps146;go_wp2_with fail;refine (zcx _ ws ps _ _ (HR.o.below hb0) hw hp).mono ?_;rintro e w1 ⟨rfl,hb1⟩;have V1:=(hb1.block (w.heap.size+1) (by simp)).trans (zag (by simp));obtain ⟨t1,t2,t3,t4⟩:=zad V1;have B1:=zaa (zab hb0 hb1 (by simp <;> omega));clear hb0 hb1 V1;go_wp2;refine bodyPost_ret (v:=.tuple #[.agg #[.slice none 0 0,.slice none 0 0],.int .i64 (zjw ws ps at_)]) (by simp[results,Tryz.results146,go_sem,t1,t2]) rfl ?_;exact ⟨_,rfl,RowPm.zero _ _ _,(B1.o.setCell (by simp only;omega) _).setCell (by simp only;omega) _⟩
 ·rw[e1,e2,e3];clear e1 e2 e3;have C:=zaa hc;clear hc;go_enter Tryz.func146,Tryz.ntmps146;go_wp2_with fail;refine (zcx _ ws ps _ _ (HR.o.below hb0) hw hp).mono ?_;rw[C.o];rintro e w1 ⟨rfl,hb1⟩
  have hz1:w.heap.size+2≤w1.heap.size:=by have:=hb1.size;simp at this;omega
  have V0:=(hb1.block w.heap.size (by simp <;> omega)).trans (zal (zag rfl));have V1:=(hb1.block (w.heap.size+1) (by simp)).trans (zag (by simp));obtain ⟨x1,x2,x3,x4⟩:=zad V0;obtain ⟨t1,t2,t3,t4⟩:=zad V1;have B1:=zaa (zab hb0 hb1 (by simp <;> omega));have VH:=zaa (And.intro V0 V1);clear hb0 hb1 V0 V1;go_wp2_with (go_at_call 166;refine (zcm _ _).mono ?_;rintro e w1 ⟨rfl,rfl⟩);refine bodyPost_ret (v:=.tuple #[.agg #[.slice none 0 0,.slice none 0 0],.int .i64 4]) (by simp[results,Tryz.results146,go_sem,t1,t2]) rfl ?_;exact ⟨_,rfl,RowPm.zero _ _ _,(B1.o.setCell (by simp only;omega) _).setCell (by simp only;omega) _⟩
 ·rw[e1,e2,e3];clear e1 e2 e3;have C:=zaa hc
  have hl':((ps.length:Int) == 400)=true:=by simp[hl]
  clear hc hl;go_enter Tryz.func146,Tryz.ntmps146;go_wp2_with fail;refine (zcx _ ws ps _ _ (HR.o.below hb0) hw hp).mono ?_;rw[C.o];rintro e w1 ⟨rfl,hb1⟩
  have hz1:w.heap.size+2≤w1.heap.size:=by have:=hb1.size;simp at this;omega
  have V0:=(hb1.block w.heap.size (by simp <;> omega)).trans (zal (zag rfl));have V1:=(hb1.block (w.heap.size+1) (by simp)).trans (zag (by simp));obtain ⟨x1,x2,x3,x4⟩:=zad V0;have B1:=zaa (zab hb0 hb1 (by simp <;> omega));have VH:=zaa (And.intro V0 V1);clear hb0 hb1 V0 V1;go_wp2_with (go_at_call 166;refine (zcm _ _).mono ?_;rintro e w1 ⟨rfl,rfl⟩);refine (zik _ ws ps _ (HR.o.below B1.o) (by omega) (by omega)).mono ?_;rintro e w2 ⟨v2,rfl,hr2,hb2⟩;obtain ⟨vW2,vP2,rfl,hI2,hS2⟩:=hr2;obtain ⟨aW2,cW2,rfl⟩:=RdI.form hI2.rd rfl;obtain ⟨aP2,cP2,rfl⟩:=RdS.form hS2.rd rfl;have hz2:=hb2.size;have B2:=zaa (zab B1.o hb2 (by omega));have V2:=zaa ((hb2.block _ hz1).trans VH.o.2);have RI:=zaa hI2;have RS:=zaa hS2;clear hb2 hI2 hS2 x1 x2 x3 x4;obtain ⟨t5,t6,t7,t8⟩:=zad (zal (o:=.cells #[.slice aW2 ws.length cW2,.slice aP2 ps.length cP2] 40) V2.o);go_wp2;refine bodyPost_ret (v:=.tuple #[.agg #[.slice aW2 ws.length cW2,.slice aP2 ps.length cP2],.int .i64 7]) (by simp[results,Tryz.results146,go_sem,t5,t6]) rfl ?_
  have hrow:RowPm w2 w1.heap.size w2.heap.size (.agg #[.slice aW2 ws.length cW2,.slice aP2 ps.length cP2]) ws ps:=⟨_,_,rfl,RI.o,RS.o⟩
  exact ⟨_,rfl,(((hrow.alloc (Nat.le_refl _) _).setCell (by simp only;omega) _).setCell (by simp only;omega) _).wide (by omega) (by simp),((B2.o.alloc (by omega) _).setCell (by simp only;omega) _).setCell (by simp only;omega) _⟩
 ·rw[e1,e2,e3];clear e1 e2 e3;have C:=zaa hc
  have hl':((ps.length:Int) == 400)=false:=by simp;omega
  clear hc hl;go_enter Tryz.func146,Tryz.ntmps146;go_wp2_with fail;refine (zcx _ ws ps _ _ (HR.o.below hb0) hw hp).mono ?_;rw[C.o];rintro e w1 ⟨rfl,hb1⟩
  have hz1:w.heap.size+2≤w1.heap.size:=by have:=hb1.size;simp at this;omega
  have V0:=(hb1.block w.heap.size (by simp <;> omega)).trans (zal (zag rfl));have V1:=(hb1.block (w.heap.size+1) (by simp)).trans (zag (by simp));obtain ⟨x1,x2,x3,x4⟩:=zad V0;have B1:=zaa (zab hb0 hb1 (by simp <;> omega));have VH:=zaa (And.intro V0 V1);clear hb0 hb1 V0 V1;go_wp2_with (go_at_call 166;refine (zcm _ _).mono ?_;rintro e w1 ⟨rfl,rfl⟩);refine (zik _ ws ps _ (HR.o.below B1.o) (by omega) (by omega)).mono ?_;rintro e w2 ⟨v2,rfl,hr2,hb2⟩;obtain ⟨vW2,vP2,rfl,hI2,hS2⟩:=hr2;obtain ⟨aW2,cW2,rfl⟩:=RdI.form hI2.rd rfl;obtain ⟨aP2,cP2,rfl⟩:=RdS.form hS2.rd rfl;have hz2:=hb2.size;have B2:=zaa (zab B1.o hb2 (by omega));have V2:=zaa ((hb2.block _ hz1).trans VH.o.2);have RI:=zaa hI2;have RS:=zaa hS2;clear hb2 hI2 hS2 x1 x2 x3 x4;have V9:Hid (((w2.alloc (.cells #[.slice aW2 ws.length cW2,.slice aP2 ps.length cP2] 40)).alloc (.cells #[.int .i64 at_,.int .i64 x,.bool false] 147)).heap[w2.heap.size]?=some (.cells #[.slice aW2 ws.length cW2,.slice aP2 ps.length cP2] 40 (0,0))):=zal (zag rfl);have V3:=zaa (zal (o:=.cells #[.int .i64 at_,.int .i64 x,.bool false] 147) (zal (o:=.cells #[.slice aW2 ws.length cW2,.slice aP2 ps.length cP2] 40) V2.o));have B3:=zaa ((B2.o.alloc (by omega) (.cells #[.slice aW2 ws.length cW2,.slice aP2 ps.length cP2] 40)).alloc (by simp;omega) (.cells #[.int .i64 at_,.int .i64 x,.bool false] 147))
  have bb:Below w2.heap.size w2 ((w2.alloc (.cells #[.slice aW2 ws.length cW2,.slice aP2 ps.length cP2] 40)).alloc (.cells #[.int .i64 at_,.int .i64 x,.bool false] 147)):=by
   repeat (refine Below.alloc ?_ (by simp <;> omega) _)
   exact Below.refl _ _
  have RI3:=zaa (RI.o.below bb (Nat.le_refl _));have RS3:=zaa (RS.o.below bb (Nat.le_refl _))
  have hr2:Rd ((w2.alloc (.cells #[.slice aW2 ws.length cW2,.slice aP2 ps.length cP2] 40)).alloc (.cells #[.int .i64 at_,.int .i64 x,.bool false] 147)) 3 (.slice (some ⟨w2.heap.size+1,0,none⟩) 1 1) 1 (St.cells ⟨at_,x,false⟩):=by
   refine ⟨rfl,_,_,rfl,⟨Nat.le_refl _,fun e=>by cases e⟩,fun _=>⟨w2.heap.size+1,0,rfl,by simp,fun j hj=>?_⟩⟩;obtain ⟨e0,e1,e2⟩:=zas (zag (w:=w2.alloc (.cells #[.slice aW2 ws.length cW2,.slice aP2 ps.length cP2] 40)) (o:=.cells #[.int .i64 at_,.int .i64 x,.bool false] 147) (k:=w2.heap.size+1) (by simp));rw[Nat.zero_add]
   rcases (show j=0∨j=1∨j=2 from by omega) with rfl | rfl | rfl
   ·exact e0
   ·exact e1
   ·exact e2
  have HR2:=zaa hr2;clear hr2 bb;go_wp2_with (at_builtin;refine zak _ rfl (.tmp 29) (.tmp 33) 38 rfl w1.heap.size 147 (.agg #[.int .i64 0,.int .i64 0,.bool false]) 3 24 Tryz.underlying38 zkk rfl (by decide) _ ps.length (sts ps) rfl RS3.o.1 _ 1 (St.cells ⟨at_,x,false⟩) rfl HR2.o (fun u hu=>by simp[St.cells] at hu;rcases hu with rfl | rfl | rfl <;> rfl) (by simp[maxLen];omega) (by omega) (by simp;omega) ?_);intro v3 w3 hown3 hgr3
  have hr3:Row w3 147 3 w1.heap.size w3.heap.size v3 (ps ++ [(⟨at_,x,false⟩:St)]).length (sts (ps ++ [⟨at_,x,false⟩])):=by
   rw[zod,List.length_append];exact zai hown3
  obtain ⟨aP3,cP3,rfl⟩:=RdS.form hr3.rd (n:=ps.length+1) (by simp)
  have hz3:w2.heap.size+2≤w3.heap.size:=by have:=hgr3.size;simp at this;omega
  have hne:∀ b,(b < w1.heap.size∨w2.heap.size≤b)→¬ some b=(Value.slice aP2 ps.length cP2).ownBlock:=by
   intro b hb e;have h1:=(RS3.o.1.lt b e.symm).1;have h2:=RS3.o.2 b e.symm;omega
  have W0:=(hgr3.block w2.heap.size (by simp <;> omega) (hne _ (.inr (Nat.le_refl _)))).trans V9.o;have W1:=(hgr3.block (w.heap.size+1) (by simp <;> omega) (hne _ (.inl (by omega)))).trans V3.o;have N4:=zaa (hr3.ne_type W0 (by decide));have RI4:=zaa (RI3.o.apart RS3.o (by decide) hgr3);have RS4:=zaa hr3;have B4:=zaa (B3.o.grown hgr3 (by simp <;> omega) (fun k hk=>by have:=(RS3.o.1.lt k hk).1;omega));obtain ⟨x5,x6,x7,x8⟩:=zad W0;obtain ⟨t5,t6,t7,t8⟩:=zad W1;clear hown3 hgr3 hr3 W0 W1;go_wp2;refine bodyPost_ret (v:=.tuple #[.agg #[.slice aW2 ws.length cW2,.slice aP3 (ps.length+1) cP3],.int .i64 0]) (by simp[results,Tryz.results146,go_sem,t5,t6]) rfl ?_;refine ⟨_,rfl,⟨_,_,rfl,?_,?_⟩,((B4.o.setCell (by simp only;omega) _).setCell (by simp only;omega) _).setCell (by simp only;omega) _⟩
  ·refine (RI4.o.same fun b h1 h2=>?_).wide (by omega) (by simp;omega);rw[Below.heap_setCell _ _ _ _ (by simp only;omega),Below.heap_setCell _ _ _ _ (by simp only;omega),Below.heap_setCell _ _ _ _ (by simp only;omega)]
  ·refine Row.wide (((RS4.o.setOther (a:=⟨w2.heap.size,1,none⟩) N4.o (.slice aP3 (ps.length+1) cP3)).same fun b h1 h2=>?_)) (by omega) (by simp);rw[Below.heap_setCell _ _ _ _ (by simp only;omega),Below.heap_setCell _ _ _ _ (by simp only;omega)]
theorem yajl (l:List St) (j:Nat) (hj:j / 3 < l.length):(sts l)[j]?=(l[j / 3]).cells[j % 3]?:=by
 have:=zbl St.cells 3 St.cells_len l (j / 3) (j % 3) hj (Nat.mod_lt _ (by decide));rw[show j / 3*3+j % 3=j from by omega] at this;exact this
theorem yaiu (l:List St) (m:Nat) (hm:m < l.length) (b:Bool):(sts l).set (m*3+2) (.bool b)=sts (l.set m ⟨l[m].at_,l[m].val,b⟩):=by
 apply List.ext_getElem?;intro j
 by_cases hj:j < l.length*3
 ·have h3:j / 3 < l.length:=by omega
  have h3':j / 3 < (l.set m ⟨l[m].at_,l[m].val,b⟩).length:=by simpa using h3
  rw[zmp (by rw[zlr];exact hj),yajl _ j h3',yajl l j h3,List.getElem_set]
  by_cases e:m=j / 3
  ·rw[if_pos e];subst e
   rcases (show j % 3=0∨j % 3=1∨j % 3=2 from by omega) with r | r | r
   ·rw[if_neg (by omega),r];rfl
   ·rw[if_neg (by omega),r];rfl
   ·rw[if_pos (by omega),r];rfl
  ·rw[if_neg e,if_neg (by omega)]
 ·rw[List.getElem?_eq_none (by rw[List.length_set,zlr];omega),List.getElem?_eq_none (by rw[zlr,List.length_set];omega)]
def fl1 (k:Int) (p:St):St:=if p.at_ / 8=k / 8 then ⟨p.at_,p.val,true⟩ else p
def mix (k:Int) (ps:List St) (m:Nat):List St:=(ps.take m).map (fl1 k) ++ ps.drop m
theorem zuf (k:Int) (ps:List St) (m:Nat) (hm:m≤ps.length):(mix k ps m).length=ps.length:=by simp[mix];omega
theorem yacj (k:Int) (ps:List St):mix k ps 0=ps:=by simp[mix]
theorem yamh (k:Int) (ps:List St):mix k ps ps.length=ps.map (fl1 k):=by simp[mix]
theorem yade (k:Int) (ps:List St) (m:Nat) (hm:m < ps.length) (h:m < (mix k ps m).length):(mix k ps m)[m]=ps[m]:=by
 have e:(mix k ps m)[m]?=ps[m]?:=by
  unfold mix;rw[List.getElem?_append_right (by rw[List.length_map,List.length_take];omega)];simp[Nat.min_eq_left (Nat.le_of_lt hm)]
 rw[List.getElem?_eq_getElem h,List.getElem?_eq_getElem hm] at e;exact Option.some.inj e
theorem yady (k:Int) (ps:List St) (m:Nat) (hm:m < ps.length):mix k ps (m+1)=(mix k ps m).set m (fl1 k ps[m]):=by
 unfold mix;rw[List.take_succ_eq_append_getElem hm,List.map_append,List.set_append_right _ _ (by rw[List.length_map,List.length_take];omega)];simp only[List.map_cons,List.map_nil,List.length_map,List.length_take,Nat.min_eq_left (Nat.le_of_lt hm),Nat.sub_self];rw[List.drop_eq_getElem_cons hm,List.set_cons_zero,List.append_assoc];rfl
theorem yais {k:Int} {ps:List St} {m:Nat} (hm:m < ps.length) (h:ps[m].at_ / 8=k / 8):(sts (mix k ps m)).set (m*3+2) (.bool true)=sts (mix k ps (m+1)):=by
 have hl:m < (mix k ps m).length:=by rw[zuf _ _ _ (by omega)];exact hm
 rw[yaiu _ m hl,yady k ps m hm,yade k ps m hm hl];unfold fl1;rw[if_pos h]
theorem yacq {k:Int} {ps:List St} {m:Nat} (hm:m < ps.length) (h:¬ ps[m].at_ / 8=k / 8):mix k ps (m+1)=mix k ps m:=by
 have hl:m < (mix k ps m).length:=by rw[zuf _ _ _ (by omega)];exact hm
 rw[yady k ps m hm];unfold fl1;rw[if_neg h];have:=yade k ps m hm hl;rw[← this,List.set_getElem_self]
theorem zyf (v:Value) (ws:List Int) (ps:List St) (k:Nat) (w:World) (h:RdPm w v ws ps) (hp:ps.length≤1048576) (hk:k < 336) (hok:∀ j (h:j < ps.length),0≤ps[j].at_∧ps[j].at_ < 336) :
  Calls Tryz.prog 122 #[v,.int .i64 (k:Int)] w fun e w'=>∃ v',e=.returned v'∧RdPm w' v' ws (ps.map (fl1 (k:Int)))∧Below w.heap.size w w':=by
 obtain ⟨vW,vP,rfl,h1,h2⟩:=h;have H1:=zaa h1;have H2:=zaa h2;have HOK:=zaa hok;obtain ⟨aW,cW,rfl,_⟩:=h1.shape;obtain ⟨aP,cP,rfl,_⟩:=h2.shape;clear h1 h2 hok
 have hb0:Below w.heap.size w (((w.alloc (.cells #[.slice aW ws.length cW,.slice aP ps.length cP] 40)).alloc (.cells #[.slice none 0 0,.slice none 0 0] 40)).alloc (.cells #[] 147)):=by
  repeat (refine Below.alloc ?_ (by simp <;> omega) _)
  exact Below.refl _ _
 have ho0:(((w.alloc (.cells #[.slice aW ws.length cW,.slice aP ps.length cP] 40)).alloc (.cells #[.slice none 0 0,.slice none 0 0] 40)).alloc (.cells #[] 147)).ownsRow (w.heap.size+2) 147 3 (.slice (some ⟨w.heap.size+1+1,0,none⟩) 0 0) 0 []:=by
  simpa using World.ownsRow_lit (base:=w.heap.size+2) (e:=147) (size:=3) ((w.alloc (.cells #[.slice aW ws.length cW,.slice aP ps.length cP] 40)).alloc (.cells #[.slice none 0 0,.slice none 0 0] 40)) #[] 0 (by simp) (by simp) rfl
 have HO:=zaa ho0;have HB:=zaa hb0;clear ho0 hb0;go_enter Tryz.func122,Tryz.ntmps122;go_wp2_with (at_builtin;refine zak _ rfl (.tmp 6) (.tmp 8) 38 rfl (w.heap.size+2) 147 (.agg #[.int .i64 0,.int .i64 0,.bool false]) 3 24 Tryz.underlying38 zkk rfl (by decide) _ 0 [] rfl HO.o _ ps.length (sts ps) rfl (Rd.below H2.o HB.o) (ztq ps) (by simp[maxLen];omega) (by omega) (by simp) ?_);intro v1 w1 hown1 hgr1
 have hown1:w1.ownsRow (w.heap.size+2) 147 3 v1 ps.length (sts ps):=by simpa using hown1
 obtain ⟨a1,c1,rfl⟩:=RdS.form (zai hown1).rd rfl
 have hz1:w.heap.size+3≤w1.heap.size:=by have:=hgr1.size;simp at this;omega
 have V0:=(hgr1.block w.heap.size (by simp <;> omega) (by simp[Value.ownBlock] <;> omega)).trans (zal (zal (zag rfl)));have V1:=(hgr1.block (w.heap.size+1) (by simp <;> omega) (by simp[Value.ownBlock] <;> omega)).trans (zal (zag (by simp)));have B1:=HB.o.grown hgr1 (by simp <;> omega) (fun k hk=>by simp[Value.ownBlock] at hk;omega);obtain ⟨x1,x2,x3,x4⟩:=zad V0;have RH:Hid (Row (w1.setCell ⟨w.heap.size,1,none⟩ (.slice a1 ps.length c1)) 147 3 (w.heap.size+2) w1.heap.size (.slice a1 ps.length c1) ps.length (sts ps)):=(zai hown1).same (fun b h1 _=>Below.heap_setCell _ _ _ _ (by simp only;omega));have VH:=zaa (And.intro (zga V0 (.slice a1 ps.length c1)) ((Below.heap_setCell w1 ⟨w.heap.size,1,none⟩ (.slice a1 ps.length c1) (w.heap.size+1) (by simp)).trans V1));have BH:=zaa (B1.setCell (p:=⟨w.heap.size,1,none⟩) (Nat.le_refl _) (.slice a1 ps.length c1));clear hown1 hgr1 V0 V1 B1;go_wp2
 go_loopw [5] (fun i wr=>∃ m:Nat,m≤ps.length∧i=.int .i64 m∧Row wr 147 3 (w.heap.size+2) w1.heap.size (.slice a1 ps.length c1) ps.length (sts (mix (k:Int) ps m))∧(wr.heap[w.heap.size]?=some (.cells #[.slice aW ws.length cW,.slice a1 ps.length c1] 40 (0,0))∧wr.heap[w.heap.size+1]?=some (.cells #[.slice none 0 0,.slice none 0 0] 40 (0,0)))∧Below w.heap.size w wr∧w1.heap.size≤wr.heap.size) (fun i _=>ps.length - (intOf i).toNat)
 case atStart=>exact ⟨0,by omega,rfl,by rw[yacj];exact RH.o,VH.o,BH.o,by simp⟩
 case round =>
  obtain ⟨m,hm,rfl,hrow,hv,hb,hz⟩:=hrel;obtain ⟨y1,y2,y3,y4⟩:=zad hv.1
  by_cases hlt:m < ps.length
  ·have hl:=zuf (k:Int) ps m hm;obtain ⟨_,ao',cap',e',_,hc⟩:=hrow.rd
   cases e'
   obtain ⟨b,o,rfl,hbl,_⟩:=hc (by omega)
   obtain ⟨rfl,hb1,hb2,_,hfr,hcl⟩:=hrow.at
   have hml:m < (mix (k:Int) ps m).length:=by omega
   have e0:=(hcl (m*3) (by omega)).trans (zey _ m hml);have e2:=(hcl (m*3+2) (by omega)).trans (zhx _ m hml);rw[yade _ _ _ hlt hml] at e0 e2;have f2:=hfr (m*3+2);obtain ⟨q0,q1⟩:=HOK.o m hlt;have ST:=zaa (hrow.stored (m*3+2) (.bool true));have BH2:=zaa (hb.setCell (p:=⟨b,m*3+2,none⟩) (by simp only;omega) (.bool true));have VH2:=zaa (And.intro ((Below.heap_setCell wr ⟨b,m*3+2,none⟩ (.bool true) w.heap.size (by simp only;omega)).trans hv.1) ((Below.heap_setCell wr ⟨b,m*3+2,none⟩ (.bool true) (w.heap.size+1) (by simp only;omega)).trans hv.2));have RM:=zaa hrow;have VM:=zaa hv;clear hrow hc hfr hcl hv hl
   by_cases c:ps[m].at_ / 8=(k:Int) / 8
   ·have c':(ps[m].at_ / 8 == (k:Int) / 8)=true:=by simpa using c
    have E:=zaa (yais hlt c);clear c;go_wp2
    go_roundw
    case rel=>exact ⟨m+1,by omega,by go_num,E.o ▸ ST.o,VH2.o,BH2.o,by simp;omega⟩
    case measure=>simp[intOf];omega
   ·have c':(ps[m].at_ / 8 == (k:Int) / 8)=false:=by simpa using c
    have E:=zaa (yacq hlt c);clear c;go_wp2
    go_roundw
    case rel=>exact ⟨m+1,by omega,by go_num,E.o ▸ RM.o,VM.o,hb,hz⟩
    case measure=>simp[intOf];omega
  ·have e:m=ps.length:=by omega
   subst e;obtain ⟨t1,t2,t3,t4⟩:=zad hv.2;have RM:=zaa hrow;clear hrow hv;go_wp2;refine bodyPost_ret (v:=.agg #[.slice aW ws.length cW,.slice a1 ps.length c1]) (by simp[results,Tryz.results122,go_sem,t1,t2]) rfl ?_;have B3:=(hb.setCell (p:=⟨w.heap.size+1,0,none⟩) (by simp only;omega) (.slice aW ws.length cW)).setCell (p:=⟨w.heap.size+1,1,none⟩) (by simp only;omega) (.slice a1 ps.length c1);refine ⟨_,rfl,⟨_,_,rfl,Rd.below H1.o B3,?_⟩,B3⟩;have R3:=(RM.o.same (w':=(wr.setCell ⟨w.heap.size+1,0,none⟩ (.slice aW ws.length cW)).setCell ⟨w.heap.size+1,1,none⟩ (.slice a1 ps.length c1)) (fun b h1 h2=>by rw[Below.heap_setCell _ _ _ _ (by simp only;omega),Below.heap_setCell _ _ _ _ (by simp only;omega)])).rd;unfold RdS;rw[yamh] at R3;rw[List.length_map];exact R3
def zjm (ws:List Int) (ps:List St):List Int:=ps.foldl (fun acc p=>if p.fl then acc.set p.at_.toNat p.val else acc) ws
def zgs (ps:List St):List St:=ps.filter (fun p=>!p.fl)
theorem zke (ws:List Int) (ps:List St) (p:St):zjm ws (ps ++ [p])=if p.fl then (zjm ws ps).set p.at_.toNat p.val else zjm ws ps:=by simp[zjm]
theorem ziq (ws:List Int):∀ ps:List St,(zjm ws ps).length=ws.length:=by
 intro ps;unfold zjm
 induction ps generalizing ws with
 | nil=>rfl
 | cons p ps ih =>
  rw[List.foldl_cons,ih]
  split <;> simp
theorem zki (ps:List St) (p:St):zgs (ps ++ [p])=if p.fl then zgs ps else zgs ps ++ [p]:=by
 unfold zgs;rw[List.filter_append]
 cases h:p.fl <;> simp[h]
theorem yako (ps:List St):(zgs ps).length≤ps.length:=List.length_filter_le _ _
structure FenInv (w wr:World) (ws:List Int) (ps:List St) (lo hi:Nat) (vW vP vL:Value) (m:Nat):Prop where
 words:Row wr 3 1 lo hi vW ws.length (zav (zjm ws (ps.take m)))
 left:wr.ownsRow hi 147 3 vL (zgs (ps.take m)).length (sts (zgs (ps.take m)))
 pend:Row wr 147 3 lo hi vP ps.length (sts ps)
 box:wr.heap[w.heap.size]?=some (.cells #[vW,vP] 40 (0,0))
 res:wr.heap[w.heap.size+1]?=some (.cells #[.slice none 0 0,.slice none 0 0] 40 (0,0))
 below:Below w.heap.size w wr
 size:hi≤wr.heap.size
theorem FenInv.hit {w wr:World} {ws:List Int} {ps:List St} {lo hi:Nat} {b n cap:Nat} {vP vL:Value} {m:Nat} (h:FenInv w wr ws ps lo hi (.slice (some ⟨b,0,none⟩) n cap) vP vL m) (hm:m < ps.length) (hf:ps[m].fl=true) (hlo:w.heap.size+2≤lo) (o:Obj) (hn:n=ws.length) :
  FenInv w ((wr.setCell ⟨b,ps[m].at_.toNat,none⟩ (.int .i64 ps[m].val)).alloc o) ws ps lo hi (.slice (some ⟨b,0,none⟩) n cap) vP vL (m+1):=by
 subst hn;obtain ⟨h1,h2,h3,h4,h5,h6,h7⟩:=h
 obtain ⟨_,hb1,hb2,_⟩:=h1.at
 have e1:zjm ws (ps.take (m+1))=(zjm ws (ps.take m)).set ps[m].at_.toNat ps[m].val:=by rw[zbd ps m hm,zke,if_pos hf]
 have e2:zgs (ps.take (m+1))=zgs (ps.take m):=by rw[zbd ps m hm,zki,if_pos hf]
 refine ⟨?_,?_,?_,?_,?_,?_,?_⟩
 ·rw[e1,← zeo];exact (h1.stored _ _).alloc (by simp;omega) o
 ·rw[e2];exact ((zai h2).same (w':=wr.setCell ⟨b,ps[m].at_.toNat,none⟩ (.int .i64 ps[m].val)) (fun k hk _=>Below.heap_setCell _ _ _ _ (by simp only;omega))).1.alloc o
 ·exact (h3.apart h1 (by decide) (World.ownsRow.stored h1.1 _ _).2).alloc (by simp;omega) o
 ·refine zal ?_;rw[Below.heap_setCell _ _ _ _ (by simp only;omega)];exact h4
 ·refine zal ?_;rw[Below.heap_setCell _ _ _ _ (by simp only;omega)];exact h5
 ·exact (h6.setCell (by simp only;omega) _).alloc (by simp;exact h6.size) o
 ·simp;omega
theorem FenInv.miss {w wr w':World} {ws:List Int} {ps:List St} {lo hi:Nat} {vW vP vL vL':Value} {m:Nat} (h:FenInv w wr ws ps lo hi vW vP vL m) (hm:m < ps.length) (hf:ps[m].fl=false) (hlo:w.heap.size+2≤lo) (hhi:lo≤hi) (o o':Obj)
  (ho:w'.ownsRow hi 147 3 vL' ((zgs (ps.take m)).length+1) (sts (zgs (ps.take m)) ++ St.cells ps[m])) (hg:((wr.alloc o).alloc o').grownBy w' vL.ownBlock):FenInv w w' ws ps lo hi vW vP vL' (m+1):=by
 obtain ⟨h1,h2,h3,h4,h5,h6,h7⟩:=h
 have hl:=fun k hk=>(((h2.alloc o).alloc o').lt k hk).1
 have e1:zjm ws (ps.take (m+1))=zjm ws (ps.take m):=by rw[zbd ps m hm,zke,hf];rfl
 have e2:zgs (ps.take (m+1))=zgs (ps.take m) ++ [ps[m]]:=by rw[zbd ps m hm,zki,hf];rfl
 have keep:∀ k,k < hi→w'.heap[k]?=((wr.alloc o).alloc o').heap[k]?:=fun k hk=>hg.block k (by simp;omega) (fun e=>by have:=hl k e.symm;omega)
 have l4:=(Array.getElem?_eq_some_iff.1 h4).1;refine ⟨?_,?_,?_,?_,?_,?_,?_⟩
 ·rw[e1];exact ((h1.alloc h7 o).alloc (by simp;omega) o').same (fun k _ hk=>keep k hk)
 ·rw[e2,List.length_append,zod];exact ho
 ·exact ((h3.alloc h7 o).alloc (by simp;omega) o').same (fun k _ hk=>keep k hk)
 ·rw[keep _ (by omega)];exact zal (zal h4)
 ·rw[keep _ (by omega)];exact zal (zal h5)
 ·exact ((h6.alloc h6.size o).alloc (by simp;have:=h6.size;omega) o').grown hg (by simp;have:=h6.size;omega) (fun k hk=>by have:=hl k hk;omega)
 ·have:=hg.size;simp at this;omega
theorem zxo (v:Value) (ws:List Int) (ps:List St) (w:World) (h:RdPm w v ws ps) (hw:ws.length≤1048576) (hp:ps.length≤1048576) (hok:∀ j (h:j < ps.length),0≤ps[j].at_∧ps[j].at_ < ws.length) :
  Calls Tryz.prog 123 #[v] w fun e w'=>∃ v',e=.returned v'∧RowPm w' w.heap.size w'.heap.size v' (zjm ws ps) (zgs ps)∧Below w.heap.size w w':=by
 have HR:=zaa h;obtain ⟨vW,vP,rfl,h1,h2⟩:=h;obtain ⟨aW,cW,rfl,_⟩:=h1.shape;obtain ⟨aP,cP,rfl,_⟩:=h2.shape;have HOK:=zaa hok;clear h1 h2 hok
 have hb0:Below w.heap.size w ((w.alloc (.cells #[.slice aW ws.length cW,.slice aP ps.length cP] 40)).alloc (.cells #[.slice none 0 0,.slice none 0 0] 40)):=by
  repeat (refine Below.alloc ?_ (by simp <;> omega) _)
  exact Below.refl _ _
 go_enter Tryz.func123,Tryz.ntmps123;go_wp2_with fail;refine (zma _ ws ps _ (HR.o.below hb0) (by omega) (by omega)).mono ?_;rintro e w2 ⟨v2,rfl,hr2,hb2⟩;obtain ⟨vW2,vP2,rfl,hI2,hS2⟩:=hr2;obtain ⟨aW2,cW2,rfl⟩:=RdI.form hI2.rd rfl;obtain ⟨aP2,cP2,rfl⟩:=RdS.form hS2.rd rfl;simp only[World.size_alloc] at hI2 hS2
 have hz2:w.heap.size+2≤w2.heap.size:=by have:=hb2.size;simp at this;omega
 have V0:=(hb2.block w.heap.size (by simp <;> omega)).trans (zal (zag rfl));have V1:=(hb2.block (w.heap.size+1) (by simp)).trans (zag (by simp));have B2:=zab hb0 hb2 (by simp <;> omega);obtain ⟨x1,x2,x3,x4⟩:=zad V0
 have INV:Hid (FenInv w (((w2.setCell ⟨w.heap.size,0,none⟩ (.slice aW2 ws.length cW2)).setCell ⟨w.heap.size,1,none⟩ (.slice aP2 ps.length cP2)).alloc (.cells #[] 147)) ws ps (w.heap.size+1+1) w2.heap.size (.slice aW2 ws.length cW2) (.slice aP2 ps.length cP2) (.slice (some ⟨w2.heap.size,0,none⟩) 0 0) 0):=by
  refine ⟨?_,?_,?_,?_,?_,?_,?_⟩
  ·refine ((hI2.same fun b hb1 _=>?_).alloc (by simp) _);rw[Below.heap_setCell _ _ _ _ (by simp only;omega),Below.heap_setCell _ _ _ _ (by simp only;omega)]
  ·have:=World.ownsRow_lit (base:=w2.heap.size) (e:=147) (size:=3) ((w2.setCell ⟨w.heap.size,0,none⟩ (.slice aW2 ws.length cW2)).setCell ⟨w.heap.size,1,none⟩ (.slice aP2 ps.length cP2)) #[] 0 (by simp) (by simp) rfl;simpa[zgs,sts] using this
  ·refine ((hS2.same fun b hb1 _=>?_).alloc (by simp) _);rw[Below.heap_setCell _ _ _ _ (by simp only;omega),Below.heap_setCell _ _ _ _ (by simp only;omega)]
  ·exact zal (zga (zep V0 _) _)
  ·refine zal ?_;rw[Below.heap_setCell _ _ _ _ (by simp only;omega),Below.heap_setCell _ _ _ _ (by simp only;omega)];exact V1
  ·exact ((B2.setCell (by simp only;omega) _).setCell (by simp only;omega) _).alloc (by simp;omega) _
  ·simp
 clear hb0 hb2 hI2 hS2 V0 V1 B2;go_wp2
 go_loopw [3,4,5] (fun vL i _ wr=>∃ m:Nat,m≤ps.length∧i=.int .i64 m∧Hid (FenInv w wr ws ps (w.heap.size+1+1) w2.heap.size (.slice aW2 ws.length cW2) (.slice aP2 ps.length cP2) vL m)) (fun _ i _ _=>ps.length - (intOf i).toNat)
 case atStart=>exact ⟨0,by omega,rfl,INV⟩
 case round =>
  obtain ⟨m,hm,rfl,I⟩:=hrel;obtain ⟨y1,y2,y3,y4⟩:=zad I.o.box
  by_cases hlt:m < ps.length
  ·obtain ⟨_,ao',cap',e',_,hc⟩:=I.o.pend.rd
   cases e'
   obtain ⟨b,o,rfl,hbl,_⟩:=hc (by omega)
   obtain ⟨rfl,_,_,_,hfr,hcl⟩:=I.o.pend.at
   have e0:=(hcl (m*3) (by omega)).trans (zey _ m hlt);have e1:=(hcl (m*3+1) (by omega)).trans (zie _ m hlt);have e2:=(hcl (m*3+2) (by omega)).trans (zhx _ m hlt);obtain ⟨q0,q1⟩:=HOK.o m hlt;have hsz:=I.o.size;clear hc hfr hcl
   cases hf:ps[m].fl
   ·rw[hf] at e2
    have ec:St.cells ⟨ps[m].at_,ps[m].val,false⟩=St.cells ps[m]:=by simp[St.cells,hf]
    have hr:=yaqx (wr.alloc (.cells #[.int .i64 ps[m].at_,.int .i64 ps[m].val,.bool false] 147)) ps[m].at_ ps[m].val false;simp only[World.size_alloc] at hr;have HRD:=zaa hr;have HOW:=zaa ((I.o.left.alloc (.cells #[.int .i64 ps[m].at_,.int .i64 ps[m].val,.bool false] 147)).alloc (.cells #[.int .i64 ps[m].at_,.int .i64 ps[m].val,.bool false] 147));have hfl:=yako (ps.take m);rw[List.length_take] at hfl;have EC:=zaa ec;have HF:=zaa hf;have HS:=zaa hsz;clear hr ec hf hsz;go_wp2_with (at_builtin;refine zak _ rfl (.tmp 30) (.tmp 32) 38 rfl w2.heap.size 147 (.agg #[.int .i64 0,.int .i64 0,.bool false]) 3 24 Tryz.underlying38 zkk rfl (by decide) _ _ _ rfl HOW.o _ 1 (St.cells ⟨ps[m].at_,ps[m].val,false⟩) rfl HRD.o (zvu _) (by simp[maxLen];omega) (by omega) (by have:=HS.o;simp;omega) ?_);intro vN wN hownN hgrN;have I1:=zaa (I.o.miss hlt HF.o (Nat.le_refl _) hz2 _ _ (by rw[← EC.o];exact hownN) hgrN);clear hownN hgrN;go_wp2
    go_roundw
    case rel=>exact ⟨m+1,by omega,by go_num,I1⟩
    case measure=>simp[intOf];omega
   ·rw[hf] at e2;obtain ⟨_,aw',cw',ew',_,hcw⟩:=I.o.words.rd
    cases ew'
    obtain ⟨bw,ow,rfl,hblw,_⟩:=hcw (by omega)
    obtain ⟨rfl,_,_,_,hfrw,hclw⟩:=(I.o.words.alloc hsz (.cells #[.int .i64 ps[m].at_,.int .i64 ps[m].val,.bool true] 147)).at
    have hj:ps[m].at_.toNat < (zjm ws (ps.take m)).length:=by rw[ziq];omega
    have g0:=hfrw ps[m].at_.toNat;have g1:=(hclw ps[m].at_.toNat (by omega)).trans (zay _ _ hj);have I1:=zaa (I.o.hit hlt hf (Nat.le_refl _) (.cells #[.int .i64 ps[m].at_,.int .i64 ps[m].val,.bool true] 147) rfl);obtain ⟨z1,z2,_,_⟩:=zad (zal (o:=.cells #[.int .i64 ps[m].at_,.int .i64 ps[m].val,.bool true] 147) I.o.box);clear hcw hfrw hclw;go_wp2
    go_roundw
    case rel=>exact ⟨m+1,by omega,by go_num,I1⟩
    case measure=>simp[intOf];omega
  ·have e:m=ps.length:=by omega
   subst e;obtain ⟨aL,cL,hvL⟩:=RdS.form (zai I.o.left).rd (n:=(zgs ps).length) (by rw[List.take_length]);subst hvL;obtain ⟨t1,t2,t3,t4⟩:=zad I.o.res;have hsz:=I.o.size;go_wp2;have I2:=I.o;refine bodyPost_ret (v:=.agg #[.slice aW2 ws.length cW2,.slice aL (zgs ps).length cL]) (by simp[results,Tryz.results123,go_sem,t1,t2]) rfl ?_;refine ⟨_,rfl,⟨_,_,rfl,?_,?_⟩,((I2.below.setCell (by simp only;omega) _).setCell (by simp only;omega) _).setCell (by simp only;omega) _⟩
   ·rw[ziq];have:=I2.words;rw[List.take_length] at this;refine (this.same fun b h1 h2=>?_).wide (by omega) (by simp;omega);rw[Below.heap_setCell _ _ _ _ (by simp only;omega),Below.heap_setCell _ _ _ _ (by simp only;omega),Below.heap_setCell _ _ _ _ (by simp only;omega)]
   ·have:=zai I2.left;rw[List.take_length] at this;refine (this.same fun b h1 h2=>?_).wide (by omega) (by simp);rw[Below.heap_setCell _ _ _ _ (by simp only;omega),Below.heap_setCell _ _ _ _ (by simp only;omega),Below.heap_setCell _ _ _ _ (by simp only;omega)]
end Go.Proofs.YtahiphgmhndgaaaGreatDoor
