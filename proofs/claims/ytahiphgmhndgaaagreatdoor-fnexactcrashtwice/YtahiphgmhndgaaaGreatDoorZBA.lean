/- Several texts laid together: MicF, FsQ, JlP, DtD, JrR, JrJ, DtH, FqG, FqH, NdA. -/
import Derived.Test.YtahiphgmhndgaaaGreatDoorZAH
import Derived.Test.YtahiphgmhndgaaaGreatDoorZAK
import Derived.Deep.DeepCutAuto
import Derived.Deep.RegionHeld3
import Derived.Deep.RegionLaw
import Derived.Test.YtahiphgmhndgaaaGreatDoorZAW
import Derived.Test.YtahiphgmhndgaaaGreatDoorZAZ
import Derived.Test.YtahiphgmhndgaaaGreatDoorZAX
import Derived.Test.YtahiphgmhndgaaaGreatDoorZAO
import Derived.Test.YtahiphgmhndgaaaGreatDoorZAD
import Derived.Test.YtahiphgmhndgaaaGreatDoorZAT
import Derived.Test.YtahiphgmhndgaaaGreatDoorZAI
import Derived.Test.YtahiphgmhndgaaaGreatDoorZAQ
import Derived.Test.YtahiphgmhndgaaaGreatDoorZAP
import Derived.Maps.Views
import Derived.Deep.LoopGhost
import Derived.Laws.OwnMore
import Derived.Lib.SplitLaws
import Derived.Lib.IndexBytes
import Derived.BigQuiet
import Derived.Sort.Walk0
import Derived.Laws.Cover1
import Derived.KernelRfl
import Derived.Deep.RegionWith
import Derived.BigRegion
set_option maxRecDepth 100000
set_option maxHeartbeats 16000000
namespace Go.Proofs.YtahiphgmhndgaaaGreatDoor
open Go.RowKit
theorem yajb (v xW xP xS xQ:Value) (m:Mi) (ws:List Int) (ps:List St) (es:List Int) (qs:List Se) (w:World) (h:RdDev w v ws ps es qs) (hv:v=.agg #[xW,xP,xS,xQ]) (hp1:pmB ws ps=true) (hb1:zbp es qs=true) (hm:miB m=true) :
  Calls Tryz.prog 85 #[v,m.v] w fun e w'=>∃ yW yP yS yQ,e=.returned (.agg #[yW,yP,yS,yQ])∧RdDev w' (.agg #[yW,yP,yS,yQ]) (doW m ws ps) (doP m ps) (doE m es qs) (doQ m qs)∧(yQ=xQ∨∀ k,yQ.ownBlock=some k→w.heap.size≤k)∧Below w.heap.size w w':=by
 obtain ⟨k,a,x⟩:=m;obtain ⟨aW,cW,aP,cP,aS,cS,aQ,cQ,rfl,r1,r2⟩:=h.form
 have HQ:Hid (.slice aQ qs.length cQ=xQ):=by
  injection hv with hv;injection hv with hv;simp only[List.cons.injEq] at hv;exact hv.2.2.2.1
 clear hv;have R1:=zaa r1;have R2:=zaa r2;have HW:=zaa (zbz hp1).1;have hwl:ws.length≤336:=Nat.le_of_eq HW.o;have hpl:ps.length≤400:=(zbz hp1).2;have HE:=zaa (zbt hb1).1;have hel:es.length≤32:=Nat.le_of_eq HE.o;have hql:qs.length≤400:=(zbt hb1).2;have PA:=zaa (fun j (hj:j < ps.length)=>zfq (zhj hp1 j hj).1);have QA:=zaa (fun j (hj:j < qs.length)=>zqe (zli hb1 j hj).1);have hk:=(zkr k a x).1 hm;clear h r1 r2 hp1 hb1 hm
 have hb0:Below w.heap.size w (((w.alloc (.cells #[.slice aW ws.length cW,.slice aP ps.length cP,.slice aS es.length cS,.slice aQ qs.length cQ] 45)).alloc (.cells #[.int .i64 k,.int .i64 a,.int .i64 x] 98)).alloc (.cells #[.slice none 0 0,.slice none 0 0,.slice none 0 0,.slice none 0 0] 45)):=by
  repeat (refine Below.alloc ?_ (by simp <;> omega) _)
  exact Below.refl _ _
 unfold Mi.v;simp only
 rcases (show (k=1∧(0≤a∧a < 336))∨(k=2∧(0≤a∧a < 336))∨k=3∨(k=4∧(0≤a∧a < 32))∨k=5 by omega) with ⟨rfl,ha⟩ | ⟨rfl,ha⟩ | rfl | ⟨rfl,ha⟩ | rfl
 ·clear hk;have D:=zaa (show doW (⟨1,a,x⟩:Mi) ws ps=ws∧doP (⟨1,a,x⟩:Mi) ps=ps ++ [⟨a,x,false⟩]∧doE (⟨1,a,x⟩:Mi) es qs=es∧doQ (⟨1,a,x⟩:Mi) qs=qs from ⟨rfl,rfl,rfl,rfl⟩);go_enter Tryz.func85,Tryz.ntmps85;go_wp2_with fail;refine (zwo _ ws ps a x _ (R1.o.below hb0) (by omega)).mono ?_;rintro e w1 ⟨v1,rfl,hr,hb⟩;have hr':RdPm w1 v1 _ _:=hr;obtain ⟨vW1,vP1,rfl,hI,hS⟩:=hr';obtain ⟨aW1,cW1,rfl⟩:=RdI.form hI rfl;obtain ⟨aP1,cP1,rfl⟩:=RdS.form hS (n:=ps.length+1) (by simp)
  have hz1:w.heap.size+3≤w1.heap.size:=by have:=hb.size;simp at this;omega
  have V0:=(hb.block w.heap.size (by simp <;> omega)).trans (zal (zal (zag rfl)));have V2:=(hb.block (w.heap.size+1+1) (by simp <;> omega)).trans (zag (by simp));have VM:=(hb.block (w.heap.size+1) (by simp <;> omega)).trans (zal (zag (by simp)));have RN:=zaa hr;have RO:=zaa (R2.o.below (zab hb0 hb (by simp <;> omega)));have B1:=zaa (zab hb0 hb (by simp <;> omega));obtain ⟨x0,x1,x2,x3,x4,x5,x6,x7⟩:=zaf V0;obtain ⟨y0,y1,y2,y3,y4,y5,y6,y7⟩:=zaf V2;obtain ⟨m0,m1,m2⟩:=zas VM;have VH:=zaa (And.intro V0 V2);clear hb0 hb hr hI hS V0 V2 VM;go_wp2;refine bodyPost_ret (v:=.agg #[.slice aW1 ws.length cW1,.slice aP1 (ps.length+1) cP1,.slice aS es.length cS,.slice aQ qs.length cQ]) (by simp[results,Tryz.results85,go_sem,y0,y1,y2,y3]) rfl ?_;refine ⟨_,_,_,_,rfl,?_,.inl HQ.o,?_⟩
  ·rw[D.o.1,D.o.2.1,D.o.2.2.1,D.o.2.2.2];exact ⟨_,_,_,_,rfl,(RN.o.put (bD:=w.heap.size) (bR:=w.heap.size+1+1) (i:=0) (j:=1) VH.o.1 (zdi (zaj _ _ _) (zaj _ _ _) (zaj _ _ _) (zaj _ _ _)) VH.o.2 (zdi (zaj _ _ _) (zaj _ _ _) (zaj _ _ _) (zaj _ _ _))),(RO.o.put (bD:=w.heap.size) (bR:=w.heap.size+1+1) (i:=0) (j:=1) VH.o.1 (zdi (zaj _ _ _) (zaj _ _ _) (zaj _ _ _) (zaj _ _ _)) VH.o.2 (zdi (zaj _ _ _) (zaj _ _ _) (zaj _ _ _) (zaj _ _ _)))⟩
  ·exact zgk B1.o (Nat.le_refl _) (by omega) 0 1 _ _ _ _ _ _
 ·clear hk;have D:=zaa (show doW (⟨2,a,x⟩:Mi) ws ps=ws∧doP (⟨2,a,x⟩:Mi) ps=ps.map (fl1 a)∧doE (⟨2,a,x⟩:Mi) es qs=es∧doQ (⟨2,a,x⟩:Mi) qs=qs from ⟨rfl,rfl,rfl,rfl⟩)
  obtain ⟨q,rfl⟩:∃ q:Nat,a=q:=⟨a.toNat,by omega⟩
  go_enter Tryz.func85,Tryz.ntmps85;go_wp2_with fail;refine (zyf _ ws ps q _ (R1.o.below hb0) (by omega) (by omega) (fun j hj=>PA.o j hj)).mono ?_;rintro e w1 ⟨v1,rfl,hr,hb⟩;have hr':RdPm w1 v1 _ _:=hr;obtain ⟨vW1,vP1,rfl,hI,hS⟩:=hr';obtain ⟨aW1,cW1,rfl⟩:=RdI.form hI rfl;obtain ⟨aP1,cP1,rfl⟩:=RdS.form hS (n:=ps.length) (by simp)
  have hz1:w.heap.size+3≤w1.heap.size:=by have:=hb.size;simp at this;omega
  have V0:=(hb.block w.heap.size (by simp <;> omega)).trans (zal (zal (zag rfl)));have V2:=(hb.block (w.heap.size+1+1) (by simp <;> omega)).trans (zag (by simp));have VM:=(hb.block (w.heap.size+1) (by simp <;> omega)).trans (zal (zag (by simp)));have RN:=zaa hr;have RO:=zaa (R2.o.below (zab hb0 hb (by simp <;> omega)));have B1:=zaa (zab hb0 hb (by simp <;> omega));obtain ⟨x0,x1,x2,x3,x4,x5,x6,x7⟩:=zaf V0;obtain ⟨y0,y1,y2,y3,y4,y5,y6,y7⟩:=zaf V2;obtain ⟨m0,m1,m2⟩:=zas VM;have VH:=zaa (And.intro V0 V2);clear hb0 hb hr hI hS V0 V2 VM;go_wp2;refine bodyPost_ret (v:=.agg #[.slice aW1 ws.length cW1,.slice aP1 ps.length cP1,.slice aS es.length cS,.slice aQ qs.length cQ]) (by simp[results,Tryz.results85,go_sem,y0,y1,y2,y3]) rfl ?_;refine ⟨_,_,_,_,rfl,?_,.inl HQ.o,?_⟩
  ·rw[D.o.1,D.o.2.1,D.o.2.2.1,D.o.2.2.2];exact ⟨_,_,_,_,rfl,(RN.o.put (bD:=w.heap.size) (bR:=w.heap.size+1+1) (i:=0) (j:=1) VH.o.1 (zdi (zaj _ _ _) (zaj _ _ _) (zaj _ _ _) (zaj _ _ _)) VH.o.2 (zdi (zaj _ _ _) (zaj _ _ _) (zaj _ _ _) (zaj _ _ _))),(RO.o.put (bD:=w.heap.size) (bR:=w.heap.size+1+1) (i:=0) (j:=1) VH.o.1 (zdi (zaj _ _ _) (zaj _ _ _) (zaj _ _ _) (zaj _ _ _)) VH.o.2 (zdi (zaj _ _ _) (zaj _ _ _) (zaj _ _ _) (zaj _ _ _)))⟩
  ·exact zgk B1.o (Nat.le_refl _) (by omega) 0 1 _ _ _ _ _ _
 ·clear hk;have D:=zaa (show doW (⟨3,a,x⟩:Mi) ws ps=zjm ws ps∧doP (⟨3,a,x⟩:Mi) ps=zgs ps∧doE (⟨3,a,x⟩:Mi) es qs=es∧doQ (⟨3,a,x⟩:Mi) qs=qs from ⟨rfl,rfl,rfl,rfl⟩);go_enter Tryz.func85,Tryz.ntmps85;go_wp2_with fail;refine (zxo _ ws ps _ (R1.o.below hb0) (by omega) (by omega) (fun j hj=>by have:=PA.o j hj;have:=HW.o;omega)).mono ?_;rintro e w1 ⟨v1,rfl,hr,hb⟩;have hr':RdPm w1 v1 _ _:=hr.rd;obtain ⟨vW1,vP1,rfl,hI,hS⟩:=hr';obtain ⟨aW1,cW1,rfl⟩:=RdI.form hI (ziq ws ps);obtain ⟨aP1,cP1,rfl⟩:=RdS.form hS (n:=(zgs ps).length) rfl
  have hz1:w.heap.size+3≤w1.heap.size:=by have:=hb.size;simp at this;omega
  have V0:=(hb.block w.heap.size (by simp <;> omega)).trans (zal (zal (zag rfl)));have V2:=(hb.block (w.heap.size+1+1) (by simp <;> omega)).trans (zag (by simp));have VM:=(hb.block (w.heap.size+1) (by simp <;> omega)).trans (zal (zag (by simp)));have RN:=zaa hr;have RO:=zaa (R2.o.below (zab hb0 hb (by simp <;> omega)));have B1:=zaa (zab hb0 hb (by simp <;> omega));obtain ⟨x0,x1,x2,x3,x4,x5,x6,x7⟩:=zaf V0;obtain ⟨y0,y1,y2,y3,y4,y5,y6,y7⟩:=zaf V2;obtain ⟨m0,m1,m2⟩:=zas VM;have VH:=zaa (And.intro V0 V2);clear hb0 hb hr hI hS V0 V2 VM;go_wp2;refine bodyPost_ret (v:=.agg #[.slice aW1 ws.length cW1,.slice aP1 ((zgs ps).length) cP1,.slice aS es.length cS,.slice aQ qs.length cQ]) (by simp[results,Tryz.results85,go_sem,y0,y1,y2,y3]) rfl ?_;refine ⟨_,_,_,_,rfl,?_,.inl HQ.o,?_⟩
  ·rw[D.o.1,D.o.2.1,D.o.2.2.1,D.o.2.2.2];exact ⟨_,_,_,_,rfl,(RN.o.rd.put (bD:=w.heap.size) (bR:=w.heap.size+1+1) (i:=0) (j:=1) VH.o.1 (zdi (zaj _ _ _) (zaj _ _ _) (zaj _ _ _) (zaj _ _ _)) VH.o.2 (zdi (zaj _ _ _) (zaj _ _ _) (zaj _ _ _) (zaj _ _ _))),(RO.o.put (bD:=w.heap.size) (bR:=w.heap.size+1+1) (i:=0) (j:=1) VH.o.1 (zdi (zaj _ _ _) (zaj _ _ _) (zaj _ _ _) (zaj _ _ _)) VH.o.2 (zdi (zaj _ _ _) (zaj _ _ _) (zaj _ _ _) (zaj _ _ _)))⟩
  ·exact zgk B1.o (Nat.le_refl _) (by omega) 0 1 _ _ _ _ _ _
 ·clear hk;have D:=zaa (show doW (⟨4,a,x⟩:Mi) ws ps=ws∧doP (⟨4,a,x⟩:Mi) ps=ps∧doE (⟨4,a,x⟩:Mi) es qs=es∧doQ (⟨4,a,x⟩:Mi) qs=qs ++ [⟨a,x⟩] from ⟨rfl,rfl,rfl,rfl⟩);go_enter Tryz.func85,Tryz.ntmps85;go_wp2_with fail;refine (zwy _ _ es qs a x _ (R2.o.below hb0) (by omega)).mono ?_;rintro e w1 ⟨vP1,rfl,hr,hfar,hb⟩
  have FQ:Hid (∀ k,vP1.ownBlock=some k→w.heap.size≤k):=fun k hk=>Nat.le_trans hb0.size (hfar k hk)
  clear hfar;have hr':RdBlk w1 _ _ _:=hr;obtain ⟨vW1,vP2,e2,hI,hS⟩:=hr';injection e2 with e2;injection e2 with e2;simp only[List.cons.injEq] at e2;obtain ⟨rfl,rfl,-⟩:=e2;obtain ⟨aP1,cP1,rfl⟩:=RdE.form hS (n:=qs.length+1) (by simp)
  have hz1:w.heap.size+3≤w1.heap.size:=by have:=hb.size;simp at this;omega
  have V0:=(hb.block w.heap.size (by simp <;> omega)).trans (zal (zal (zag rfl)));have V2:=(hb.block (w.heap.size+1+1) (by simp <;> omega)).trans (zag (by simp));have VM:=(hb.block (w.heap.size+1) (by simp <;> omega)).trans (zal (zag (by simp)));have RN:=zaa hr;have RO:=zaa (R1.o.below (zab hb0 hb (by simp <;> omega)));have B1:=zaa (zab hb0 hb (by simp <;> omega));obtain ⟨x0,x1,x2,x3,x4,x5,x6,x7⟩:=zaf V0;obtain ⟨y0,y1,y2,y3,y4,y5,y6,y7⟩:=zaf V2;obtain ⟨m0,m1,m2⟩:=zas VM;have VH:=zaa (And.intro V0 V2);clear hb0 hb hr hI hS V0 V2 VM;go_wp2;refine bodyPost_ret (v:=.agg #[.slice aW ws.length cW,.slice aP ps.length cP,.slice aS es.length cS,.slice aP1 (qs.length+1) cP1]) (by simp[results,Tryz.results85,go_sem,y0,y1,y2,y3]) rfl ?_;refine ⟨_,_,_,_,rfl,?_,.inr FQ.o,?_⟩
  ·rw[D.o.1,D.o.2.1,D.o.2.2.1,D.o.2.2.2];exact ⟨_,_,_,_,rfl,(RO.o.put (bD:=w.heap.size) (bR:=w.heap.size+1+1) (i:=2) (j:=3) VH.o.1 (zdi (zaj _ _ _) (zaj _ _ _) (zaj _ _ _) (zaj _ _ _)) VH.o.2 (zdi (zaj _ _ _) (zaj _ _ _) (zaj _ _ _) (zaj _ _ _))),(RN.o.put (bD:=w.heap.size) (bR:=w.heap.size+1+1) (i:=2) (j:=3) VH.o.1 (zdi (zaj _ _ _) (zaj _ _ _) (zaj _ _ _) (zaj _ _ _)) VH.o.2 (zdi (zaj _ _ _) (zaj _ _ _) (zaj _ _ _) (zaj _ _ _)))⟩
  ·exact zgk B1.o (Nat.le_refl _) (by omega) 2 3 _ _ _ _ _ _
 ·clear hk;have D:=zaa (show doW (⟨5,a,x⟩:Mi) ws ps=ws∧doP (⟨5,a,x⟩:Mi) ps=ps∧doE (⟨5,a,x⟩:Mi) es qs=ztd es qs∧doQ (⟨5,a,x⟩:Mi) qs=[] from ⟨rfl,rfl,rfl,rfl⟩);go_enter Tryz.func85,Tryz.ntmps85;go_wp2_with fail;refine (zro _ es qs _ (R2.o.below hb0) (by omega) (by omega) (fun j hj=>by have:=QA.o j hj;have:=HE.o;omega)).mono ?_;rintro e w1 ⟨v1,rfl,hr,hb⟩;have hr':RdBlk w1 v1 _ _:=hr.rd;obtain ⟨vW1,vP1,rfl,hI,hS⟩:=hr'
  have FQ:Hid (∀ k,vP1.ownBlock=some k→w.heap.size≤k):=fun k hk=>by
   obtain ⟨_,_,e3,-,rP⟩:=hr;injection e3 with e3;injection e3 with e3;simp only[List.cons.injEq] at e3;obtain ⟨-,rfl,-⟩:=e3;exact Nat.le_trans hb0.size (rP.1.lt k hk).1
  obtain ⟨aW1,cW1,rfl⟩:=RdI.form hI (zir es qs);obtain ⟨aP1,cP1,rfl⟩:=RdE.form hS (n:=0) rfl
  have hz1:w.heap.size+3≤w1.heap.size:=by have:=hb.size;simp at this;omega
  have V0:=(hb.block w.heap.size (by simp <;> omega)).trans (zal (zal (zag rfl)));have V2:=(hb.block (w.heap.size+1+1) (by simp <;> omega)).trans (zag (by simp));have VM:=(hb.block (w.heap.size+1) (by simp <;> omega)).trans (zal (zag (by simp)));have RN:=zaa hr;have RO:=zaa (R1.o.below (zab hb0 hb (by simp <;> omega)));have B1:=zaa (zab hb0 hb (by simp <;> omega));obtain ⟨x0,x1,x2,x3,x4,x5,x6,x7⟩:=zaf V0;obtain ⟨y0,y1,y2,y3,y4,y5,y6,y7⟩:=zaf V2;obtain ⟨m0,m1,m2⟩:=zas VM;have VH:=zaa (And.intro V0 V2);clear hb0 hb hr hI hS V0 V2 VM;go_wp2;refine bodyPost_ret (v:=.agg #[.slice aW ws.length cW,.slice aP ps.length cP,.slice aW1 es.length cW1,.slice aP1 0 cP1]) (by simp[results,Tryz.results85,go_sem,y0,y1,y2,y3]) rfl ?_;refine ⟨_,_,_,_,rfl,?_,.inr FQ.o,?_⟩
  ·rw[D.o.1,D.o.2.1,D.o.2.2.1,D.o.2.2.2];exact ⟨_,_,_,_,rfl,(RO.o.put (bD:=w.heap.size) (bR:=w.heap.size+1+1) (i:=2) (j:=3) VH.o.1 (zdi (zaj _ _ _) (zaj _ _ _) (zaj _ _ _) (zaj _ _ _)) VH.o.2 (zdi (zaj _ _ _) (zaj _ _ _) (zaj _ _ _) (zaj _ _ _))),(RN.o.rd.put (bD:=w.heap.size) (bR:=w.heap.size+1+1) (i:=2) (j:=3) VH.o.1 (zdi (zaj _ _ _) (zaj _ _ _) (zaj _ _ _) (zaj _ _ _)) VH.o.2 (zdi (zaj _ _ _) (zaj _ _ _) (zaj _ _ _) (zaj _ _ _)))⟩
  ·exact zgk B1.o (Nat.le_refl _) (by omega) 2 3 _ _ _ _ _ _
structure MidF (l:List Mi) (ws:List Int) (ps:List St) (es:List Int) (qs:List Se) (w wr:World) (k:Nat) (W:List Int) (P:List St) (E:List Int) (Q:List Se) (a b' c d xQ:Value):Prop where
 run:mr (l.take k) ws ps es qs=⟨0,W,P,E,Q⟩
 box:wr.heap[w.heap.size]?=some (.cells #[a,b',c,d] 45 (0,0))
 res:wr.heap[w.heap.size+1]?=some (.cells #[.slice none 0 0,.slice none 0 0,.slice none 0 0,.slice none 0 0] 45 (0,0))
 rd:RdDev wr (.agg #[a,b',c,d]) W P E Q
 below:Below w.heap.size w wr
 size:w.heap.size+1 < wr.heap.size
 far:d=xQ∨∀ k,d.ownBlock=some k→w.heap.size≤k
theorem ztb (v vL xW xP xS xQ:Value) (l:List Mi) (ws:List Int) (ps:List St) (es:List Int) (qs:List Se) (W':List Int) (P':List St) (E':List Int) (Q':List Se) (w:World) (h:RdDev w v ws ps es qs) (hv:v=.agg #[xW,xP,xS,xQ]) (hL:RdM w vL l) (hp:pmB ws ps=true) (hb:zbp es qs=true) (hm:∀ m∈l,miB m=true) (hl:l.length≤1000) (r:mr l ws ps es qs=⟨0,W',P',E',Q'⟩) :
  Calls Tryz.prog 45 #[v,vL] w fun e w'=>∃ yW yP yS yQ,e=.returned (.agg #[yW,yP,yS,yQ])∧RdDev w' (.agg #[yW,yP,yS,yQ]) W' P' E' Q'∧(yQ=xQ∨∀ k,yQ.ownBlock=some k→w.heap.size≤k)∧Below w.heap.size w w':=by
 have HD:=zaa h;have CP:=zaa (And.intro hp hb);have CM:=zaa hm;have C0:=zaa (show (mr l ws ps es qs).c=0 by rw[r]);have RR:=zaa r;obtain ⟨aL,cL,rfl,-,hcL⟩:=hL.shape;have HL:=zaa hcL;obtain ⟨aW,cW,aP,cP,aS,cS,aQ,cQ,rfl,-,-⟩:=h.form
 have HQ:Hid (.slice aQ qs.length cQ=xQ):=by
  injection hv with hv;injection hv with hv;simp only[List.cons.injEq] at hv;exact hv.2.2.2.1
 clear hv;clear h hL hcL hp hb hm r
 obtain ⟨V,hV⟩:∃ V,V=(w.alloc (.cells #[.slice aW ws.length cW,.slice aP ps.length cP,.slice aS es.length cS,.slice aQ qs.length cQ] 45)).alloc (.cells #[.slice none 0 0,.slice none 0 0,.slice none 0 0,.slice none 0 0] 45):=⟨_,rfl⟩
 have hb0:Below w.heap.size w V:=by
  rw[hV]
  repeat (refine Below.alloc ?_ (by simp <;> omega) _)
  exact Below.refl _ _
 have I0:Hid (MidF l ws ps es qs w V 0 ws ps es qs (.slice aW ws.length cW) (.slice aP ps.length cP) (.slice aS es.length cS) (.slice aQ qs.length cQ) xQ) :=
  ⟨rfl,by rw[hV];exact zal (zag rfl),by rw[hV];exact zag (by simp),HD.o.below hb0,hb0,by rw[hV];simp,.inl HQ.o⟩
 clear hb0;go_enter Tryz.func45,Tryz.ntmps45;go_upto_region 1 with fail;rw[← hV];clear hV;go_wp2_with fail
 go_loopw [5] (fun i wq=>∃ k:Nat,k≤l.length∧i=.int .i64 k∧∃ (W:List Int) (P:List St) (E:List Int) (Q:List Se) (d1 d2 d3 d4:Option Addr) (f1 f2 f3 f4:Nat),Hid (MidF l ws ps es qs w wq k W P E Q (.slice d1 W.length f1) (.slice d2 P.length f2) (.slice d3 E.length f3) (.slice d4 Q.length f4) xQ)) (fun i _=>l.length - (intOf i).toNat)
 case atStart=>exact ⟨0,by omega,rfl,ws,ps,es,qs,_,_,_,_,_,_,_,_,I0⟩
 case round =>
  obtain ⟨k,hk,rfl,W,P,E,Q,d1,d2,d3,d4,f1,f2,f3,f4,I⟩:=hrel;clear I0;have hsz:=I.o.size
  by_cases hlt:k < l.length
  ·obtain ⟨bL,oL,rfl,hblL,hcellL⟩:=HL.o (by omega);obtain ⟨g0,g1,g2⟩:=hcellL k hlt;have e0:=(I.o.below.cell (p:=⟨bL,oL+k*3,none⟩) hblL).trans g0;have e1:=(I.o.below.cell (p:=⟨bL,oL+k*3+1,none⟩) hblL).trans g1;have e2:=(I.o.below.cell (p:=⟨bL,oL+k*3+2,none⟩) hblL).trans g2
   have k0:(0:Int)≤(k:Int):=by omega
   have k1:(k:Int) < (l.length:Int):=by omega
   clear g0 g1 g2 hcellL
   have XO:=zaa (show pmB W P=true∧zbp E Q=true by
    have:=zyz (l.take k) ws ps es qs CP.o.1 CP.o.2 (fun m hm=>CM.o m (List.mem_of_mem_take hm));rw[I.o.run] at this
    exact this)
   have NX:=zaa (yakb hlt I.o.run (yapa C0.o hlt I.o.run))
   have LD:Hid (∀ p1 p2 p3 p4 w1,RdDev w1 (.agg #[p1,p2,p3,p4]) W P E Q→Calls Tryz.prog 85 #[.agg #[p1,p2,p3,p4],.agg #[.int .i64 l[k].kind,.int .i64 l[k].at_,.int .i64 l[k].val]] w1 fun e w'=>∃ yW yP yS yQ,e=.returned (.agg #[yW,yP,yS,yQ])∧RdDev w' (.agg #[yW,yP,yS,yQ]) (doW l[k] W P) (doP l[k] P) (doE l[k] E Q) (doQ l[k] Q)∧(yQ=p4∨∀ k,yQ.ownBlock=some k→w1.heap.size≤k)∧Below w1.heap.size w1 w'):=fun p1 p2 p3 p4 w1 h2=>yajb _ p1 p2 p3 p4 l[k] W P E Q w1 h2 rfl XO.o.1 XO.o.2 (CM.o _ (List.getElem_mem hlt))
   obtain ⟨x0,x1,x2,x3,y0,y1,y2,y3⟩:=zaf I.o.box;generalize doW l[k] W P=W2 at *;generalize doP l[k] P=P2 at *;generalize doE l[k] E Q=E2 at *;generalize doQ l[k] Q=Q2 at *;generalize l[k]=m at *;go_wp2_with fail
   go_region_law (go_simp;go_at_call 85;refine (LD.o _ _ _ _ _ (I.o.rd.below (by repeat (first | with_reducible exact Below.refl _ _ | with_reducible refine Below.drew ?_)))).mono ?_;rintro e wf ⟨yW,yP,yS,yQ,rfl,hrf,hfar,hbf⟩;have BF:Hid (Below wr.heap.size wr wf):=belY (by repeat (first | with_reducible exact Below.refl _ _ | with_reducible refine Below.drew ?_)) hbf;have RF:=zaa hrf;obtain ⟨i0,j0,i1,j1,i2,j2,i3,j3,ei,-,-⟩:=hrf.form;injection ei with ei;injection ei with ei;simp only[List.cons.injEq] at ei;obtain ⟨rfl,rfl,rfl,rfl,-⟩:=ei;have FF:Hid (Value.slice i3 Q2.length j3=xQ∨∀ k,(Value.slice i3 Q2.length j3).ownBlock=some k→w.heap.size≤k):=(match hfar with | .inl e=>e ▸ I.o.far | .inr f=>.inr (fun k hk=>Nat.le_trans I.o.below.size (f k hk)));have DB:=zaa ((BF.o.block w.heap.size (by omega)).trans I.o.box);obtain ⟨z0,z1,z2,z3,z4,z5,z6,z7⟩:=zaf DB.o;clear hrf hbf hfar)
   all_goals
    have DR:=zaa ((BF.o.block (w.heap.size+1) (by omega)).trans I.o.res)
    have G:Hid (MidF l ws ps es qs w (zix wf w.heap.size (.slice i0 W2.length j0) (.slice i1 P2.length j1) (.slice i2 E2.length j2) (.slice i3 Q2.length j3)) (k+1) W2 P2 E2 Q2 (.slice i0 W2.length j0) (.slice i1 P2.length j1) (.slice i2 E2.length j2) (.slice i3 Q2.length j3) xQ):=by
     have O:=zbb wf w.heap.size (.slice i0 W2.length j0) (.slice i1 P2.length j1) (.slice i2 E2.length j2) (.slice i3 Q2.length j3);have Z:=zax wf w.heap.size (.slice i0 W2.length j0) (.slice i1 P2.length j1) (.slice i2 E2.length j2) (.slice i3 Q2.length j3);have zf:=BF.o.size;exact ⟨NX.o,yank DB.o,(O.block _ (by omega) (by omega)).trans DR.o,RF.o.put DB.o (zaj _ _ _) (zaj _ _ _) (zaj _ _ _) (zaj _ _ _) _ _ _ _,(zab I.o.below BF.o (by omega)).trans (O.below (Nat.le_refl _) (by omega)),Nat.lt_of_lt_of_eq (show w.heap.size+1 < wf.heap.size by omega) Z.symm,FF.o⟩
    go_wp2
    go_roundw
    case rel=>exact ⟨k+1,by omega,by go_num,_,_,_,_,i0,i1,i2,i3,j0,j1,j2,j3,G⟩
    case measure=>simp[intOf];omega
  ·have RUN:=yaql (by omega) I.o.run;rw[RR.o] at RUN;obtain ⟨-,rfl,rfl,rfl,rfl⟩:=MR.mk.inj RUN;obtain ⟨x0,x1,x2,x3,-,-,-,-⟩:=zaf I.o.box;obtain ⟨y0,y1,y2,y3,y4,y5,y6,y7⟩:=zaf I.o.res;have O:=zaa (zbb wr (w.heap.size+1) (.slice d1 W'.length f1) (.slice d2 P'.length f2) (.slice d3 E'.length f3) (.slice d4 Q'.length f4));have RD:=zaa (I.o.rd.put I.o.res (zaj _ _ _) (zaj _ _ _) (zaj _ _ _) (zaj _ _ _) (.slice d1 W'.length f1) (.slice d2 P'.length f2) (.slice d3 E'.length f3) (.slice d4 Q'.length f4));have BD:=zaa (I.o.below.trans (O.o.below (B:=w.heap.size) (by omega) (by omega)));clear O;go_wp2;refine bodyPost_ret (v:=.agg #[.slice d1 W'.length f1,.slice d2 P'.length f2,.slice d3 E'.length f3,.slice d4 Q'.length f4]) (by simp[results,Tryz.results45,go_sem,y0,y1,y2,y3]) rfl ?_;exact ⟨_,_,_,_,rfl,RD.o,I.o.far,BD.o⟩
theorem yadg:∀ (l:List Mi) (ws:List Int) (ps:List St) (es:List Int) (qs:List Se),(∀ m∈l,m.kind=1∨m.kind=2∨m.kind=3)→ps.length+l.length≤400→mr l ws ps es qs=⟨0,(zvs (ws,ps) l).1,(zvs (ws,ps) l).2,es,qs⟩
 | [],ws,ps,es,qs,_,_=>rfl
 | m :: l,ws,ps,es,qs,hk,hl=>by
   have h1:=hk m List.mem_cons_self;simp only[List.length_cons] at hl;have hf:zgl m ps qs=false:=decide_eq_false (fun h=>by omega)
   have e:zvf (ws,ps) m=(doW m ws ps,doP m ps):=by
    unfold zvf doW doP
    rcases h1 with h | h | h
    ·rw[if_pos h,if_pos h,if_neg (by omega)]
    ·rw[if_neg (by omega),if_pos h,if_neg (by omega),if_neg (by omega),if_pos h]
    ·rw[if_neg (by omega),if_neg (by omega),if_pos h,if_pos h,if_neg (by omega),if_neg (by omega),if_pos h]
   have e2:doE m es qs=es∧doQ m qs=qs:=by
    unfold doE doQ;exact ⟨if_neg (by omega),by rw[if_neg (by omega),if_neg (by omega)]⟩
   have hp:(doP m ps).length≤ps.length+1:=by
    unfold doP
    split
    ·simp
    ·split
     ·simp
     ·split
      ·exact Nat.le_trans (List.length_filter_le _ _) (by omega)
      ·omega
   rw[zld,e];simp only[mr,hf,e2.1,e2.2];exact yadg l _ _ _ _ (fun q hq=>hk q (List.mem_cons_of_mem _ hq)) (by omega)
def StOK (m:Mi):Prop:=miB m=true∧(m.kind=1∨m.kind=2∨m.kind=3)
theorem yalo (ks:List Int):∀ i,i≤ks.length→∀ m∈nl ks i,∃ k,k < ks.length∧m.at_=ks[k]?.getD 0
 | 0,_,m,h=>by cases h
 | i+1,hi,m,h=>by
  rw[nl] at h
  split at h
  ·exact yalo ks i (by omega) m h
  ·rcases List.mem_append.1 h with h | h
   ·exact yalo ks i (by omega) m h
   ·rw[List.mem_singleton.1 h];exact ⟨i,by omega,rfl⟩
theorem yare {S:List St} (h:∀ p∈S,(0≤p.at_∧p.at_ < 336)∧0≤p.val∧p.val < 1099511627776):∀ m∈seg S,StOK m:=by
 intro m hm;unfold seg zcv at hm
 rcases List.mem_append.1 hm with hm | hm
 ·obtain ⟨p,hp,rfl⟩:=List.mem_map.1 hm;have:=h p hp;exact ⟨(zkr 1 p.at_ p.val).2 (.inl ⟨rfl,this⟩),.inl rfl⟩
 ·rcases List.mem_append.1 hm with hm | hm
  ·have e:=zuj _ _ m hm;obtain ⟨k,hk,ek⟩:=yalo _ _ (Nat.le_refl _) m hm
   have:∃ p∈S,m.at_=p.at_:=by
    rw[List.length_map] at hk;exact ⟨S[k],List.getElem_mem hk,by rw[ek,List.getElem?_map,List.getElem?_eq_getElem hk];rfl⟩
   obtain ⟨p,hp,ep⟩:=this;rw[e];have:=h p hp;exact ⟨(zkr 2 m.at_ 0).2 (.inr (.inl ⟨rfl,by rw[ep];exact this.1,rfl⟩)),.inr (.inl rfl)⟩
  ·rw[List.mem_singleton.1 hm];exact ⟨(zkr 3 0 0).2 (.inr (.inr (.inr ⟨.inl rfl,rfl,rfl⟩))),.inr (.inr rfl)⟩
theorem yauj (n:Int) (h:0≤n∧n < 1099511627776):∀ p∈cnt n,(0≤p.at_∧p.at_ < 336)∧0≤p.val∧p.val < 1099511627776:=by
 intro p hp;rw[List.mem_singleton.1 hp];exact ⟨⟨by show (0:Int)≤8;omega,by show (8:Int) < 336;omega⟩,h⟩
theorem yadq {ws:List Int} {ps:List St} {es:List Int} {qs:List Se} (h:dvB ws ps es qs=true):pmB ws ps=true∧zbp es qs=true∧dvN ws ps es qs=zbm (zcq ws ps) 16∧dvD ws ps es qs=zbw (zcq ws ps) 24∧zti (zbm (zcq ws ps) 16) (zbw (zcq ws ps) 24)=true:=by
 have q:=h;unfold dvB at q;rw[Bool.and_eq_true,Bool.and_eq_true] at q;obtain ⟨⟨a,b⟩,r⟩:=q;unfold riB at r;rw[Bool.and_eq_true,Bool.and_eq_true] at r;exact ⟨a,b,by unfold dvN;rw[if_pos h],by unfold dvD;rw[if_pos h],r.2.2⟩
theorem yafe (us:List Se):(zhd (zwm us)).length≤2*us.length+4:=by
 have h1:=zfl ((zwm us).map (·.at_));have h2:=zfl ((cnt 0).map (·.at_));simp only[List.length_map,zio] at h1 h2;simp only[zhd,seg,List.length_append,List.length_map,zio];simp only[cnt,List.length_cons,List.length_nil] at h2 ⊢;omega
theorem RdE.shapeN {w:World} {v:Value} {ps:List Se} (h:RdE w v ps) {n:Nat} (hn:ps.length=n):∃ ao cap,v=.slice ao n cap:=by
 obtain ⟨ao,cap,e,_⟩:=h.shape;exact ⟨ao,cap,hn ▸ e⟩
def yaae (w w':World) (e:Ending) (r:List Mi×Int):Prop:=∃ v',e=.returned (.tuple #[v',.int .i64 r.2])∧Row w' 98 3 w.heap.size w'.heap.size v' r.1.length (mis r.1)∧Below w.heap.size w w'
theorem Rd.none {w w':World} {size:Nat} {v:Value} {xs:List Value} (h:Rd w size v 0 xs) (_hz:w.heap.size≤w'.heap.size):Rd w' size v 0 xs:=by
 obtain ⟨h1,ao,cap,rfl,h2,h3⟩:=h;exact ⟨h1,ao,cap,rfl,h2,fun h=>absurd h (Nat.lt_irrefl 0)⟩
theorem RdS.ten {w w':World} {v:Value} {ps:List St} {b:Nat} {t:TypeId} {fr:Nat×Nat} {a0 a1 a2 a3 a4 a5 a8:Option Addr} {n0 n1 n2 n3 n4 n5 n8 m0 m1 m2 m3 m4 m5 m8:Nat} {k6 k7:Int} {k9:Bool} (h:RdS w v ps) (o:Outside b (b+1) w w') (hb:w.heap[b]?=some (.cells #[.slice a0 n0 m0,.slice a1 n1 m1,.slice a2 n2 m2,.slice a3 n3 m3,.slice a4 n4 m4,.slice a5 n5 m5,.int .i64 k6,.int .i64 k7,.slice a8 n8 m8,.bool k9] t fr)):RdS w' v ps:=by
 by_cases hn:0 < ps.length
 ·refine Rd.same h o.size (fun j hj he=>?_)
  by_cases e:j=b
  ·exfalso;subst e;obtain ⟨-,ao,cap,rfl,-,hc⟩:=h;obtain ⟨b',o',rfl,-,hc⟩:=hc hn
   cases he
   have q0:=(hc 0 (by omega)).trans (show (sts ps)[0]?=some (.int .i64 ps[0].at_) from zey ps 0 hn);have q1:=(hc 1 (by omega)).trans (show (sts ps)[1]?=some (.int .i64 ps[0].val) from zie ps 0 hn);have q2:=(hc 2 (by omega)).trans (show (sts ps)[2]?=some (.bool ps[0].fl) from zhx ps 0 hn);simp only[World.cell?,hb,Option.isSome_none,Bool.false_eq_true,if_false] at q0 q1 q2
   rcases o' with _ | _ | _ | _ | _ | _ | _ | _ | _ | _ | o' <;> simp at q0 q1 q2
  ·exact o.block j hj (by omega)
 ·have e:ps=[]:=List.length_eq_zero_iff.1 (by omega);subst e;exact Rd.none h o.size
theorem zwh (a0 a1 a2 a3 a4 a5 a8:Option Addr) (n0 n1 n2 n3 n4 n5 n8 m0 m1 m2 m3 m4 m5 m8:Nat) (k6 k7:Int) (k9:Bool):zll (#[.slice a0 n0 m0,.slice a1 n1 m1,.slice a2 n2 m2,.slice a3 n3 m3,.slice a4 n4 m4,.slice a5 n5 m5,.int .i64 k6,.int .i64 k7,.slice a8 n8 m8,.bool k9]:Array Value).toList=true:=rfl
theorem yamc {w w':World} {vW vP vS vQ:Value} {ws:List Int} {ps:List St} {es:List Int} {qs:List Se} {b:Nat} {t:TypeId} {fr:Nat×Nat} {a0 a1 a2 a3 a4 a5 a8:Option Addr} {n0 n1 n2 n3 n4 n5 n8 m0 m1 m2 m3 m4 m5 m8:Nat} {k6 k7:Int} {k9:Bool} (h:RdDev w (.agg #[vW,vP,vS,vQ]) ws ps es qs) (h1:3≤ws.length) (h2:3≤es.length) (hq:0 < qs.length→¬ vQ.ownBlock=some b) (o:Outside b (b+1) w w') (hb:w.heap[b]?=some (.cells #[.slice a0 n0 m0,.slice a1 n1 m1,.slice a2 n2 m2,.slice a3 n3 m3,.slice a4 n4 m4,.slice a5 n5 m5,.int .i64 k6,.int .i64 k7,.slice a8 n8 m8,.bool k9] t fr)):RdDev w' (.agg #[vW,vP,vS,vQ]) ws ps es qs:=by
 have S:Soft w w':=Soft.outside o hb (zwh a0 a1 a2 a3 a4 a5 a8 n0 n1 n2 n3 n4 n5 n8 m0 m1 m2 m3 m4 m5 m8 k6 k7 k9);obtain ⟨_,_,_,_,e,⟨_,_,e1,a,b'⟩,⟨_,_,e2,c,d⟩⟩:=h
 cases e
 cases e1
 cases e2
 refine ⟨_,_,_,_,rfl,⟨_,_,rfl,RdI.soft a S h1,RdS.ten b' o hb⟩,⟨_,_,rfl,RdI.soft c S h2,?_⟩⟩
 by_cases hn:0 < qs.length
 ·exact Rd.same d o.size (fun j hj he=>o.block j hj (by have:¬ j=b:=fun e=>hq hn (e ▸ he);omega))
 ·have e:qs=[]:=List.length_eq_zero_iff.1 (by omega);subst e;exact Rd.none d o.size
structure Fz where
 ws:List Int
 ps:List St
 es:List Int
 qs:List Se
 hs:List Int
 td:List Mi
 cd:Int
 vl:Int
 nm:List ByteArray
 fr:Bool
def zz:Fz:=⟨[],[],[],[],[],[],0,0,[],false⟩
def zis (w w':World) (e:Ending) (R:Fz×Int):Prop:=∃ v',e=.returned (.tuple #[v',.int .i64 R.2])∧RowF w' w.heap.size w'.heap.size v' R.1.ws R.1.ps R.1.es R.1.qs R.1.hs R.1.td R.1.cd R.1.vl R.1.nm R.1.fr∧Below w.heap.size w w'
structure yawh (ws:List Int) (ps:List St) (es:List Int) (qs:List Se) (hs:List Int) (td:List Mi) (cd vl:Int) (nm:List ByteArray) (fr:Bool):Prop where
 pm:pmB ws ps=true
 bl:zbp es qs=true
 he:zjt hs=true
 tl:td.length≤200
 tm:∀ m∈td,miB m=true
 pl:ps.length+td.length≤400
 ql:qs.length+td.length≤400
 an:fr=true∨(cd=0∧vl=0∧nm=[])
 re:td=[]→dvB ws ps es qs=true∧ps=[]∧qs=[]∧ldW ws ps 8=0
theorem yadu {ws:List Int} {ps:List St} {es:List Int} {qs:List Se} {hs:List Int} {td:List Mi} {cd vl:Int} {nm:List ByteArray} {fr:Bool} (h:fsB ws ps es qs hs td cd vl nm fr=true):yawh ws ps es qs hs td cd vl nm fr:=by
 unfold fsB todB noA zra at h;simp only[Bool.and_eq_true,Bool.or_eq_true,decide_eq_true_eq,List.all_eq_true] at h;obtain ⟨⟨h1,h2⟩,h3,⟨h4,h5,h6,h7⟩,h8,h9⟩:=h;refine ⟨h1,h2,h3,h4,h5,h6,h7,?_,fun e=>?_⟩
 ·rcases h8 with h8 | ⟨a,b,c⟩
  ·exact .inl h8
  ·exact .inr ⟨a,b,List.length_eq_zero_iff.1 c⟩
 ·rcases h9 with h9 | ⟨a,b,c,d⟩
  ·rw[e] at h9;simp at h9
  ·exact ⟨a,List.length_eq_zero_iff.1 b,List.length_eq_zero_iff.1 c,d⟩
def zpo:List Int:=List.replicate 336 0
def zs32:List Int:=List.replicate 32 0
theorem zet:zpo.length=336:=List.length_replicate ..
theorem zuh:zs32.length=32:=List.length_replicate ..
def ndW:List Int:=((zpo.set 0 7).set 48 2).set 50 1
def n336:Array Value:=(zav zpo).toArray
def n32:Array Value:=(zav zs32).toArray
theorem yamu:madeCells #[Value.int .i64 0] (336*1)=n336:=by kernel_rfl
theorem yavf:madeCells #[Value.int .i64 0] (32*1)=n32:=by kernel_rfl
theorem zwn (w:World):(Instr.makeSlice 22 (.int .i64 336) (.int .i64 336)).run Tryz.prog w=.ok (.slice (some ⟨w.heap.size,0,none⟩) 336 336) (w.alloc (.cells n336 3)):=by
 rw[← yamu];exact zdu (P:=Tryz.prog) 22 3 (.int .i64 0) 1 8 Tryz.underlying22 zfz .i64 .i64 336 (by decide) (by decide) w
theorem yagj (w:World):(Instr.makeSlice 22 (.int .i64 32) (.int .i64 32)).run Tryz.prog w=.ok (.slice (some ⟨w.heap.size,0,none⟩) 32 32) (w.alloc (.cells n32 3)):=by
 rw[← yavf];exact zdu (P:=Tryz.prog) 22 3 (.int .i64 0) 1 8 Tryz.underlying22 zfz .i64 .i64 32 (by decide) (by decide) w
structure NDc (w0 wx:World) (bw bs bx:Nat) (vP vQ:Value) (W:List Int):Prop where
 hw:wx.heap[bw]?=some (.cells (zav W).toArray 3 (0,0))
 hs:wx.heap[bs]?=some (.cells n32 3 (0,0))
 hx:wx.heap[bx]?=some (.cells #[.slice (some ⟨bw,0,none⟩) 336 336,vP,.slice (some ⟨bs,0,none⟩) 32 32,vQ] 45 (0,0))
 d1:¬ bw=bs
 d2:¬ bw=bx
 d3:¬ bs=bx
 l1:w0.heap.size≤bw
 l2:w0.heap.size≤bs
 l3:w0.heap.size≤bx
 b:Below w0.heap.size w0 wx
theorem NDc.drew {w0 wx:World} {bw bs bx:Nat} {vP vQ:Value} {W:List Int} (h:NDc w0 wx bw bs bx vP vQ W):NDc w0 wx.drew bw bs bx vP vQ W :=
 ⟨h.hw,h.hs,h.hx,h.d1,h.d2,h.d3,h.l1,h.l2,h.l3,h.b.drew⟩
theorem NDc.mk0 {w0 wx:World} {bw bs bx:Nat} {vP vQ:Value} (hx:wx.heap[bx]?=some (.cells #[.slice (some ⟨bw,0,none⟩) 336 336,vP,.slice (some ⟨bs,0,none⟩) 32 32,vQ] 45 (0,0)))
  (hw:wx.heap[bw]?=some (.cells n336 3 (0,0))) (hs:wx.heap[bs]?=some (.cells n32 3 (0,0))) (d1:¬ bw=bs) (d2:¬ bw=bx) (d3:¬ bs=bx) (l1:w0.heap.size≤bw) (l2:w0.heap.size≤bs) (l3:w0.heap.size≤bx) (b:Below w0.heap.size w0 wx):NDc w0 wx bw bs bx vP vQ zpo:=⟨hw,hs,hx,d1,d2,d3,l1,l2,l3,b⟩
theorem NDc.store {w0 wx:World} {bw bs bx:Nat} {vP vQ:Value} {W:List Int} (h:NDc w0 wx bw bs bx vP vQ W) (j:Nat) (x:Int):NDc w0 (wx.setCell ⟨bw,j,none⟩ (.int .i64 x)) bw bs bx vP vQ (W.set j x):=by
 have d1:=h.d1;have d2:=h.d2;refine ⟨?_,(Below.heap_setCell _ _ _ _ (by simp only;omega)).trans h.hs,(Below.heap_setCell _ _ _ _ (by simp only;omega)).trans h.hx,h.d1,h.d2,h.d3,h.l1,h.l2,h.l3,h.b.setCell h.l1 _⟩;rw[← zeo];exact zci h.hw j _
theorem NDc.at {w0 wx:World} {bw bs bx:Nat} {vP vQ:Value} {W:List Int} (h:NDc w0 wx bw bs bx vP vQ W) (j:Nat) (hj:j < W.length):wx.cell? ⟨bw,j,none⟩=some (.int .i64 W[j])∧wx.frozen? ⟨bw,j,none⟩=false:=by
 obtain ⟨a,b⟩:=zbe h.hw j;exact ⟨a.trans (zay W j hj),b⟩
def NDr (w0:World) (s:Value) (wx:World):Prop:=∃ (bw bs bx:Nat) (aP aQ:Option Addr),s=.pointer (some ⟨bx,0,none⟩)∧NDc w0 wx bw bs bx (.slice aP 0 0) (.slice aQ 0 0) zpo
theorem NDr.mk {w0 wx:World} {bw bs bx:Nat} {aP aQ:Option Addr} (h:NDc w0 wx bw bs bx (.slice aP 0 0) (.slice aQ 0 0) zpo):NDr w0 (.pointer (some ⟨bx,0,none⟩)) wx:=⟨bw,bs,bx,aP,aQ,rfl,h⟩
theorem yaco {w:World} {b n:Nat} {zs:List Int} (h:w.heap[b]?=some (.cells (zav zs).toArray 3 (0,0))) (hn:zs.length=n):RdI w (.slice (some ⟨b,0,none⟩) n n) zs:=by
 subst hn;refine ⟨by rw[zdg,Nat.mul_one],some ⟨b,0,none⟩,zs.length,rfl,⟨Nat.le_refl _,fun e=>by cases e⟩,fun _=>⟨b,0,rfl,(Array.getElem?_eq_some_iff.1 h).1,fun j hj=>?_⟩⟩;rw[Nat.zero_add];exact (zbe (xs:=zav zs) h j).1
theorem yaeb (w:World) (size:Nat) (a:Option Addr):Rd w size (.slice a 0 0) 0 []:=⟨by simp,a,0,rfl,⟨Nat.le_refl _,fun _=>rfl⟩,fun h=>absurd h (by omega)⟩
theorem yahs:ndW.length=336:=by unfold ndW;rw[List.length_set,List.length_set,List.length_set,zet]
end Go.Proofs.YtahiphgmhndgaaaGreatDoor
