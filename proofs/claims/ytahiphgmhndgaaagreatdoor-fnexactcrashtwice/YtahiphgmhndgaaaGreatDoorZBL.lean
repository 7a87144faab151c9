/- Several texts laid together: JiD, FqM, CrC. -/
import Derived.Test.YtahiphgmhndgaaaGreatDoorJiB
import Derived.Test.YtahiphgmhndgaaaGreatDoorZAH
import Derived.Test.YtahiphgmhndgaaaGreatDoorZBA
import Derived.Test.YtahiphgmhndgaaaGreatDoorZBI
import Derived.Test.YtahiphgmhndgaaaGreatDoorZBC
import Derived.Deep.RegionHeld3
import Derived.Test.YtahiphgmhndgaaaGreatDoorZBF
set_option maxRecDepth 100000
set_option maxHeartbeats 16000000
namespace Go.Proofs.YtahiphgmhndgaaaGreatDoor
open Go.RowKit
theorem yalc (l:List Mi):misB l=yaev l:=rfl
structure Mid2 (l:List Mi) (ws:List Int) (ps:List St) (es:List Int) (qs:List Se) (w:World) (b lo:Nat) (wr:World) (k:Nat) (W:List Int) (P:List St) (E:List Int) (Q:List Se) (a b' c d:Value):Prop where
 run:mr (l.take k) ws ps es qs=⟨0,W,P,E,Q⟩
 box:wr.heap[b]?=some (.cells #[a,b',c,d] 45 (0,0))
 res:wr.heap[w.heap.size+1]?=some (.cells #[.slice none 0 0,.slice none 0 0,.slice none 0 0,.slice none 0 0] 45 (0,0))
 row:RowDevB wr b lo wr.heap.size (.agg #[a,b',c,d]) W P E Q
 below:Below w.heap.size w wr
 size:b < wr.heap.size∧lo≤b
theorem yaob {w:World} {b:Nat} {t:TypeId} {x y z u a b' c d:Value} (h:w.heap[b]?=some (.cells #[x,y,z,u] t (0,0))):(zix w b a b' c d).heap[b]?=some (.cells #[a,b',c,d] t (0,0)):=by
 simp[zix,World.setCell,Array.getElem?_modify,h]
theorem zha (v vL:Value) (l:List Mi) (ws:List Int) (ps:List St) (es:List Int) (qs:List Se) (w:World) (hS:SB w) (h:RdDev w v ws ps es qs) (hL:RdM w vL l) (hw:ws.length≤1048576) (hp:ps.length≤1048576) (he:es.length≤1048576) (hq:qs.length≤1048576) (hll:l.length≤1048576) :
  Calls Tryz.prog 51 #[v,vL] w fun e w'=>∃ v',e=.returned (.tuple #[v',.int .i64 (ms l ws ps es qs).c])∧RowDev w' w.heap.size w'.heap.size v' (ms l ws ps es qs).W (ms l ws ps es qs).P (ms l ws ps es qs).E (ms l ws ps es qs).Q∧Below w.heap.size w w':=by
 have HD:=zaa h;have HS:=zaa hS;have HL:=zaa hL;obtain ⟨aL,cL,rfl,-,hcL⟩:=hL.shape;obtain ⟨aW,cW,aP,cP,aS,cS,aQ,cQ,rfl,-,-⟩:=h.form;clear h hS hL
 have hb0:Below w.heap.size w ((w.alloc (.cells #[.slice aW ws.length cW,.slice aP ps.length cP,.slice aS es.length cS,.slice aQ qs.length cQ] 45)).alloc (.cells #[.slice none 0 0,.slice none 0 0,.slice none 0 0,.slice none 0 0] 45)):=by
  repeat (refine Below.alloc ?_ (by simp <;> omega) _)
  exact Below.refl _ _
 by_cases hlong:4096 < l.length
 case pos =>
  rw[yatt hlong];simp only;have V2:((w.alloc (.cells #[.slice aW ws.length cW,.slice aP ps.length cP,.slice aS es.length cS,.slice aQ qs.length cQ] 45)).alloc (.cells #[.slice none 0 0,.slice none 0 0,.slice none 0 0,.slice none 0 0] 45)).heap[w.heap.size+1]?=some (.cells #[.slice none 0 0,.slice none 0 0,.slice none 0 0,.slice none 0 0] 45 (0,0)):=zag (by simp);obtain ⟨y0,y1,y2,y3,y4,y5,y6,y7⟩:=zaf V2;have B0:=zaa hb0;clear hb0 V2 hcL;go_enter Tryz.func51,Tryz.ntmps51;go_upto_region 1 with fail
  obtain ⟨w1,hw1⟩:∃ w1:World,w1=((w.alloc (.cells #[.slice aW ws.length cW,.slice aP ps.length cP,.slice aS es.length cS,.slice aQ qs.length cQ] 45)).alloc (.cells #[.slice none 0 0,.slice none 0 0,.slice none 0 0,.slice none 0 0] 45)):=⟨_,rfl⟩
  rw[← hw1];rw[← hw1] at y0 y1 y2 y3 y4 y5 y6 y7 B0
  have hz1:w.heap.size+2≤w1.heap.size:=by rw[hw1];simp
  clear hw1;go_wp2;refine bodyPost_ret (v:=.tuple #[.agg #[.slice none 0 0,.slice none 0 0,.slice none 0 0,.slice none 0 0],.int .i64 2]) (by simp[results,Tryz.results51,go_sem,y0,y1,y2,y3]) rfl ?_;exact ⟨_,rfl,RowDev.zero _ _ _ (Nat.le_trans (by omega) (Nat.le_of_eq (zax w1 (w.heap.size+1) _ _ _ _).symm)),B0.o.trans ((zbb w1 (w.heap.size+1) _ _ _ _).below (by omega) (by omega))⟩
 by_cases c1:(pmB ws ps && zbp es qs)=true
 case neg =>
  have c1':(pmB ws ps && zbp es qs)=false:=by simpa using c1
  rw[yari hlong (by rw[c1'];rfl)];simp only;have C1:=zaa c1';clear c1 c1' hcL;go_enter Tryz.func51,Tryz.ntmps51;go_wp2_with fail;refine (zcp _ ws ps es qs _ (HD.o.below hb0) hw hp he hq).mono ?_;rw[C1.o];rintro e w1 ⟨rfl,hb1⟩
  have hz1:w.heap.size+2≤w1.heap.size:=by have:=hb1.size;simp at this;omega
  have V0:=zaa ((hb1.block w.heap.size (by simp <;> omega)).trans (zal (zag rfl)));have V2:=zaa ((hb1.block (w.heap.size+1) (by simp <;> omega)).trans (zag (by simp)));have B1:=zaa (zab hb0 hb1 (by simp <;> omega));clear hb0 hb1;obtain ⟨x0,x1,x2,x3,-,-,-,-⟩:=zaf V0.o;obtain ⟨y0,y1,y2,y3,y4,y5,y6,y7⟩:=zaf V2.o;go_wp2;refine bodyPost_ret (v:=.tuple #[.agg #[.slice none 0 0,.slice none 0 0,.slice none 0 0,.slice none 0 0],.int .i64 1]) (by simp[results,Tryz.results51,go_sem,y0,y1,y2,y3]) rfl ?_;exact ⟨_,rfl,RowDev.zero _ _ _ (Nat.le_trans (by omega) (Nat.le_of_eq (zax w1 (w.heap.size+1) _ _ _ _).symm)),B1.o.trans ((zbb w1 (w.heap.size+1) _ _ _ _).below (by omega) (by omega))⟩
 by_cases c2:misB l=true
 case neg =>
  have c2':misB l=false:=by simpa using c2
  rw[yari hlong (by rw[c1,← yalc,c2'];rfl)];simp only;have C1:=zaa c1;have C2:=zaa c2';clear c1 c2 c2' hcL;go_enter Tryz.func51,Tryz.ntmps51;go_wp2_with fail;refine (zcp _ ws ps es qs _ (HD.o.below hb0) hw hp he hq).mono ?_;rw[C1.o];rintro e w1 ⟨rfl,hb1⟩
  have hz1:w.heap.size+2≤w1.heap.size:=by have:=hb1.size;simp at this;omega
  have V0:=zaa ((hb1.block w.heap.size (by simp <;> omega)).trans (zal (zag rfl)));have V2:=zaa ((hb1.block (w.heap.size+1) (by simp <;> omega)).trans (zag (by simp)));have B1:=zaa (zab hb0 hb1 (by simp <;> omega));clear hb0 hb1;obtain ⟨x0,x1,x2,x3,-,-,-,-⟩:=zaf V0.o;obtain ⟨y0,y1,y2,y3,y4,y5,y6,y7⟩:=zaf V2.o;go_wp2_with fail;refine (zgy _ l _ (HS.o.below B1.o) (Rd.below HL.o B1.o) (by omega)).mono ?_;rw[C2.o];rintro e w2 ⟨rfl,hb2⟩;have hz2:w1.heap.size≤w2.heap.size:=hb2.size;have U0:=zaa ((hb2.block _ (by omega)).trans V0.o);have U2:=zaa ((hb2.block _ (by omega)).trans V2.o);have B2:=zaa (zab B1.o hb2 (by omega));clear hb2 x0 x1 x2 x3 y0 y1 y2 y3 y4 y5 y6 y7 V0 V2 B1;obtain ⟨x0,x1,x2,x3,-,-,-,-⟩:=zaf U0.o;obtain ⟨y0,y1,y2,y3,y4,y5,y6,y7⟩:=zaf U2.o;go_wp2;refine bodyPost_ret (v:=.tuple #[.agg #[.slice none 0 0,.slice none 0 0,.slice none 0 0,.slice none 0 0],.int .i64 1]) (by simp[results,Tryz.results51,go_sem,y0,y1,y2,y3]) rfl ?_;exact ⟨_,rfl,RowDev.zero _ _ _ (Nat.le_trans (by omega) (Nat.le_of_eq (zax w2 (w.heap.size+1) _ _ _ _).symm)),B2.o.trans ((zbb w2 (w.heap.size+1) _ _ _ _).below (by omega) (by omega))⟩
 case pos =>
  rw[yarl hlong (by rw[c1,← yalc,c2];rfl)];have C1:=zaa c1;have C2:=zaa c2;have CP:=zaa (by simpa using c1:pmB ws ps=true∧zbp es qs=true);have CM:=zaa (yahw c2);clear c1 c2;go_enter Tryz.func51,Tryz.ntmps51;go_wp2_with fail;refine (zcp _ ws ps es qs _ (HD.o.below hb0) hw hp he hq).mono ?_;rw[C1.o];rintro e w1 ⟨rfl,hb1⟩
  have hz1:w.heap.size+2≤w1.heap.size:=by have:=hb1.size;simp at this;omega
  have V0:=zaa ((hb1.block w.heap.size (by simp <;> omega)).trans (zal (zag rfl)));have V2:=zaa ((hb1.block (w.heap.size+1) (by simp <;> omega)).trans (zag (by simp)));have B1:=zaa (zab hb0 hb1 (by simp <;> omega));clear hb0 hb1;obtain ⟨x0,x1,x2,x3,-,-,-,-⟩:=zaf V0.o;obtain ⟨y0,y1,y2,y3,y4,y5,y6,y7⟩:=zaf V2.o;go_wp2_with fail;refine (zgy _ l _ (HS.o.below B1.o) (Rd.below HL.o B1.o) (by omega)).mono ?_;rw[C2.o];rintro e w2 ⟨rfl,hb2⟩;have hz2:w1.heap.size≤w2.heap.size:=hb2.size;have U0:=zaa ((hb2.block _ (by omega)).trans V0.o);have U2:=zaa ((hb2.block _ (by omega)).trans V2.o);have B2:=zaa (zab B1.o hb2 (by omega));clear hb2 x0 x1 x2 x3 y0 y1 y2 y3 y4 y5 y6 y7 V0 V2 B1;obtain ⟨x0,x1,x2,x3,-,-,-,-⟩:=zaf U0.o;obtain ⟨y0,y1,y2,y3,y4,y5,y6,y7⟩:=zaf U2.o;go_wp2_with fail;refine (zpx _ ws ps es qs _ (HD.o.below B2.o) (by omega) (by omega) (by omega) (by omega)).mono ?_;rintro e w3 ⟨v3,rfl,hr3,hb3⟩;obtain ⟨aW3,cW3,aP3,cP3,aS3,cS3,aQ3,cQ3,rfl,-,-⟩:=hr3.rd.form;have hz3:w2.heap.size≤w3.heap.size:=hb3.size;have B3:=zaa (zab B2.o hb3 (by omega));have R3:=zaa hr3;have T2:=zaa ((hb3.block _ (by omega)).trans U2.o);clear hr3 hb3 x0 x1 x2 x3 y0 y1 y2 y3 y4 y5 y6 y7 U0 U2 B2
  have I0:Hid (Mid2 l ws ps es qs w w3.heap.size w2.heap.size (w3.alloc (.cells #[.slice aW3 ws.length cW3,.slice aP3 ps.length cP3,.slice aS3 es.length cS3,.slice aQ3 qs.length cQ3] 45)) 0 ws ps es qs (.slice aW3 ws.length cW3) (.slice aP3 ps.length cP3) (.slice aS3 es.length cS3) (.slice aQ3 qs.length cQ3)) :=
   ⟨rfl,zag rfl,zal T2.o,((R3.o.alloc (Nat.le_refl _) _).b w3.heap.size (.inr (Nat.le_refl _))).wide (Nat.le_refl _) (by simp),B3.o.alloc B3.o.size _,by simp,hz3⟩
  clear T2;go_wp2
  go_loopw [7,9,27] (fun cd _ i wr=>∃ k:Nat,k≤l.length∧i=.int .i64 k∧cd=.int .i64 0∧∃ (W:List Int) (P:List St) (E:List Int) (Q:List Se) (d1 d2 d3 d4:Option Addr) (f1 f2 f3 f4:Nat),Hid (Mid2 l ws ps es qs w w3.heap.size w2.heap.size wr k W P E Q (.slice d1 W.length f1) (.slice d2 P.length f2) (.slice d3 E.length f3) (.slice d4 Q.length f4))) (fun _ _ i _=>l.length - (intOf i).toNat)
  case atStart=>exact ⟨0,by omega,rfl,rfl,ws,ps,es,qs,_,_,_,_,_,_,_,_,I0⟩
  case round =>
   obtain ⟨k,hk,rfl,rfl,W,P,E,Q,d1,d2,d3,d4,f1,f2,f3,f4,I⟩:=hrel;clear I0 R3;have hbr:=I.o.below;have hzr:=hbr.size;have hsz:=I.o.size
   by_cases hlt:k < l.length
   ·obtain ⟨bL,oL,rfl,hblL,hcellL⟩:=hcL (by omega);obtain ⟨g0,g1,g2⟩:=hcellL k hlt;have e0:=(hbr.cell (p:=⟨bL,oL+k*3,none⟩) hblL).trans g0;have e1:=(hbr.cell (p:=⟨bL,oL+k*3+1,none⟩) hblL).trans g1;have e2:=(hbr.cell (p:=⟨bL,oL+k*3+2,none⟩) hblL).trans g2;clear g0 g1 g2 hcellL hcL hbr
    obtain ⟨wb,hwb⟩:∃ wb:World,wb=wr.alloc (.cells #[.int .i64 l[k].kind,.int .i64 l[k].at_,.int .i64 l[k].val] 98):=⟨_,rfl⟩
    have hzb:wb.heap.size=wr.heap.size+1:=by rw[hwb,World.size_alloc]
    have BB:Hid (Below wr.heap.size wr wb):=by rw[hwb];exact (Below.refl _ _).alloc (Nat.le_refl _) _
    have XB:=zaa ((BB.o.block _ (by omega)).trans I.o.box);have XR:=zaa ((BB.o.block _ (by omega)).trans I.o.res);have XW:=zaa ((I.o.row.below BB.o (Nat.le_refl _)).wide (Nat.le_refl w2.heap.size) (show wr.heap.size≤wb.heap.size by omega))
    have XO:=zaa (show pmB W P=true∧zbp E Q=true by
     have:=zyz (l.take k) ws ps es qs CP.o.1 CP.o.2 (fun m hm=>by
      obtain ⟨j,hj,rfl⟩:=List.getElem_of_mem (List.mem_of_mem_take hm)
      exact CM.o j hj)
     rw[I.o.run] at this
     exact this)
    have XM:=zaa (show miB ⟨l[k].kind,l[k].at_,l[k].val⟩=true from CM.o k hlt);have hsh:(wr.alloc (.cells #[.int .i64 l[k].kind,.int .i64 l[k].at_,.int .i64 l[k].val] 98)).heap[w3.heap.size]?=some (.cells #[.slice d1 W.length f1,.slice d2 P.length f2,.slice d3 E.length f3,.slice d4 Q.length f4] 45 (0,0)):=hwb ▸ XB.o;obtain ⟨q0,q1,q2,q3,-,-,-,-⟩:=zaf hsh;clear hsh
    by_cases hf:zgl l[k] P Q=true
    ·have MD:Hid (mdC ⟨l[k].kind,l[k].at_,l[k].val⟩ W P E Q=7∧mdW ⟨l[k].kind,l[k].at_,l[k].val⟩ W P E Q=W∧mdP ⟨l[k].kind,l[k].at_,l[k].val⟩ W P E Q=P∧mdE ⟨l[k].kind,l[k].at_,l[k].val⟩ W P E Q=E∧mdQ ⟨l[k].kind,l[k].at_,l[k].val⟩ W P E Q=Q):=by
      rcases zkc ⟨l[k].kind,l[k].at_,l[k].val⟩ W P E Q with ⟨c,_⟩ | ⟨_,c,_⟩ | ⟨_,_,_,c⟩ | ⟨_,_,c,_⟩
      ·rw[XO.o.1,XO.o.2] at c;cases c
      ·rw[XM.o] at c;cases c
      ·exact c
      ·rw[show zgl ⟨l[k].kind,l[k].at_,l[k].val⟩ P Q=true from hf] at c;cases c
     have RUN:=zaa (yamb hlt I.o.run hf);clear hf;go_wp2_with (go_at_call 101;rw[← hwb];refine (zrz _ l[k].kind l[k].at_ l[k].val W P E Q w3.heap.size w2.heap.size wb (by omega) (by omega) XW.o XO.o.1 XO.o.2 XM.o).mono ?_;rw[MD.o.1,MD.o.2.1,MD.o.2.2.1,MD.o.2.2.2.1,MD.o.2.2.2.2];rintro e w4 ⟨v4,rfl,hr4,hb4⟩;obtain ⟨j1,i1,j2,i2,j3,i3,j4,i4,rfl,-,-⟩:=hr4.row.rd.form;have R4:=zaa hr4;have B4:=zaa hb4;obtain ⟨u0,u1,u2,u3,u4,u5,u6,u7⟩:=zaf ((hb4.block _ (by omega)).trans XB.o);obtain ⟨s0,s1,s2,s3,s4,s5,s6,s7⟩:=zaf ((hb4.block _ (by omega)).trans XR.o);clear hr4 hb4);refine bodyPost_ret (v:=.tuple #[.agg #[.slice j1 W.length i1,.slice j2 P.length i2,.slice j3 E.length i3,.slice j4 Q.length i4],.int .i64 7]) (by simp[results,Tryz.results51,go_sem,s0,s1,s2,s3]) rfl ?_;rw[RUN.o];simp only;have hz4:wb.heap.size≤w4.heap.size:=B4.o.size;have O1:=zbb w4 w3.heap.size (.slice j1 W.length i1) (.slice j2 P.length i2) (.slice j3 E.length i3) (.slice j4 Q.length i4);have Z1:=zax w4 w3.heap.size (.slice j1 W.length i1) (.slice j2 P.length i2) (.slice j3 E.length i3) (.slice j4 Q.length i4);have O2:=zbb (zix w4 w3.heap.size (.slice j1 W.length i1) (.slice j2 P.length i2) (.slice j3 E.length i3) (.slice j4 Q.length i4)) (w.heap.size+1) (.slice j1 W.length i1) (.slice j2 P.length i2) (.slice j3 E.length i3) (.slice j4 Q.length i4);have Z2:=zax (zix w4 w3.heap.size (.slice j1 W.length i1) (.slice j2 P.length i2) (.slice j3 E.length i3) (.slice j4 Q.length i4)) (w.heap.size+1) (.slice j1 W.length i1) (.slice j2 P.length i2) (.slice j3 E.length i3) (.slice j4 Q.length i4);exact ⟨_,rfl,((R4.o.put O1 (Nat.le_refl _)).row.outside O2 (by omega) (by omega)).wide (by omega) (Nat.le_of_eq (Z2.trans Z1).symm),(((I.o.below.trans (BB.o.mono (by omega))).trans (B4.o.mono (by omega))).trans (O1.below (by omega) (by omega))).trans (O2.below (by omega) (by omega))⟩
    ·have hf':zgl l[k] P Q=false:=by simpa using hf
     have MD:Hid (mdC ⟨l[k].kind,l[k].at_,l[k].val⟩ W P E Q=0∧mdW ⟨l[k].kind,l[k].at_,l[k].val⟩ W P E Q=doW l[k] W P∧mdP ⟨l[k].kind,l[k].at_,l[k].val⟩ W P E Q=doP l[k] P∧mdE ⟨l[k].kind,l[k].at_,l[k].val⟩ W P E Q=doE l[k] E Q∧mdQ ⟨l[k].kind,l[k].at_,l[k].val⟩ W P E Q=doQ l[k] Q):=by
      rcases zkc ⟨l[k].kind,l[k].at_,l[k].val⟩ W P E Q with ⟨c,_⟩ | ⟨_,c,_⟩ | ⟨_,_,c,_⟩ | ⟨_,_,_,c⟩
      ·rw[XO.o.1,XO.o.2] at c;cases c
      ·rw[XM.o] at c;cases c
      ·rw[show zgl ⟨l[k].kind,l[k].at_,l[k].val⟩ P Q=false from hf'] at c;cases c
      ·exact c
     have RUN:=zaa (yakb hlt I.o.run hf');clear hf hf';go_wp2_with (go_at_call 101;rw[← hwb];refine (zrz _ l[k].kind l[k].at_ l[k].val W P E Q w3.heap.size w2.heap.size wb (by omega) (by omega) XW.o XO.o.1 XO.o.2 XM.o).mono ?_;rw[MD.o.1,MD.o.2.1,MD.o.2.2.1,MD.o.2.2.2.1,MD.o.2.2.2.2];rintro e w4 ⟨v4,rfl,hr4,hb4⟩;obtain ⟨j1,i1,j2,i2,j3,i3,j4,i4,rfl,-,-⟩:=hr4.row.rd.form;have R4:=zaa hr4;have B4:=zaa hb4;obtain ⟨u0,u1,u2,u3,u4,u5,u6,u7⟩:=zaf ((hb4.block _ (by omega)).trans XB.o);clear hr4 hb4)
     go_roundw
     case rel =>
      have hz4:wb.heap.size≤w4.heap.size:=B4.o.size;have O1:=zbb w4 w3.heap.size (.slice j1 (doW l[k] W P).length i1) (.slice j2 (doP l[k] P).length i2) (.slice j3 (doE l[k] E Q).length i3) (.slice j4 (doQ l[k] Q).length i4);have Z1:=zax w4 w3.heap.size (.slice j1 (doW l[k] W P).length i1) (.slice j2 (doP l[k] P).length i2) (.slice j3 (doE l[k] E Q).length i3) (.slice j4 (doQ l[k] Q).length i4);exact ⟨k+1,by omega,by go_num,rfl,_,_,_,_,j1,j2,j3,j4,i1,i2,i3,i4,RUN.o,yaob ((B4.o.block _ (by omega)).trans XB.o),(O1.block _ (by omega) (by omega)).trans ((B4.o.block _ (by omega)).trans XR.o),(R4.o.put O1 (Nat.le_refl _)).wide (Nat.le_refl _) (Nat.le_of_eq Z1.symm),((I.o.below.trans (BB.o.mono (by omega))).trans (B4.o.mono (by omega))).trans (O1.below (by omega) (by omega)),Nat.lt_of_lt_of_eq (show w3.heap.size < w4.heap.size by omega) Z1.symm,by omega⟩
     case measure=>simp[intOf];omega
   ·have RUN:=zaa (yaql (by omega) I.o.run);obtain ⟨q0,q1,q2,q3,-,-,-,-⟩:=zaf I.o.box;obtain ⟨s0,s1,s2,s3,s4,s5,s6,s7⟩:=zaf I.o.res;clear hcL hbr;go_wp2;refine bodyPost_ret (v:=.tuple #[.agg #[.slice d1 W.length f1,.slice d2 P.length f2,.slice d3 E.length f3,.slice d4 Q.length f4],.int .i64 0]) (by simp[results,Tryz.results51,go_sem,s0,s1,s2,s3]) rfl ?_;rw[RUN.o];simp only;have O2:=zbb wr (w.heap.size+1) (.slice d1 W.length f1) (.slice d2 P.length f2) (.slice d3 E.length f3) (.slice d4 Q.length f4);have Z2:=zax wr (w.heap.size+1) (.slice d1 W.length f1) (.slice d2 P.length f2) (.slice d3 E.length f3) (.slice d4 Q.length f4);exact ⟨_,rfl,(I.o.row.row.outside O2 (by omega) (Nat.le_refl _)).wide (by omega) (Nat.le_of_eq Z2.symm),I.o.below.trans (O2.below (by omega) (by omega))⟩
structure SmF (f:Fz):Prop where
 a:f.ws.length≤1048576
 b:f.ps.length≤1048576
 c:f.es.length≤1048576
 d:f.qs.length≤1048576
 e:f.hs.length≤1048576
 t:f.td.length≤1048576
 n:f.nm.length≤1048576
theorem yafm:SmF zz:=⟨by simp[zz],by simp[zz],by simp[zz],by simp[zz],by simp[zz],by simp[zz],by simp[zz]⟩
theorem yard {ws:List Int} {ps:List St} {es:List Int} {qs:List Se} (h:akC ws ps es qs=0):SmF (zno ws ps es qs).1:=by
 obtain ⟨hp,hb,p0,q0⟩:=yabt h;have ok:=zyz (rpL ws ps) ws ps es qs hp hb (ztp ws ps);obtain ⟨run,-⟩:=yakl (ws:=ws) (es:=es) p0 q0;rw[run] at ok;simp only at ok;have a:=zbz ok.1;have b:=zbt ok.2;unfold zno
 split
 ·exact ⟨by simp only;omega,by simp only;omega,by simp only;omega,by simp only;omega,by simp only;rw[NHL];omega,by simp,by simp⟩
 ·exact yafm
theorem zpu (v:Value) (ws:List Int) (ps:List St) (es:List Int) (qs:List Se) (w:World) (h:RdDev w v ws ps es qs) (hws:ws.length≤1048576) (hps:ps.length≤1048576) (hes:es.length≤1048576) (hqs:qs.length≤1048576) :
  Calls Tryz.prog 46 #[v] w fun e w'=>zis w w' e (recR ws ps es qs):=by
 have LA:=zaa (fun w1 (hb:Below w.heap.size w w1)=>yagp v ws ps es qs w1 (h.below hb) hws hps hes hqs);have HR:=zaa h;obtain ⟨aW,cW,aP,cP,aS,cS,aQ,cQ,rfl,-,-⟩:=id h.form;clear h
 by_cases z:akC ws ps es qs=0
 ·have eA:recR ws ps es qs=zno ws ps es qs:=if_pos z;have hl:=yard z
  have Z0:Hid ((zno ws ps es qs).2=0∨(zno ws ps es qs).1=zz):=by
   unfold Hid zno
   split
   ·exact .inl rfl
   ·exact .inr rfl
  obtain ⟨hp,hbk,p0,q0⟩:=yabt z;have IN:=zaa (fun w1 (hb:Below w.heap.size w w1)=>zrh _ ws ps es qs w1 (HR.o.below hb) hws hps hes hqs p0 q0 hp hbk);rw[z] at LA;rw[eA];generalize zno ws ps es qs=RR at *;clear eA z hp hbk p0 q0 HR;obtain ⟨⟨ws2,ps2,es2,qs2,hs2,td2,cd2,vl2,nm2,fr2⟩,c⟩:=RR;simp only at IN hl Z0 ⊢;have OW:=zaa (fun v1 w1 (hr:RdF w1 v1 ws2 ps2 es2 qs2 hs2 td2 cd2 vl2 nm2 fr2)=>yafw v1 ws2 ps2 es2 qs2 hs2 td2 cd2 vl2 nm2 fr2 w1 hr hl.a hl.b hl.c hl.d hl.e hl.t hl.n);clear hl
  obtain ⟨V,hV⟩:∃ V,V=((w.alloc (.cells #[.slice aW ws.length cW,.slice aP ps.length cP,.slice aS es.length cS,.slice aQ qs.length cQ] 45)).alloc (.cells #[.slice none 0 0,.slice none 0 0,.slice none 0 0,.slice none 0 0,.slice none 0 0,.slice none 0 0,.int .i64 0,.int .i64 0,.slice none 0 0,.bool false] 51)):=⟨_,rfl⟩
  have zV:w.heap.size+2≤V.heap.size:=by rw[hV];simp <;> omega
  have B_V:Hid (Below w.heap.size w V):=by rw[hV];exact (((Below.refl _ _).alloc (by simp <;> omega) _).alloc (by simp <;> omega) _)
  have X0_V:Hid (V.heap[w.heap.size]?=some (.cells #[.slice aW ws.length cW,.slice aP ps.length cP,.slice aS es.length cS,.slice aQ qs.length cQ] 45 (0,0))):=by rw[hV];exact (zal (zag rfl))
  have X1_V:Hid (V.heap[w.heap.size+1]?=some (.cells #[.slice none 0 0,.slice none 0 0,.slice none 0 0,.slice none 0 0,.slice none 0 0,.slice none 0 0,.int .i64 0,.int .i64 0,.slice none 0 0,.bool false] 51 (0,0))):=by rw[hV];exact (zag (by simp))
  go_enter Tryz.func46,Tryz.ntmps46;go_upto_region 1 with fail;rw[← hV];clear hV;obtain ⟨c0_0,c0_1,c0_2,c0_3,-⟩:=zaf X0_V.o;go_wp2_with fail;refine (LA.o V B_V.o).mono ?_;rintro e w1 ⟨rfl,hb⟩;clear c0_0 c0_1 c0_2 c0_3;have zw1:V.heap.size≤w1.heap.size:=hb.size;have B_w1:=zaa (zab B_V.o hb B_V.o.size);have X0_w1:=zaa (zac X0_V.o hb (zah X0_V.o));have X1_w1:=zaa (zac X1_V.o hb (zah X1_V.o));clear B_V hb X0_V X1_V;clear LA;obtain ⟨c0_0,c0_1,c0_2,c0_3,-⟩:=zaf X0_w1.o;go_wp2_with fail;refine (IN.o w1 B_w1.o).mono ?_;rintro e w2 ⟨v',rfl,hr,hb⟩;obtain ⟨iW,jW,iP,jP,iS,jS,iQ,jQ,iH,jH,iT,jT,iN,jN,rfl,-⟩:=id hr;clear c0_0 c0_1 c0_2 c0_3;have zw2:w1.heap.size≤w2.heap.size:=hb.size;have B_w2:=zaa (zab B_w1.o hb B_w1.o.size);have X0_w2:=zaa (zac X0_w1.o hb (zah X0_w1.o));have X1_w2:=zaa (zac X1_w1.o hb (zah X1_w1.o));clear B_w1 hb X0_w1 X1_w1;have RF_w2:=zaa hr;clear hr IN
  obtain ⟨w3,hw3⟩:∃ w3,w3=w2.alloc (.cells #[.slice iW ws2.length jW,.slice iP ps2.length jP,.slice iS es2.length jS,.slice iQ qs2.length jQ,.slice iH hs2.length jH,.slice iT td2.length jT,.int .i64 cd2,.int .i64 vl2,.slice iN nm2.length jN,.bool fr2] 51):=⟨_,rfl⟩
  have hb:Below w2.heap.size w2 w3:=by rw[hw3];exact (Below.refl _ _).alloc (Nat.le_refl _) _
  obtain ⟨bX,hbX⟩:∃ bX:Nat,bX=w2.heap.size:=⟨_,rfl⟩
  have VX:Hid (w3.heap[bX]?=some (.cells #[.slice iW ws2.length jW,.slice iP ps2.length jP,.slice iS es2.length jS,.slice iQ qs2.length jQ,.slice iH hs2.length jH,.slice iT td2.length jT,.int .i64 cd2,.int .i64 vl2,.slice iN nm2.length jN,.bool fr2] 51 (0,0))):=by rw[hw3,hbX];exact zag rfl
  have zw3:w2.heap.size≤w3.heap.size:=hb.size;have B_w3:=zaa (zab B_w2.o hb B_w2.o.size);have X0_w3:=zaa (zac X0_w2.o hb (zah X0_w2.o));have X1_w3:=zaa (zac X1_w2.o hb (zah X1_w2.o));have RF_w3:=zaa (RF_w2.o.below hb);clear B_w2 hb X0_w2 X1_w2 RF_w2;go_upto_region 5 with fail;rw[← hw3,← hbX];clear hw3 hbX;obtain ⟨x0,x1,x2,x3,x4,x5,x6,x7,x8,x9,-⟩:=zam VX.o
  by_cases cz:c=0
  case neg =>
   have e0:=Z0.o.resolve_left cz;clear OW Z0
   obtain ⟨q1,q2,q3,q4,q5,q6,q7,q8,q9,q10⟩:ws2=[]∧ps2=[]∧es2=[]∧qs2=[]∧hs2=[]∧td2=[]∧cd2=0∧vl2=0∧nm2=[]∧fr2=false:=by
    unfold zz at e0;injection e0 with q1 q2 q3 q4 q5 q6 q7 q8 q9 q10;exact ⟨q1,q2,q3,q4,q5,q6,q7,q8,q9,q10⟩
   clear e0;obtain ⟨d0,d1,d2,d3,d4,d5,d6,d7,d8,d9,g0,g1,g2,g3,g4,g5,g6,g7,g8,g9⟩:=zam X1_w3.o;clear x0 x1 x2 x3 x4 x5 x6 x7 x8 x9
   obtain ⟨w4,hw4⟩:∃ w4,w4=((((((((((w3.setCell ⟨w.heap.size+1,0,none⟩ (.slice none 0 0)).setCell ⟨w.heap.size+1,1,none⟩ (.slice none 0 0)).setCell ⟨w.heap.size+1,2,none⟩ (.slice none 0 0)).setCell ⟨w.heap.size+1,3,none⟩ (.slice none 0 0)).setCell ⟨w.heap.size+1,4,none⟩ (.slice none 0 0)).setCell ⟨w.heap.size+1,5,none⟩ (.slice none 0 0)).setCell ⟨w.heap.size+1,6,none⟩ (.int .i64 0)).setCell ⟨w.heap.size+1,7,none⟩ (.int .i64 0)).setCell ⟨w.heap.size+1,8,none⟩ (.slice none 0 0)).setCell ⟨w.heap.size+1,9,none⟩ (.bool false)):=⟨_,rfl⟩
   have Ow4:Outside (w.heap.size+1) (w.heap.size+1+1) w3 w4:=by
    rw[hw4]
    repeat (refine Outside.setCell ?_ (by simp only;omega) (by simp only;omega) _)
    exact Outside.refl _ _ _
   have zw4:w3.heap.size≤w4.heap.size∧w4.heap.size≤w3.heap.size:=by rw[hw4];simp[World.setCell]
   have B_w4:=zaa (B_w3.o.trans (Ow4.below (B:=w.heap.size) (by omega) B_w3.o.size));have X0_w4:=zaa ((Ow4.block (w.heap.size) (zah X0_w3.o) (by omega)).trans X0_w3.o)
   have X1_w4:Hid (w4.heap[w.heap.size+1]?=some (.cells #[.slice none 0 0,.slice none 0 0,.slice none 0 0,.slice none 0 0,.slice none 0 0,.slice none 0 0,.int .i64 0,.int .i64 0,.slice none 0 0,.bool false] 51 (0,0))):=by rw[hw4];exact (zcl (zcd (zcg (zcj (zcc (zca (zbu (zbq (zbs (zbv X1_w3.o _) _) _) _) _) _) _) _) _) _)
   clear Ow4;go_wp2;refine bodyPost_ret (v:=.tuple #[.agg #[.slice none 0 0,.slice none 0 0,.slice none 0 0,.slice none 0 0,.slice none 0 0,.slice none 0 0,.int .i64 0,.int .i64 0,.slice none 0 0,.bool false],.int .i64 c]) (by simp[results,Tryz.results46,go_sem,d0,d1,d2,d3,d4,d5,d6,d7,d8,d9]) rfl ?_;rw[← hw4];refine ⟨_,rfl,?_,B_w4.o⟩;simp only;rw[q1,q2,q3,q4,q5,q6,q7,q8,q9,q10];exact (RowF.zero _ _).wide (Nat.le_refl _) (by omega)
  subst cz;clear Z0;go_wp2_with fail;refine (OW.o _ w3 RF_w3.o).mono ?_;rintro e w4 ⟨vO,rfl,hr,hb⟩;obtain ⟨oW,pW,oP,pP,oS,pS,oQ,pQ,oH,pH,oT,pT,oN,pN,eo⟩:=hr.form;subst eo;clear x0 x1 x2 x3 x4 x5 x6 x7 x8 x9;have zw4:w3.heap.size≤w4.heap.size:=hb.size;have B_w4:=zaa (zab B_w3.o hb B_w3.o.size);have X0_w4:=zaa (zac X0_w3.o hb (zah X0_w3.o));have X1_w4:=zaa (zac X1_w3.o hb (zah X1_w3.o));have RF_w4:=zaa (RF_w3.o.below hb);clear B_w3 hb X0_w3 X1_w3 RF_w3;have QF_w4:Hid (RowF w4 w3.heap.size w4.heap.size _ ws2 ps2 es2 qs2 hs2 td2 cd2 vl2 nm2 fr2):=hr;clear hr RF_w4 OW;obtain ⟨d0,d1,d2,d3,d4,d5,d6,d7,d8,d9,g0,g1,g2,g3,g4,g5,g6,g7,g8,g9⟩:=zam X1_w4.o
  obtain ⟨w5,hw5⟩:∃ w5,w5=((((((((((w4.setCell ⟨w.heap.size+1,0,none⟩ (.slice oW ws2.length pW)).setCell ⟨w.heap.size+1,1,none⟩ (.slice oP ps2.length pP)).setCell ⟨w.heap.size+1,2,none⟩ (.slice oS es2.length pS)).setCell ⟨w.heap.size+1,3,none⟩ (.slice oQ qs2.length pQ)).setCell ⟨w.heap.size+1,4,none⟩ (.slice oH hs2.length pH)).setCell ⟨w.heap.size+1,5,none⟩ (.slice oT td2.length pT)).setCell ⟨w.heap.size+1,6,none⟩ (.int .i64 cd2)).setCell ⟨w.heap.size+1,7,none⟩ (.int .i64 vl2)).setCell ⟨w.heap.size+1,8,none⟩ (.slice oN nm2.length pN)).setCell ⟨w.heap.size+1,9,none⟩ (.bool fr2)):=⟨_,rfl⟩
  have Ow5:Outside (w.heap.size+1) (w.heap.size+1+1) w4 w5:=by
   rw[hw5]
   repeat (refine Outside.setCell ?_ (by simp only;omega) (by simp only;omega) _)
   exact Outside.refl _ _ _
  have zw5:w4.heap.size≤w5.heap.size∧w5.heap.size≤w4.heap.size:=by rw[hw5];simp[World.setCell]
  have B_w5:=zaa (B_w4.o.trans (Ow5.below (B:=w.heap.size) (by omega) B_w4.o.size));have X0_w5:=zaa ((Ow5.block (w.heap.size) (zah X0_w4.o) (by omega)).trans X0_w4.o)
  have X1_w5:Hid (w5.heap[w.heap.size+1]?=some (.cells #[.slice oW ws2.length pW,.slice oP ps2.length pP,.slice oS es2.length pS,.slice oQ qs2.length pQ,.slice oH hs2.length pH,.slice oT td2.length pT,.int .i64 cd2,.int .i64 vl2,.slice oN nm2.length pN,.bool fr2] 51 (0,0))):=by rw[hw5];exact (zcl (zcd (zcg (zcj (zcc (zca (zbu (zbq (zbs (zbv X1_w4.o _) _) _) _) _) _) _) _) _) _)
  have QF_w5:=zaa (QF_w4.o.outside Ow5 (by omega) (by omega));clear Ow5;go_wp2;refine bodyPost_ret (v:=.tuple #[.agg #[.slice oW ws2.length pW,.slice oP ps2.length pP,.slice oS es2.length pS,.slice oQ qs2.length pQ,.slice oH hs2.length pH,.slice oT td2.length pT,.int .i64 cd2,.int .i64 vl2,.slice oN nm2.length pN,.bool fr2],.int .i64 0]) (by simp[results,Tryz.results46,go_sem,d0,d1,d2,d3,d4,d5,d6,d7,d8,d9]) rfl ?_;rw[← hw5];exact ⟨_,rfl,QF_w5.o.wide (by omega) (by omega),B_w5.o⟩
 ·have eA:Hid (recR ws ps es qs=(zz,akC ws ps es qs)):=if_neg z;clear HR;generalize akC ws ps es qs=ac at *
  obtain ⟨V,hV⟩:∃ V,V=((w.alloc (.cells #[.slice aW ws.length cW,.slice aP ps.length cP,.slice aS es.length cS,.slice aQ qs.length cQ] 45)).alloc (.cells #[.slice none 0 0,.slice none 0 0,.slice none 0 0,.slice none 0 0,.slice none 0 0,.slice none 0 0,.int .i64 0,.int .i64 0,.slice none 0 0,.bool false] 51)):=⟨_,rfl⟩
  have zV:w.heap.size+2≤V.heap.size:=by rw[hV];simp <;> omega
  have B_V:Hid (Below w.heap.size w V):=by rw[hV];exact (((Below.refl _ _).alloc (by simp <;> omega) _).alloc (by simp <;> omega) _)
  have X0_V:Hid (V.heap[w.heap.size]?=some (.cells #[.slice aW ws.length cW,.slice aP ps.length cP,.slice aS es.length cS,.slice aQ qs.length cQ] 45 (0,0))):=by rw[hV];exact (zal (zag rfl))
  have X1_V:Hid (V.heap[w.heap.size+1]?=some (.cells #[.slice none 0 0,.slice none 0 0,.slice none 0 0,.slice none 0 0,.slice none 0 0,.slice none 0 0,.int .i64 0,.int .i64 0,.slice none 0 0,.bool false] 51 (0,0))):=by rw[hV];exact (zag (by simp))
  go_enter Tryz.func46,Tryz.ntmps46;go_upto_region 1 with fail;rw[← hV];clear hV;obtain ⟨c0_0,c0_1,c0_2,c0_3,-⟩:=zaf X0_V.o;go_wp2_with fail;refine (LA.o V B_V.o).mono ?_;rintro e w1 ⟨rfl,hb⟩;clear c0_0 c0_1 c0_2 c0_3;have zw1:V.heap.size≤w1.heap.size:=hb.size;have B_w1:=zaa (zab B_V.o hb B_V.o.size);have X0_w1:=zaa (zac X0_V.o hb (zah X0_V.o));have X1_w1:=zaa (zac X1_V.o hb (zah X1_V.o));clear B_V hb X0_V X1_V;clear LA;obtain ⟨d0,d1,d2,d3,d4,d5,d6,d7,d8,d9,g0,g1,g2,g3,g4,g5,g6,g7,g8,g9⟩:=zam X1_w1.o
  obtain ⟨w2,hw2⟩:∃ w2,w2=((((((((((w1.setCell ⟨w.heap.size+1,0,none⟩ (.slice none 0 0)).setCell ⟨w.heap.size+1,1,none⟩ (.slice none 0 0)).setCell ⟨w.heap.size+1,2,none⟩ (.slice none 0 0)).setCell ⟨w.heap.size+1,3,none⟩ (.slice none 0 0)).setCell ⟨w.heap.size+1,4,none⟩ (.slice none 0 0)).setCell ⟨w.heap.size+1,5,none⟩ (.slice none 0 0)).setCell ⟨w.heap.size+1,6,none⟩ (.int .i64 0)).setCell ⟨w.heap.size+1,7,none⟩ (.int .i64 0)).setCell ⟨w.heap.size+1,8,none⟩ (.slice none 0 0)).setCell ⟨w.heap.size+1,9,none⟩ (.bool false)):=⟨_,rfl⟩
  have Ow2:Outside (w.heap.size+1) (w.heap.size+1+1) w1 w2:=by
   rw[hw2]
   repeat (refine Outside.setCell ?_ (by simp only;omega) (by simp only;omega) _)
   exact Outside.refl _ _ _
  have zw2:w1.heap.size≤w2.heap.size∧w2.heap.size≤w1.heap.size:=by rw[hw2];simp[World.setCell]
  have B_w2:=zaa (B_w1.o.trans (Ow2.below (B:=w.heap.size) (by omega) B_w1.o.size));have X0_w2:=zaa ((Ow2.block (w.heap.size) (zah X0_w1.o) (by omega)).trans X0_w1.o)
  have X1_w2:Hid (w2.heap[w.heap.size+1]?=some (.cells #[.slice none 0 0,.slice none 0 0,.slice none 0 0,.slice none 0 0,.slice none 0 0,.slice none 0 0,.int .i64 0,.int .i64 0,.slice none 0 0,.bool false] 51 (0,0))):=by rw[hw2];exact (zcl (zcd (zcg (zcj (zcc (zca (zbu (zbq (zbs (zbv X1_w1.o _) _) _) _) _) _) _) _) _) _)
  clear Ow2;go_wp2;refine bodyPost_ret (v:=.tuple #[.agg #[.slice none 0 0,.slice none 0 0,.slice none 0 0,.slice none 0 0,.slice none 0 0,.slice none 0 0,.int .i64 0,.int .i64 0,.slice none 0 0,.bool false],.int .i64 ac]) (by simp[results,Tryz.results46,go_sem,d0,d1,d2,d3,d4,d5,d6,d7,d8,d9]) rfl ?_;rw[← hw2,eA.o];exact ⟨_,rfl,(RowF.zero _ _).wide (Nat.le_refl _) (by omega),B_w2.o⟩
end Go.Proofs.YtahiphgmhndgaaaGreatDoor
