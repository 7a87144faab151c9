import Derived.Test.YtdiaiejmoocpmaaGreatDoorZBX
import Derived.Test.YtdiaiejmoocpmaaGreatDoorDuF
set_option maxRecDepth 100000
set_option maxHeartbeats 64000000
namespace Go.Proofs.YtdiaiejmoocpmaaGreatDoor
open Go.RowKit
theorem yanr(l:List Mi):misB l=yaps l:=rfl
structure Mid2(l:List Mi)(ws:List Int)(ps:List St)(es:List Int)(qs:List Se)(w:World)(b lo:Nat)(wr:World)(k:Nat)(W:List Int)(P:List St)(E:List Int)(Q:List Se)(a b' c d:Value):Prop where
 run:mr (l.take k) ws ps es qs=⟨0,W,P,E,Q⟩
 box:wr.heap[b]?=some (.cells #[a,b',c,d] 31 (0,0))
 res:wr.heap[w.heap.size+1]?=some (.cells #[.N,.N,.N,.N] 31 (0,0))
 row:RowDevB wr b lo wr.heap.size (.agg #[a,b',c,d]) W P E Q
 below:zB w wr
 size:b<wr.heap.size/\lo<=b
theorem yaqg{w:World}{b:Nat}{t:TypeId}{x y z u a b' c d:Value}(h:w.heap[b]?=some (.cells #[x,y,z,u] t (0,0))):(zza w b a b' c d).heap[b]?=some (.cells #[a,b',c,d] t (0,0)):=by
 simp[zza,World.setCell,Array.getElem?_modify,h]
theorem zpa(v vL:Value)(l:List Mi)(ws:List Int)(ps:List St)(es:List Int)(qs:List Se)(w:World)(hS:SB w)(h:RdDev w v ws ps es qs)(hL:RdM w vL l)(hw:ws.length<=1048576)(hp:ps.length<=1048576)(he:es.length<=1048576)(hq:qs.length<=1048576)(hll:l.length<=1048576) :
  zC 12 #[v,vL] w fun e w'=>∃ v',e=.returned (.tuple #[v',.I (ms l ws ps es qs).c])/\RowDev w' w.heap.size w'.heap.size v' (ms l ws ps es qs).W (ms l ws ps es qs).P (ms l ws ps es qs).E (ms l ws ps es qs).Q/\zB w w':=by
 have HD:=zaa h;have HS:=zaa hS;have HL:=zaa hL;obtain⟨aL,cL,rfl,-,hcL⟩:=hL.shape;obtain⟨aW,cW,aP,cP,aS,cS,aQ,cQ,rfl,-,-⟩:=h.form;clear h hS hL
 have hb0:zB w ((w.alloc (.cells #[.slice aW ws.length cW,.slice aP ps.length cP,.slice aS es.length cS,.slice aQ qs.length cQ] 31)).alloc (.cells #[.N,.N,.N,.N] 31)):=by
  repeat (refine Below.alloc ?_ (by simp<;>omega) _)
  exact zR
 by_cases hlong:4096<l.length
 case pos =>
  rw[yaww hlong];simp only;have V2:((w.alloc (.cells #[.slice aW ws.length cW,.slice aP ps.length cP,.slice aS es.length cS,.slice aQ qs.length cQ] 31)).alloc (.cells #[.N,.N,.N,.N] 31)).heap[w.heap.size+1]?=some (.cells #[.N,.N,.N,.N] 31 (0,0)):=zaf (by simp);obtain⟨y0,y1,y2,y3,y4,y5,y6,y7⟩:=zai V2;have B0:=zaa hb0;clear hb0 V2 hcL;go_enter Tryz.func12,Tryz.ntmps12;go_upto_region 1 with fail
  obtain⟨w1,hw1⟩:∃ w1:World,w1=((w.alloc (.cells #[.slice aW ws.length cW,.slice aP ps.length cP,.slice aS es.length cS,.slice aQ qs.length cQ] 31)).alloc (.cells #[.N,.N,.N,.N] 31)):=⟨_,rfl⟩
  rw[<- hw1];rw[<- hw1]at y0 y1 y2 y3 y4 y5 y6 y7 B0
  have hz1:w.heap.size+2<=w1.heap.size:=by rw[hw1];simp
  clear hw1;go_wp2;refine bodyPost_ret (v:=.tuple #[.agg #[.N,.N,.N,.N],.I 2]) (by simp[results,Tryz.results12,go_sem,y0,y1,y2,y3]) rfl ?_;exact⟨_,rfl,RowDev.zero _ _ _ (Nat.le_trans (by omega) (Nat.le_of_eq (zdv w1 (w.heap.size+1) _ _ _ _).symm)),B0.o.trans ((zdr w1 (w.heap.size+1) _ _ _ _).below (by omega) (by omega))⟩
 by_cases c1:(pmB ws ps&&zdk es qs)=true
 case neg =>
  have c1':(pmB ws ps&&zdk es qs)=false:=by simpa using c1
  rw[yavi hlong (by rw[c1'];rfl)];simp only;have C1:=zaa c1';clear c1 c1' hcL;go_enter Tryz.func12,Tryz.ntmps12;go_wp2_with fail;refine(zfe _ ws ps es qs _ (HD.o.below hb0) hw hp he hq).mono ?_;rw[C1.o];rintro e w1 ⟨rfl,hb1⟩
  have hz1:w.heap.size+2<=w1.heap.size:=by have:=hb1.size;simp at this;omega
  have V0:=zaa ((hb1.block w.heap.size (by simp<;>omega)).trans (zaj (zaf rfl)));have V2:=zaa ((hb1.block (w.heap.size+1) (by simp<;>omega)).trans (zaf (by simp)));have B1:=zaa (zab hb0 hb1 (by simp<;>omega));clear hb0 hb1;obtain⟨x0,x1,x2,x3,-,-,-,-⟩:=zai V0.o;obtain⟨y0,y1,y2,y3,y4,y5,y6,y7⟩:=zai V2.o;go_wp2;refine bodyPost_ret (v:=.tuple #[.agg #[.N,.N,.N,.N],.I 1]) (by simp[results,Tryz.results12,go_sem,y0,y1,y2,y3]) rfl ?_;exact⟨_,rfl,RowDev.zero _ _ _ (Nat.le_trans (by omega) (Nat.le_of_eq (zdv w1 (w.heap.size+1) _ _ _ _).symm)),B1.o.trans ((zdr w1 (w.heap.size+1) _ _ _ _).below (by omega) (by omega))⟩
 by_cases c2:misB l=true
 case neg =>
  have c2':misB l=false:=by simpa using c2
  rw[yavi hlong (by rw[c1,<- yanr,c2'];rfl)];simp only;have C1:=zaa c1;have C2:=zaa c2';clear c1 c2 c2' hcL;go_enter Tryz.func12,Tryz.ntmps12;go_wp2_with fail;refine(zfe _ ws ps es qs _ (HD.o.below hb0) hw hp he hq).mono ?_;rw[C1.o];rintro e w1 ⟨rfl,hb1⟩
  have hz1:w.heap.size+2<=w1.heap.size:=by have:=hb1.size;simp at this;omega
  have V0:=zaa ((hb1.block w.heap.size (by simp<;>omega)).trans (zaj (zaf rfl)));have V2:=zaa ((hb1.block (w.heap.size+1) (by simp<;>omega)).trans (zaf (by simp)));have B1:=zaa (zab hb0 hb1 (by simp<;>omega));clear hb0 hb1;obtain⟨x0,x1,x2,x3,-,-,-,-⟩:=zai V0.o;obtain⟨y0,y1,y2,y3,y4,y5,y6,y7⟩:=zai V2.o;go_wp2_with fail;refine(zml _ l _ (HS.o.below B1.o) (Rd.below HL.o B1.o) (by omega)).mono ?_;rw[C2.o];rintro e w2 ⟨rfl,hb2⟩;have hz2:w1.heap.size<=w2.heap.size:=hb2.size;have U0:=zaa ((hb2.block _ (by omega)).trans V0.o);have U2:=zaa ((hb2.block _ (by omega)).trans V2.o);have B2:=zaa (zab B1.o hb2 (by omega));clear hb2 x0 x1 x2 x3 y0 y1 y2 y3 y4 y5 y6 y7 V0 V2 B1;obtain⟨x0,x1,x2,x3,-,-,-,-⟩:=zai U0.o;obtain⟨y0,y1,y2,y3,y4,y5,y6,y7⟩:=zai U2.o;go_wp2;refine bodyPost_ret (v:=.tuple #[.agg #[.N,.N,.N,.N],.I 1]) (by simp[results,Tryz.results12,go_sem,y0,y1,y2,y3]) rfl ?_;exact⟨_,rfl,RowDev.zero _ _ _ (Nat.le_trans (by omega) (Nat.le_of_eq (zdv w2 (w.heap.size+1) _ _ _ _).symm)),B2.o.trans ((zdr w2 (w.heap.size+1) _ _ _ _).below (by omega) (by omega))⟩
 case pos =>
  rw[ybam hlong (by rw[c1,<- yanr,c2];rfl)];have C1:=zaa c1;have C2:=zaa c2;have CP:=zaa (by simpa using c1:pmB ws ps=true/\zdk es qs=true);have CM:=zaa (yakt c2);clear c1 c2;go_enter Tryz.func12,Tryz.ntmps12;go_wp2_with fail;refine(zfe _ ws ps es qs _ (HD.o.below hb0) hw hp he hq).mono ?_;rw[C1.o];rintro e w1 ⟨rfl,hb1⟩
  have hz1:w.heap.size+2<=w1.heap.size:=by have:=hb1.size;simp at this;omega
  have V0:=zaa ((hb1.block w.heap.size (by simp<;>omega)).trans (zaj (zaf rfl)));have V2:=zaa ((hb1.block (w.heap.size+1) (by simp<;>omega)).trans (zaf (by simp)));have B1:=zaa (zab hb0 hb1 (by simp<;>omega));clear hb0 hb1;obtain⟨x0,x1,x2,x3,-,-,-,-⟩:=zai V0.o;obtain⟨y0,y1,y2,y3,y4,y5,y6,y7⟩:=zai V2.o;go_wp2_with fail;refine(zml _ l _ (HS.o.below B1.o) (Rd.below HL.o B1.o) (by omega)).mono ?_;rw[C2.o];rintro e w2 ⟨rfl,hb2⟩;have hz2:w1.heap.size<=w2.heap.size:=hb2.size;have U0:=zaa ((hb2.block _ (by omega)).trans V0.o);have U2:=zaa ((hb2.block _ (by omega)).trans V2.o);have B2:=zaa (zab B1.o hb2 (by omega));clear hb2 x0 x1 x2 x3 y0 y1 y2 y3 y4 y5 y6 y7 V0 V2 B1;obtain⟨x0,x1,x2,x3,-,-,-,-⟩:=zai U0.o;obtain⟨y0,y1,y2,y3,y4,y5,y6,y7⟩:=zai U2.o;go_wp2_with fail;refine(zro _ ws ps es qs _ (HD.o.below B2.o) (by omega) (by omega) (by omega) (by omega)).mono ?_;rintro e w3 ⟨v3,rfl,hr3,hb3⟩;obtain⟨aW3,cW3,aP3,cP3,aS3,cS3,aQ3,cQ3,rfl,-,-⟩:=hr3.rd.form;have hz3:w2.heap.size<=w3.heap.size:=hb3.size;have B3:=zaa (zab B2.o hb3 (by omega));have R3:=zaa hr3;have T2:=zaa ((hb3.block _ (by omega)).trans U2.o);clear hr3 hb3 x0 x1 x2 x3 y0 y1 y2 y3 y4 y5 y6 y7 U0 U2 B2
  have I0:Hid (Mid2 l ws ps es qs w w3.heap.size w2.heap.size (w3.alloc (.cells #[.slice aW3 ws.length cW3,.slice aP3 ps.length cP3,.slice aS3 es.length cS3,.slice aQ3 qs.length cQ3] 31)) 0 ws ps es qs (.slice aW3 ws.length cW3) (.slice aP3 ps.length cP3) (.slice aS3 es.length cS3) (.slice aQ3 qs.length cQ3)) :=
   ⟨rfl,zaf rfl,zaj T2.o,((R3.o.alloc zL _).b w3.heap.size (.inr zL)).wide zL (by simp),B3.o.alloc B3.o.size _,by simp,hz3⟩
  clear T2;go_wp2
  go_loopw [7,9,27] (fun cd _ i wr=>∃ k:Nat,k<=l.length/\i=.I k/\cd=.I 0/\∃ (W:List Int) (P:List St) (E:List Int) (Q:List Se) (d1 d2 d3 d4:Option Addr) (f1 f2 f3 f4:Nat),Hid (Mid2 l ws ps es qs w w3.heap.size w2.heap.size wr k W P E Q (.slice d1 W.length f1) (.slice d2 P.length f2) (.slice d3 E.length f3) (.slice d4 Q.length f4))) (fun _ _ i _=>l.length-(intOf i).toNat)
  case atStart=>exact⟨0,by omega,rfl,rfl,ws,ps,es,qs,_,_,_,_,_,_,_,_,I0⟩
  case round =>
   obtain⟨k,hk,rfl,rfl,W,P,E,Q,d1,d2,d3,d4,f1,f2,f3,f4,I⟩:=hrel;clear I0 R3;have hbr:=I.o.below;have hzr:=hbr.size;have hsz:=I.o.size
   by_cases hlt:k<l.length
   ·obtain⟨bL,oL,rfl,hblL,hcellL⟩:=hcL (by omega);obtain⟨g0,g1,g2⟩:=hcellL k hlt;have e0:=(hbr.cell (p:=⟨bL,oL+k*3,none⟩) hblL).trans g0;have e1:=(hbr.cell (p:=⟨bL,oL+k*3+1,none⟩) hblL).trans g1;have e2:=(hbr.cell (p:=⟨bL,oL+k*3+2,none⟩) hblL).trans g2;clear g0 g1 g2 hcellL hcL hbr
    obtain⟨wb,hwb⟩:∃ wb:World,wb=wr.alloc (.cells #[.I l[k].kind,.I l[k].at_,.I l[k].val] 84):=⟨_,rfl⟩
    have hzb:wb.heap.size=wr.heap.size+1:=by rw[hwb,World.size_alloc]
    have BB:Hid (zB wr wb):=by rw[hwb];exact zR.alloc zL _
    have XB:=zaa ((BB.o.block _ (by omega)).trans I.o.box);have XR:=zaa ((BB.o.block _ (by omega)).trans I.o.res);have XW:=zaa ((I.o.row.below BB.o zL).wide (Nat.le_refl w2.heap.size) (show wr.heap.size<=wb.heap.size by omega))
    have XO:=zaa (show pmB W P=true/\zdk E Q=true by
     have:=yaul (l.take k) ws ps es qs CP.o.1 CP.o.2 (fun m hm=>by
      obtain⟨j,hj,rfl⟩:=List.getElem_of_mem (List.mem_of_mem_take hm)
      exact CM.o j hj)
     rw[I.o.run]at this
     exact this)
    have XM:=zaa (show miB ⟨l[k].kind,l[k].at_,l[k].val⟩=true from CM.o k hlt);have hsh:(wr.alloc (.cells #[.I l[k].kind,.I l[k].at_,.I l[k].val] 84)).heap[w3.heap.size]?=some (.cells #[.slice d1 W.length f1,.slice d2 P.length f2,.slice d3 E.length f3,.slice d4 Q.length f4] 31 (0,0)):=hwb ▸ XB.o;obtain⟨q0,q1,q2,q3,-,-,-,-⟩:=zai hsh;clear hsh
    by_cases hf:zhb l[k] P Q=true
    ·have MD:Hid (mdC ⟨l[k].kind,l[k].at_,l[k].val⟩ W P E Q=7/\mdW ⟨l[k].kind,l[k].at_,l[k].val⟩ W P E Q=W/\mdP ⟨l[k].kind,l[k].at_,l[k].val⟩ W P E Q=P/\mdE ⟨l[k].kind,l[k].at_,l[k].val⟩ W P E Q=E/\mdQ ⟨l[k].kind,l[k].at_,l[k].val⟩ W P E Q=Q):=by
      rcases zmf ⟨l[k].kind,l[k].at_,l[k].val⟩ W P E Q with ⟨c,_⟩ | ⟨_,c,_⟩ | ⟨_,_,_,c⟩ | ⟨_,_,c,_⟩
      ·rw[XO.o.1,XO.o.2]at c;cases c
      ·rw[XM.o]at c;cases c
      ·exact c
      ·rw[show zhb ⟨l[k].kind,l[k].at_,l[k].val⟩ P Q=true from hf]at c;cases c
     have RUN:=zaa (yalc hlt I.o.run hf);clear hf;go_wp2_with (go_at_call 33;rw[<- hwb];refine(ztx _ l[k].kind l[k].at_ l[k].val W P E Q w3.heap.size w2.heap.size wb (by omega) (by omega) XW.o XO.o.1 XO.o.2 XM.o).mono ?_;rw[MD.o.1,MD.o.2.1,MD.o.2.2.1,MD.o.2.2.2.1,MD.o.2.2.2.2];rintro e w4 ⟨v4,rfl,hr4,hb4⟩;obtain⟨j1,i1,j2,i2,j3,i3,j4,i4,rfl,-,-⟩:=hr4.row.rd.form;have R4:=zaa hr4;have B4:=zaa hb4;obtain⟨u0,u1,u2,u3,u4,u5,u6,u7⟩:=zai ((hb4.block _ (by omega)).trans XB.o);obtain⟨s0,s1,s2,s3,s4,s5,s6,s7⟩:=zai ((hb4.block _ (by omega)).trans XR.o);clear hr4 hb4);refine bodyPost_ret (v:=.tuple #[.agg #[.slice j1 W.length i1,.slice j2 P.length i2,.slice j3 E.length i3,.slice j4 Q.length i4],.I 7]) (by simp[results,Tryz.results12,go_sem,s0,s1,s2,s3]) rfl ?_;rw[RUN.o];simp only;have hz4:wb.heap.size<=w4.heap.size:=B4.o.size;have O1:=zdr w4 w3.heap.size (.slice j1 W.length i1) (.slice j2 P.length i2) (.slice j3 E.length i3) (.slice j4 Q.length i4);have Z1:=zdv w4 w3.heap.size (.slice j1 W.length i1) (.slice j2 P.length i2) (.slice j3 E.length i3) (.slice j4 Q.length i4);have O2:=zdr (zza w4 w3.heap.size (.slice j1 W.length i1) (.slice j2 P.length i2) (.slice j3 E.length i3) (.slice j4 Q.length i4)) (w.heap.size+1) (.slice j1 W.length i1) (.slice j2 P.length i2) (.slice j3 E.length i3) (.slice j4 Q.length i4);have Z2:=zdv (zza w4 w3.heap.size (.slice j1 W.length i1) (.slice j2 P.length i2) (.slice j3 E.length i3) (.slice j4 Q.length i4)) (w.heap.size+1) (.slice j1 W.length i1) (.slice j2 P.length i2) (.slice j3 E.length i3) (.slice j4 Q.length i4);exact⟨_,rfl,((R4.o.put O1 zL).row.outside O2 (by omega) (by omega)).wide (by omega) (Nat.le_of_eq (Z2.trans Z1).symm),(((I.o.below.trans (BB.o.mono (by omega))).trans (B4.o.mono (by omega))).trans (O1.below (by omega) (by omega))).trans (O2.below (by omega) (by omega))⟩
    ·have hf':zhb l[k] P Q=false:=by simpa using hf
     have MD:Hid (mdC ⟨l[k].kind,l[k].at_,l[k].val⟩ W P E Q=0/\mdW ⟨l[k].kind,l[k].at_,l[k].val⟩ W P E Q=doW l[k] W P/\mdP ⟨l[k].kind,l[k].at_,l[k].val⟩ W P E Q=doP l[k] P/\mdE ⟨l[k].kind,l[k].at_,l[k].val⟩ W P E Q=doE l[k] E Q/\mdQ ⟨l[k].kind,l[k].at_,l[k].val⟩ W P E Q=doQ l[k] Q):=by
      rcases zmf ⟨l[k].kind,l[k].at_,l[k].val⟩ W P E Q with ⟨c,_⟩ | ⟨_,c,_⟩ | ⟨_,_,c,_⟩ | ⟨_,_,_,c⟩
      ·rw[XO.o.1,XO.o.2]at c;cases c
      ·rw[XM.o]at c;cases c
      ·rw[show zhb ⟨l[k].kind,l[k].at_,l[k].val⟩ P Q=false from hf']at c;cases c
      ·exact c
     have RUN:=zaa (yamm hlt I.o.run hf');clear hf hf';go_wp2_with (go_at_call 33;rw[<- hwb];refine(ztx _ l[k].kind l[k].at_ l[k].val W P E Q w3.heap.size w2.heap.size wb (by omega) (by omega) XW.o XO.o.1 XO.o.2 XM.o).mono ?_;rw[MD.o.1,MD.o.2.1,MD.o.2.2.1,MD.o.2.2.2.1,MD.o.2.2.2.2];rintro e w4 ⟨v4,rfl,hr4,hb4⟩;obtain⟨j1,i1,j2,i2,j3,i3,j4,i4,rfl,-,-⟩:=hr4.row.rd.form;have R4:=zaa hr4;have B4:=zaa hb4;obtain⟨u0,u1,u2,u3,u4,u5,u6,u7⟩:=zai ((hb4.block _ (by omega)).trans XB.o);clear hr4 hb4)
     go_roundw
     case rel =>
      have hz4:wb.heap.size<=w4.heap.size:=B4.o.size;have O1:=zdr w4 w3.heap.size (.slice j1 (doW l[k] W P).length i1) (.slice j2 (doP l[k] P).length i2) (.slice j3 (doE l[k] E Q).length i3) (.slice j4 (doQ l[k] Q).length i4);have Z1:=zdv w4 w3.heap.size (.slice j1 (doW l[k] W P).length i1) (.slice j2 (doP l[k] P).length i2) (.slice j3 (doE l[k] E Q).length i3) (.slice j4 (doQ l[k] Q).length i4);exact⟨k+1,by omega,by go_num,rfl,_,_,_,_,j1,j2,j3,j4,i1,i2,i3,i4,RUN.o,yaqg ((B4.o.block _ (by omega)).trans XB.o),(O1.block _ (by omega) (by omega)).trans ((B4.o.block _ (by omega)).trans XR.o),(R4.o.put O1 zL).wide zL (Nat.le_of_eq Z1.symm),((I.o.below.trans (BB.o.mono (by omega))).trans (B4.o.mono (by omega))).trans (O1.below (by omega) (by omega)),Nat.lt_of_lt_of_eq (show w3.heap.size<w4.heap.size by omega) Z1.symm,by omega⟩
     case measure=>simp[intOf];omega
   ·have RUN:=zaa (yaut (by omega) I.o.run);obtain⟨q0,q1,q2,q3,-,-,-,-⟩:=zai I.o.box;obtain⟨s0,s1,s2,s3,s4,s5,s6,s7⟩:=zai I.o.res;clear hcL hbr;go_wp2;refine bodyPost_ret (v:=.tuple #[.agg #[.slice d1 W.length f1,.slice d2 P.length f2,.slice d3 E.length f3,.slice d4 Q.length f4],.I 0]) (by simp[results,Tryz.results12,go_sem,s0,s1,s2,s3]) rfl ?_;rw[RUN.o];simp only;have O2:=zdr wr (w.heap.size+1) (.slice d1 W.length f1) (.slice d2 P.length f2) (.slice d3 E.length f3) (.slice d4 Q.length f4);have Z2:=zdv wr (w.heap.size+1) (.slice d1 W.length f1) (.slice d2 P.length f2) (.slice d3 E.length f3) (.slice d4 Q.length f4);exact⟨_,rfl,(I.o.row.row.outside O2 (by omega) zL).wide (by omega) (Nat.le_of_eq Z2.symm),I.o.below.trans (O2.below (by omega) (by omega))⟩
theorem zmg(va vb:Value)(l:List Mi)(w:World)(ha:RdM w va l)(hb:RdM w vb l)(hn:l.length<=2147483648) :
  zC 11 #[va,vb] w fun e w'=>e=.returned (.bool true)/\zB w w':=by
 obtain⟨ao,cap,rfl,hcap,hc⟩:=ha.shape;obtain⟨ao2,cap2,rfl,hcap2,hc2⟩:=hb.shape;clear ha hb;go_enter Tryz.func11,Tryz.ntmps11;go_wp2
 go_loopw [5] (fun i wr=>∃ k:Nat,k<=l.length/\i=.I k/\zB w wr) (fun i _=>l.length-(intOf i).toNat)
 case atStart=>exact⟨0,by omega,rfl,zR⟩
 case round =>
  obtain⟨k,hk,rfl,hbw⟩:=hrel
  by_cases hlt:k<l.length
  ·obtain⟨b,o,rfl,hbl,hcell⟩:=hc (by omega);obtain⟨b2,o2,rfl,hbl2,hcell2⟩:=hc2 (by omega);obtain⟨c0,c1,c2⟩:=hcell k hlt;obtain⟨d0,d1,d2⟩:=hcell2 k hlt;have e0:=(hbw.cell (p:=⟨b,o+k*3,none⟩) hbl).trans c0;have e1:=(hbw.cell (p:=⟨b,o+k*3+1,none⟩) hbl).trans c1;have e2:=(hbw.cell (p:=⟨b,o+k*3+2,none⟩) hbl).trans c2;have f0:=(hbw.cell (p:=⟨b2,o2+k*3,none⟩) hbl2).trans d0;have f1:=(hbw.cell (p:=⟨b2,o2+k*3+1,none⟩) hbl2).trans d1;have f2:=(hbw.cell (p:=⟨b2,o2+k*3+2,none⟩) hbl2).trans d2
   have hlt':(k:Int)<(l.length:Int):=by omega
   have hge:(0:Int)<=(k:Int):=by omega
   clear hcell hcell2 hc hc2 c0 c1 c2 d0 d1 d2;go_wp2
   go_quiet (fail)
   go_wp2
   go_roundw
   case rel=>exact⟨k+1,by omega,by go_num,Below.drewN'' hbw _⟩
   case measure=>simp[intOf];omega
  ·go_wp2;go_ret;exact⟨rfl,hbw⟩
theorem zqr{c w':World}{b:Nat}{o:Obj}{B:Nat}(h:c.heap[b]?=some o)(hb:Below B c w')(hB:b<B):w'.heap[b]?=some o:=(hb.block b hB).trans h
theorem yaoi{c:World}{b:Nat}{o:Obj}(h:c.heap[b]?=some o):b<c.heap.size:=(Array.getElem?_eq_some_iff.1 h).1
theorem yasu(f:FV)(w:World)(h:FsIdle w (.agg #[.slice f.a0 f.n0 f.c0,.slice f.a1 f.n1 f.c1,.slice f.a2 f.n2 f.c2,.slice f.a3 f.n3 f.c3,.slice f.a4 f.n4 f.c4,.slice f.a5 f.n5 f.c5,.I f.x,.I f.y,.slice f.a8 f.n8 f.c8,.bool f.z])):∃ ws es ns ds,Idle ws es ns ds/\RdDev w (.agg #[.slice f.a0 f.n0 f.c0,.slice f.a1 f.n1 f.c1,.slice f.a2 f.n2 f.c2,.slice f.a3 f.n3 f.c3]) ws [] es []:=by
 obtain⟨ws,es,ns,ds,hs,⟨aW,cW,aP,cP,aS,cS,aQ,cQ,aH,cH,aT,cT,aN,cN,ev,a,b,c,d⟩,hi,hh⟩:=h;simp only[Value.agg.injEq,Array.mk.injEq,List.cons.injEq,Value.slice.injEq,and_true]at ev;obtain⟨⟨e1,e2,e3⟩,⟨e4,e5,e6⟩,⟨e7,e8,e9⟩,⟨e10,e11,e12⟩,-⟩:=ev;rw[e1,e2,e3,e4,e5,e6,e7,e8,e9,e10,e11,e12];exact⟨ws,es,ns,ds,hi,a⟩
theorem yaal(f:FV)(w:World):(Instr.field 37 (.agg #[.slice f.a0 f.n0 f.c0,.slice f.a1 f.n1 f.c1,.slice f.a2 f.n2 f.c2,.slice f.a3 f.n3 f.c3,.slice f.a4 f.n4 f.c4,.slice f.a5 f.n5 f.c5,.I f.x,.I f.y,.slice f.a8 f.n8 f.c8,.bool f.z]) 0).run Tryz.prog w=.ok (.agg #[.slice f.a0 f.n0 f.c0,.slice f.a1 f.n1 f.c1,.slice f.a2 f.n2 f.c2,.slice f.a3 f.n3 f.c3]) w:=by kernel_rfl
theorem yacu(vA vB:Value)(cs ms:List Int)(w:World)(hA:RdB w vA cs)(hB:RdB w vB ms)(hS:SB w)(hT:TS w)(hE:ED w)(hF:FD w)(hN:NW w) :
  zC 3 #[vA,vB] w fun e w'=>e=.returned (.bool true)/\zB w w':=by
 obtain⟨aA,cA,rfl,_⟩:=hA.shape;obtain⟨aB,cB,rfl,_⟩:=hB.shape;have HA:=zaa hA;have HB:=zaa hB;have GT:=zaa (And.intro hT (And.intro hE (And.intro hF (And.intro hN hS))));clear hA hB hT hE hF hN hS
 by_cases c1:1048576<cs.length
 ·go_enter Tryz.func3,Tryz.ntmps3;go_wp2;go_ret;exact⟨rfl,zR⟩
 by_cases c2:1048576<ms.length
 ·go_enter Tryz.func3,Tryz.ntmps3;go_wp2;go_ret;exact⟨rfl,zR⟩
 go_enter Tryz.func3,Tryz.ntmps3;go_wp2_with fail;refine(yaqj _ cs w HA.o (by omega)).mono ?_;rintro e w1 ⟨f,rfl,hi,hb1⟩;obtain⟨ws,es,ns,ds,I,dv⟩:=yasu f w1 hi;have q1:=yaal f w1
 obtain⟨W1,hW1⟩:=zE (w1.alloc (.cells #[.slice f.a0 f.n0 f.c0,.slice f.a1 f.n1 f.c1,.slice f.a2 f.n2 f.c2,.slice f.a3 f.n3 f.c3] 31))
 have A1:Hid (zB w1 W1):=by rw[hW1];exact zR.alloc zL _
 have B2:=zaa (zab hb1 A1.o hb1.size)
 have M1:Hid (W1.heap[w1.heap.size]?=some (.cells #[.slice f.a0 f.n0 f.c0,.slice f.a1 f.n1 f.c1,.slice f.a2 f.n2 f.c2,.slice f.a3 f.n3 f.c3] 31 (0,0))):=by rw[hW1];exact zaf rfl
 have DW:=zaa (dv.below A1.o);have HI:=zaa I;have HZ:=zaa (show ms.length<=1048576 by omega);clear hi hb1 dv I;go_upto_region 4 with fail;rw[<- hW1];clear hW1 q1 c1 c2
 obtain⟨mb,hmb⟩:=zE w1.heap.size
 rw[<- hmb]at M1;rw[<- hmb];clear hmb A1
 have MD:Hid (∀ w',zB W1 w'->w'.heap[mb]?=some (.cells #[.slice f.a0 f.n0 f.c0,.slice f.a1 f.n1 f.c1,.slice f.a2 f.n2 f.c2,.slice f.a3 f.n3 f.c3] 31 (0,0))):=fun w' hb=>zqr M1.o hb (yaoi M1.o)
 have GW:Hid (TS W1/\ED W1/\FD W1/\NW W1/\SB W1):=⟨GT.o.1.below B2.o,GT.o.2.1.below B2.o,GT.o.2.2.1.below B2.o,GT.o.2.2.2.1.below B2.o,GT.o.2.2.2.2.below B2.o⟩
 clear M1 HA GT;go_wp2_with fail;refine(yaix _ ms W1 (HB.o.below B2.o) HZ.o).mono ?_;rintro e w3 ⟨s,rfl,hs,hb3⟩;have J2:=zaa hb3;have sz:=hs.size;clear hb3 hs;go_wp2_with fail;refine(yaql _ ms 0 8 w3 (HB.o.below (zab B2.o J2.o B2.o.size)) HZ.o (by omega) (by omega) (by omega) (by omega)).mono ?_;rintro e w4 ⟨rfl,hb4⟩;obtain⟨r0,r1⟩:0<=atV ms 0 8/\atV ms 0 8<8:=ybbl ms 0 8 (by omega);generalize atV ms 0 8=r at *;have J2b:=zaa (zab J2.o hb4 J2.o.size);clear hb4 J2;go_wp2_with fail;refine(yaiu _ ms w4 (HB.o.below (zab B2.o J2b.o B2.o.size)) HZ.o).mono ?_;rintro e w4b ⟨x,rfl,x0,x1,hb4⟩;have J3a:=zaa (zab J2b.o hb4 J2b.o.size);have wx:zat x=true:=decide_eq_true ⟨x0,x1⟩;clear hb4 HB HZ J2b x0 x1;have pe:=yacj HI.o (s:=s) (by omega)
 have pcd:(psR ws [] es [] s).2=(flI ns ds s).2:=by rw[pe];exact yatp
 have wcd:=yavy (page:=r) (x:=x) HI.o (s:=s) (by omega);have WL:=zaa (And.intro HI.o.wi.len (zcj HI.o.bk).1)
 have PB:Hid (∀ w',zB W1 w'->zC 8 #[.agg #[.slice f.a0 f.n0 f.c0,.slice f.a1 f.n1 f.c1,.slice f.a2 f.n2 f.c2,.slice f.a3 f.n3 f.c3],.string s] w' fun e w2=>∃ v',e=.returned (.tuple #[v',.I (flI ns ds s).2])/\RdI w2 v' (psR ws [] es [] s).1/\zB w' w2):=fun w' hb=>by
  have q:=zjf _ ws [] es [] s w' (DW.o.below hb) (by have:=WL.o;omega) (by simp) (by have:=WL.o;omega) (by simp) (GW.o.1.below hb) (GW.o.2.1.below hb) (GW.o.2.2.1.below hb) (GW.o.2.2.2.1.below hb);rw[pcd]at q;refine q.mono ?_;rintro e w2 ⟨v',rfl,r,hb2⟩;exact⟨v',rfl,r.rd,hb2⟩
 have PI0:Hid (∀ w',zB W1 w'->zC 9 #[.agg #[.slice f.a0 f.n0 f.c0,.slice f.a1 f.n1 f.c1,.slice f.a2 f.n2 f.c2,.slice f.a3 f.n3 f.c3],.string s,.I r,.I x] w' fun e w2=>zph w' w2 e (wrI ns ds s r x)):=fun w' hb=>by
  have q:=znl (.agg #[.slice f.a0 f.n0 f.c0,.slice f.a1 f.n1 f.c1,.slice f.a2 f.n2 f.c2,.slice f.a3 f.n3 f.c3]) ws [] es [] s r x w' (DW.o.below hb) (by have:=WL.o;omega) (by simp) (by have:=WL.o;omega) (by simp) (GW.o.1.below hb) (GW.o.2.1.below hb) (GW.o.2.2.1.below hb);rw[wcd]at q;exact q
 have PS0:Hid (∀ w',zB W1 w'->zC 10 #[.agg #[.slice f.a0 f.n0 f.c0,.slice f.a1 f.n1 f.c1,.slice f.a2 f.n2 f.c2,.slice f.a3 f.n3 f.c3],.string s,.I r,.I x] w' fun e w2=>zph w' w2 e (wrI ns ds s r x)):=fun w' hb=>by
  have q:=zns (.agg #[.slice f.a0 f.n0 f.c0,.slice f.a1 f.n1 f.c1,.slice f.a2 f.n2 f.c2,.slice f.a3 f.n3 f.c3]) ws [] es [] s r x w' (DW.o.below hb) (by have:=WL.o;omega) (by simp) (by have:=WL.o;omega) (by simp);rw[wcd]at q;exact q
 simp only[zph]at PI0 PS0
 by_cases bz:(wrI ns ds s r x).2=0
 case neg =>
  obtain⟨l0,hc⟩:=yart (ns:=ns) (ds:=ds) (s:=s) ⟨r0,r1⟩ wx bz;rw[l0]at PI0 PS0;have bz2:=zaa bz;generalize (wrI ns ds s r x).2=b at *;generalize (flI ns ds s).2=ac at *
  obtain⟨l,el⟩:∃ l:List Mi,l=[]:=⟨_,rfl⟩
  rw[<- el]at PI0 PS0
  have ul:l.length<=0:=by rw[el];simp
  have ue:=zaa el;have HC:=zaa hc;clear HI DW GW el l0 WL pcd wcd pe wx hc bz;obtain⟨y0,y1,y2,y3,-⟩:=zai (MD.o _ J3a.o);go_wp2_with fail;refine(PB.o _ J3a.o).mono ?_;rintro e w5 ⟨vb,rfl,hrb,hb5a⟩;have J5a:=zaa (zab J3a.o hb5a J3a.o.size);have MD5:=zaa (fun w' (hb:zB w5 w')=>MD.o w' (zab J5a.o hb J5a.o.size))
  have RB5:Hid (∀ w',zB w5 w'->RdI w' vb (psR ws [] es [] s).1):=fun w' hb=>Rd.below hrb hb
  have PI:=zaa (fun w' (hb:zB w5 w')=>PI0.o w' (zab J5a.o hb J5a.o.size));have PS:=zaa (fun w' (hb:zB w5 w')=>PS0.o w' (zab J5a.o hb J5a.o.size));obtain⟨aB0,cB0,hvb,-,-⟩:=hrb.shape;subst hvb;have J3:=zaa (Below.refl w5.heap.size w5);clear y0 y1 y2 y3 hrb hb5a J3a PB PI0 PS0;obtain⟨y0,y1,y2,y3,-⟩:=zai (MD5.o _ J3.o);go_wp2_with fail;refine(PI.o _ J3.o).mono ?_;rintro e u1 ⟨v1,rfl,hr1,hb1⟩;have J4:=zaa (zab J3.o hb1 J3.o.size);have L1:Hid (RdM u1 v1 l):=hr1.rd;obtain⟨aL,cL,hv1,-,-⟩:=L1.o.shape;subst hv1;clear hr1 hb1 y0 y1 y2 y3 PI;obtain⟨y0,y1,y2,y3,-⟩:=zai (MD5.o _ J4.o);go_wp2_with fail;refine(PS.o _ J4.o).mono ?_;rintro e u2 ⟨v2,rfl,hr2,hb2⟩;have J5:=zaa (zab J4.o hb2 J4.o.size);have L2:Hid (RdM u2 v2 l):=hr2.rd;obtain⟨aM,cM,hv2,-,-⟩:=L2.o.shape;subst hv2;have L1b:Hid (RdM u2 _ l):=Rd.below L1.o hb2;clear hr2 hb2 y0 y1 y2 y3 PS L1;go_wp2_with fail;refine(zmg _ _ l u2 L1b.o L2.o (by omega)).mono ?_;rintro e u4 ⟨rfl,hb4⟩;have J7:=zaa (zab J5.o hb4 J5.o.size);have L1d:Hid (RdM u4 _ l):=Rd.below L1b.o hb4;clear hb4 L1b L2 J4 J5 J3;have BF:=zaa (zab B2.o (zab J5a.o J7.o J5a.o.size) B2.o.size);have u0:=ue.o;subst u0;have bz:=bz2.o;clear MD5 MD RB5 L1d J7 J5a B2 ue bz2
  rcases HC.o with h7 | hab
  ·subst h7;clear HC;go_wp2;go_ret;exact⟨rfl,BF.o⟩
  ·subst hab;clear HC
   have d1:(ac == 0)=false:=by rw[beq_eq_false_iff_ne];exact bz
   by_cases h7:ac=7
   ·subst h7;go_wp2;go_ret;exact⟨rfl,BF.o⟩
   ·go_wp2;go_ret;exact⟨zag (by simp),BF.o⟩
 obtain⟨l,eU⟩:∃ l,wrI ns ds s r x=(l,0):=⟨(wrI ns ds s r x).1,Prod.ext rfl bz⟩
 obtain⟨l200,lp,ws',es',ns',em,I2,L,L',q1,q2,q3,l8,l8',rp1,rp2,HV⟩:=yasc HI.o (by omega) eU;have HVV:=zaa HV
 have fz:(flI ns ds s).2=0:=by
  rw[<- pcd,q1]
 rw[eU]at PI0 PS0;rw[fz,q1]at PB;simp only at PI0 PS0 PB;have WL2:=zaa (And.intro I2.wi.len (zcj I2.bk).1)
 have KM:Hid (∀ w' vL,zB W1 w'->RdM w' vL l->zC 12 #[.agg #[.slice f.a0 f.n0 f.c0,.slice f.a1 f.n1 f.c1,.slice f.a2 f.n2 f.c2,.slice f.a3 f.n3 f.c3],vL] w' fun e w2=>∃ v',e=.returned (.tuple #[v',.I 0])/\RdDev w2 v' ws' [] es' []/\zB w' w2):=fun w' vL hb hl=>by
  have q:=zpa (.agg #[.slice f.a0 f.n0 f.c0,.slice f.a1 f.n1 f.c1,.slice f.a2 f.n2 f.c2,.slice f.a3 f.n3 f.c3]) vL l ws [] es [] w' (GW.o.2.2.2.2.below hb) (DW.o.below hb) hl (by have:=WL.o;omega) (by simp) (by have:=WL.o;omega) (by simp) (by omega);rw[em]at q;refine q.mono ?_;rintro e w2 ⟨v',rfl,r,hb2⟩;exact⟨v',rfl,r.rd,hb2⟩
 have PC:Hid (∀ w' v,zB W1 w'->RdDev w' v ws' [] es' []->zC 8 #[v,.string s] w' fun e w2=>∃ v',e=.returned (.tuple #[v',.I 0])/\RdI w2 v' L'/\zB w' w2):=fun w' v hb hr=>by
  have q:=zjf v ws' [] es' [] s w' hr (by have:=WL2.o;omega) (by simp) (by have:=WL2.o;omega) (by simp) (GW.o.1.below hb) (GW.o.2.1.below hb) (GW.o.2.2.1.below hb) (GW.o.2.2.2.1.below hb);rw[q2]at q;refine q.mono ?_;rintro e w2 ⟨v',rfl,r,hb2⟩;exact⟨v',rfl,r.rd,hb2⟩
 have RP1:Hid (∀ w' v,zB W1 w'->RdDev w' v ws' [] es' []->zC 13 #[v,.string s,.I r] w' fun e w2=>e=.returned (.tuple #[.I x,.I 0])/\zB w' w2):=fun w' v hb hr=>by
  have q:=zii v ws' [] es' [] s r w' hr (by have:=WL2.o;omega) (by simp) (by have:=WL2.o;omega) (by simp) (GW.o.1.below hb) (GW.o.2.1.below hb) (GW.o.2.2.1.below hb) (GW.o.2.2.2.1.below hb);rw[rp1]at q;exact q
 have RP2:Hid (∀ w' v,zB W1 w'->RdDev w' v ws' [] es' []->zC 13 #[v,.string s,.I (L'.length:Int)] w' fun e w2=>e=.returned (.tuple #[.I 0,.I 4])/\zB w' w2):=fun w' v hb hr=>by
  have q:=zii v ws' [] es' [] s (L'.length:Int) w' hr (by have:=WL2.o;omega) (by simp) (by have:=WL2.o;omega) (by simp) (GW.o.1.below hb) (GW.o.2.1.below hb) (GW.o.2.2.1.below hb) (GW.o.2.2.2.1.below hb);rw[rp2]at q;exact q
 have ul:=l200
 have MX:Hid (max (L.length:Int) (r+1)=(L'.length:Int)):=by
  unfold Hid;rw[q3]
  split<;>omega
 have g0:IntKind.i64.wrap (r+1)=r+1:=by rw[IntKind.wrap_i64];omega
 clear HI DW GW em q1 q2 q3 bz eU pcd wcd pe HV WL WL2 rp1 rp2 I2 fz wx lp;obtain⟨y0,y1,y2,y3,-⟩:=zai (MD.o _ J3a.o);go_wp2_with fail;refine(PB.o _ J3a.o).mono ?_;rintro e w5 ⟨vb,rfl,hrb,hb5a⟩;have J5a:=zaa (zab J3a.o hb5a J3a.o.size);have MD5:=zaa (fun w' (hb:zB w5 w')=>MD.o w' (zab J5a.o hb J5a.o.size))
 have RB5:Hid (∀ w',zB w5 w'->RdI w' vb L):=fun w' hb=>Rd.below hrb hb
 have PI:=zaa (fun w' (hb:zB w5 w')=>PI0.o w' (zab J5a.o hb J5a.o.size));have PS:=zaa (fun w' (hb:zB w5 w')=>PS0.o w' (zab J5a.o hb J5a.o.size));obtain⟨aB0,cB0,hvb,-,-⟩:=hrb.shape;subst hvb;have J3:=zaa (Below.refl w5.heap.size w5);clear y0 y1 y2 y3 hrb hb5a J3a PB PI0 PS0;obtain⟨y0,y1,y2,y3,-⟩:=zai (MD5.o _ J3.o);go_wp2_with fail;refine(PI.o _ J3.o).mono ?_;rintro e u1 ⟨v1,rfl,hr1,hb1⟩;have J4:=zaa (zab J3.o hb1 J3.o.size);have L1:Hid (RdM u1 v1 l):=hr1.rd;obtain⟨aL,cL,hv1,-,-⟩:=L1.o.shape;subst hv1;clear hr1 hb1 y0 y1 y2 y3 PI;obtain⟨y0,y1,y2,y3,-⟩:=zai (MD5.o _ J4.o);go_wp2_with fail;refine(PS.o _ J4.o).mono ?_;rintro e u2 ⟨v2,rfl,hr2,hb2⟩;have J5:=zaa (zab J4.o hb2 J4.o.size);have L2:Hid (RdM u2 v2 l):=hr2.rd;obtain⟨aM,cM,hv2,-,-⟩:=L2.o.shape;subst hv2;have L1b:Hid (RdM u2 _ l):=Rd.below L1.o hb2;clear hr2 hb2 y0 y1 y2 y3 PS L1;go_wp2_with fail;refine(zmg _ _ l u2 L1b.o L2.o (by omega)).mono ?_;rintro e u4 ⟨rfl,hb4⟩;have J7:=zaa (zab J5.o hb4 J5.o.size);have L1d:Hid (RdM u4 _ l):=Rd.below L1b.o hb4;clear hb4 L1b L2 J4 J5 J3;obtain⟨y0,y1,y2,y3,-⟩:=zai (MD5.o _ J7.o);go_wp2_with fail;refine(KM.o _ _ (zab J5a.o J7.o J5a.o.size) L1d.o).mono ?_;rintro e u5 ⟨v5,rfl,hr5,hb5⟩;have J8:=zaa (zab J7.o hb5 J7.o.size);obtain⟨g1,g2,g3,g4,g5,g6,g7,g8,ev5,-,-⟩:=id hr5.form;subst ev5;have P5:=zaa hr5
 obtain⟨W5,hW5⟩:=zE (u5.alloc (.cells #[.slice g1 ws'.length g2,.slice g3 ([]:List St).length g4,.slice g5 es'.length g6,.slice g7 ([]:List Se).length g8] 31))
 have A5:Hid (zB u5 W5):=by rw[hW5];exact zR.alloc zL _
 have S5:Hid (W5.heap[u5.heap.size]?=some (.cells #[.slice g1 ws'.length g2,.slice g3 ([]:List St).length g4,.slice g5 es'.length g6,.slice g7 ([]:List Se).length g8] 31 (0,0))):=by rw[hW5];exact zaf rfl
 have J9:=zaa (zab J8.o A5.o J8.o.size);have P5w:=zaa (P5.o.below A5.o)
 obtain⟨xb,hxb⟩:=zE u5.heap.size
 rw[<- hxb]at S5;simp only[List.length_nil]at hW5 S5 P5w;clear hb5 hr5 y0 y1 y2 y3 J7 J8 P5 A5 KM L1d;go_upto_region 15 with fail;rw[<- hW5,<- hxb];clear hW5 hxb;obtain⟨z0,z1,z2,z3,-⟩:=zai S5.o;go_wp2_with fail;refine(PC.o _ _ (zab J5a.o J9.o J5a.o.size) P5w.o).mono ?_;rintro e u6 ⟨v6,rfl,hr6,hb6⟩;have J10:=zaa (zab J9.o hb6 J9.o.size);have S6:=zaa (zqr S5.o hb6 (yaoi S5.o));have P6:=zaa (P5w.o.below hb6);have RA6:=zaa hr6;obtain⟨aC,cC,eC,-,-⟩:=RA6.o.shape;subst eC;clear hr6 hb6 z0 z1 z2 z3 PC J9 S5 P5w;obtain⟨z0,z1,z2,z3,-⟩:=zai S6.o;go_wp2_with fail;refine(RP1.o _ _ (zab J5a.o J10.o J5a.o.size) P6.o).mono ?_;rintro e u7 ⟨rfl,hb7⟩;have J11:=zaa (zab J10.o hb7 J10.o.size);have S7:=zaa (zqr S6.o hb7 (yaoi S6.o));have P7:=zaa (P6.o.below hb7);have RA:Hid (RdI u7 _ L'):=Rd.below RA6.o hb7;have RB:=zaa (RB5.o _ J11.o);obtain⟨aB,cB,eB,-,hcB⟩:=RB.o.shape;obtain⟨aC',cC',eC',-,hcC⟩:=RA.o.shape
 cases eB
 cases eC'
 have BW:=zaa (zab J5a.o J11.o J5a.o.size);clear hb7 z0 z1 z2 z3 RP1 J10 S6 P6 RA6 RA RB RB5 MD5 J11 MD J5a;have HB2:=zaa hcB;have HC2:=zaa hcC;have mx:=MX.o;have RQ:=zaa (RP2.o _ _ BW.o P7.o);clear hcB hcC RP2 P7 MX
 have xe:(x != x)=false:=by simp
 have le:((L'.length:Int) != (L'.length:Int))=false:=by simp
 go_wp2
 go_loop [21,22] (fun i _=>∃ k:Nat,k<=L'.length/\i=.I k) (fun i _=>L'.length-(intOf i).toNat)
 case atStart=>exact⟨0,by omega,rfl⟩
 case round =>
  obtain⟨k,hk,rfl⟩:=hrel
  by_cases hlt:k<L'.length
  ·obtain⟨b2,o2,rfl,hbl2,hcell2⟩:=HC2.o (by omega);have hc:=hcell2 k hlt;rw[HVV.o k hlt]at hc
   have hlt':(k:Int)<(L'.length:Int):=by omega
   clear hcell2 mx g0 RQ
   by_cases kp:(k:Int)=r
   ·rw[if_pos kp]at hc;subst kp
    have kk:((k:Int) == (k:Int))=true:=by simp
    by_cases kl:k<L.length
    ·obtain⟨b1,o1,rfl,hbl1,hcell1⟩:=HB2.o (by omega);have hd:=hcell1 k kl
     have kl':(k:Int)<(L.length:Int):=by omega
     clear hcell1;generalize L[k]=y at *;go_wp2
     go_round
     case rel=>exact⟨k+1,by omega,by go_num⟩
     case measure=>simp[intOf];omega
    ·have kl':¬ (k:Int)<(L.length:Int):=by omega
     go_wp2
     go_round
     case rel=>exact⟨k+1,by omega,by go_num⟩
     case measure=>simp[intOf];omega
   ·rw[if_neg kp]at hc
    by_cases kl:k<L.length
    ·obtain⟨b1,o1,rfl,hbl1,hcell1⟩:=HB2.o (by omega);have hd:=hcell1 k kl;rw[dif_pos kl]at hc
     have kl':(k:Int)<(L.length:Int):=by omega
     clear hcell1;generalize L[k]=y at *;go_wp2
     go_round
     case rel=>exact⟨k+1,by omega,by go_num⟩
     case measure=>simp[intOf];omega
    ·rw[dif_neg kl]at hc
     have kl':¬ (k:Int)<(L.length:Int):=by omega
     go_wp2
     go_round
     case rel=>exact⟨k+1,by omega,by go_num⟩
     case measure=>simp[intOf];omega
  ·have hlt':¬ (k:Int)<(L'.length:Int):=by omega
   obtain⟨z0,z1,z2,z3,-⟩:=zai S7.o;go_wp2_with fail;refine RQ.o.mono ?_;rintro e u8 ⟨rfl,hb8⟩;have BF:=zaa (zab B2.o (zab BW.o hb8 BW.o.size) B2.o.size);clear hb8 z0 z1 z2 z3;go_wp2;go_ret;exact⟨rfl,BF.o⟩
end Go.Proofs.YtdiaiejmoocpmaaGreatDoor
