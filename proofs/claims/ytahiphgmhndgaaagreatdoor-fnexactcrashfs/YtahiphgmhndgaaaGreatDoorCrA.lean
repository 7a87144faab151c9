/- A crash and a recovery: by the model. -/
import Derived.Test.YtahiphgmhndgaaaGreatDoorZBA
import Derived.Test.YtahiphgmhndgaaaGreatDoorZAH
import Derived.Test.YtahiphgmhndgaaaGreatDoorZBC
import Derived.Test.YtahiphgmhndgaaaGreatDoorZAV
import Derived.Test.YtahiphgmhndgaaaGreatDoorZBD
import Derived.Test.YtahiphgmhndgaaaGreatDoorZAZ
import Derived.Test.YtahiphgmhndgaaaGreatDoorZAD
set_option maxRecDepth 100000
set_option maxHeartbeats 16000000
namespace Go.Proofs.YtahiphgmhndgaaaGreatDoor
open Go.RowKit
def cwW (ws:List Int) (ps:List St) (zs:List Int):List Int:=spW (zbg ps 336) zs ps ws (zbg ps 336).length
def cwE (es:List Int) (qs:List Se) (zs:List Int):List Int:=spE (zar qs 32) zs qs es (zar qs 32).length
theorem yaic (ws:List Int) (ps:List St) (zs:List Int):(cwW ws ps zs).length=ws.length:=zhp _ _ _ _ _
theorem yaln (es:List Int) (qs:List Se) (zs:List Int):(cwE es qs zs).length=es.length:=zhm _ _ _ _ _
structure Dz where
 W:List Int
 P:List St
 E:List Int
 Q:List Se
def d0:Dz:=⟨[],[],[],[]⟩
def yast (w w':World) (e:Ending) (R:Dz×Int):Prop:=∃ v',e=.returned (.tuple #[v',.int .i64 R.2])∧RowDev w' w.heap.size w'.heap.size v' R.1.W R.1.P R.1.E R.1.Q∧Below w.heap.size w w'
def crfR (ws:List Int) (ps:List St) (es:List Int) (qs:List Se) (hs:List Int) (td:List Mi) (cd vl:Int) (nm:List ByteArray) (fr:Bool) (zs:List Int):Dz×Int:=if 4096 < zs.length then (d0,2) else if fsB ws ps es qs hs td cd vl nm fr=true then (if zaw zs=true then (⟨cwW ws ps zs,[],cwE es qs zs,[]⟩,0) else (d0,4)) else (d0,1)
def akC (ws:List Int) (ps:List St) (es:List Int) (qs:List Se):Int:=if (pmB ws ps && zbp es qs)=true then (if 0 < ps.length∨0 < qs.length then 15 else 0) else 1
def zgr (ws:List Int) (ps:List St) (es:List Int) (qs:List Se):MR:=mr (rpL ws ps) ws ps es qs
def rcvC (ws:List Int) (ps:List St) (es:List Int) (qs:List Se):Int:=if rpC ws ps=0 then riC (zgr ws ps es qs).W (zgr ws ps es qs).P else rpC ws ps
def zno (ws:List Int) (ps:List St) (es:List Int) (qs:List Se):Fz×Int:=if rcvC ws ps es qs=0 then (⟨(zgr ws ps es qs).W,(zgr ws ps es qs).P,(zgr ws ps es qs).E,(zgr ws ps es qs).Q,zgn 128,[],0,0,[],false⟩,0) else (zz,rcvC ws ps es qs)
def zzr (ws:List Int) (ps:List St) (es:List Int) (qs:List Se):List Mi×Int:=if akC ws ps es qs=0 then (rpL ws ps,rpC ws ps) else ([],akC ws ps es qs)
def recR (ws:List Int) (ps:List St) (es:List Int) (qs:List Se):Fz×Int:=if akC ws ps es qs=0 then zno ws ps es qs else (zz,akC ws ps es qs)
theorem yabt {ws:List Int} {ps:List St} {es:List Int} {qs:List Se} (h:akC ws ps es qs=0):pmB ws ps=true∧zbp es qs=true∧ps=[]∧qs=[]:=by
 unfold akC at h
 split at h
 ·rename_i c;rw[Bool.and_eq_true] at c
  split at h
  ·cases h
  ·exact ⟨c.1,c.2,List.length_eq_zero_iff.1 (by omega),List.length_eq_zero_iff.1 (by omega)⟩
 ·cases h
theorem zky (ws:List Int) (ps:List St):(rpL ws ps).length≤36:=by
 rcases zgv ws ps with ⟨_,_,e⟩ | ⟨_,N,_,⟨_,_,e⟩ | ⟨_,_,e⟩ | ⟨_,_,_,_,e⟩ | ⟨_,_,_,_,e⟩⟩
 ·rw[e];simp
 ·rw[e];simp
 ·rw[e];simp
 ·rw[e];simp
 ·rw[e];have:=yafe (rdL ws ps N);rw[zls] at this;omega
theorem yaux (ws:List Int) (ps:List St):∀ m∈rpL ws ps,StOK m:=by
 rcases zgv ws ps with ⟨_,_,e⟩ | ⟨_,N,_,⟨_,_,e⟩ | ⟨_,_,e⟩ | ⟨_,_,_,_,e⟩ | ⟨_,_,u,_,e⟩⟩
 ·rw[e];intro m hm;cases hm
 ·rw[e];intro m hm;cases hm
 ·rw[e];intro m hm;cases hm
 ·rw[e];intro m hm;cases hm
 ·rw[e];intro m hm;have q:=of_decide_eq_true u;unfold zhd at hm
  rcases List.mem_append.1 hm with hm | hm
  ·refine yare (fun p hp=>?_) m hm;obtain ⟨s,hs,rfl⟩:=List.mem_map.1 (show p∈(rdL ws ps N).map (fun s=>up s.at_ s.val) from hp);obtain ⟨i,hi,rfl⟩:=List.getElem_of_mem hs;have:=q i hi;exact ⟨⟨by simp only[up];omega,by simp only[up];omega⟩,by simp only[up];omega,by simp only[up];omega⟩
  ·exact yare (yauj 0 (by omega)) m hm
theorem ztp (ws:List Int) (ps:List St):∀ m∈rpL ws ps,miB m=true:=fun m hm=>(yaux ws ps m hm).1
theorem yaac (ws:List Int) (ps:List St):∀ m∈rpL ws ps,m.kind=1∨m.kind=2∨m.kind=3:=fun m hm=>(yaux ws ps m hm).2
theorem yakl {ws:List Int} {ps:List St} {es:List Int} {qs:List Se} (hp:ps=[]) (hq:qs=[]):mr (rpL ws ps) ws ps es qs=⟨0,(zgr ws ps es qs).W,(zgr ws ps es qs).P,(zgr ws ps es qs).E,(zgr ws ps es qs).Q⟩∧(zgr ws ps es qs).Q=[]:=by
 have l:=zky ws ps;subst hp hq;have k:=yadg (rpL ws []) ws [] es [] (fun m hm=>yaac ws [] m hm) (by simp only[List.length_nil];omega);unfold zgr;rw[k];exact ⟨rfl,rfl⟩
theorem zxr (aW aP aS aQ:Option Addr) (cW cP cS cQ:Nat) (vZ:Value) (ws:List Int) (ps:List St) (es:List Int) (qs:List Se) (Wn:List Int) (Pn:List St) (En:List Int) (Qn:List Se) (w:World)
  (l1:∀ w1,Below w.heap.size w w1→Calls Tryz.prog 66 #[.agg #[.slice aW ws.length cW,.slice aP ps.length cP],vZ] w1 fun e w'=>∃ v',e=.returned v'∧RowPm w' w1.heap.size w'.heap.size v' Wn Pn∧Below w1.heap.size w1 w')
  (l2:∀ w1,Below w.heap.size w w1→Calls Tryz.prog 67 #[.agg #[.slice aS es.length cS,.slice aQ qs.length cQ],vZ] w1 fun e w'=>∃ v',e=.returned v'∧RowBlk w' w1.heap.size w'.heap.size v' En Qn∧Below w1.heap.size w1 w') :
  Calls Tryz.prog 27 #[.agg #[.slice aW ws.length cW,.slice aP ps.length cP,.slice aS es.length cS,.slice aQ qs.length cQ],vZ] w fun e w'=>∃ v',e=.returned v'∧RowDev w' w.heap.size w'.heap.size v' Wn Pn En Qn∧Below w.heap.size w w':=by
 have L1:=zaa l1;have L2:=zaa l2;clear l1 l2
 have hb0:Below w.heap.size w ((w.alloc (.cells #[.slice aW ws.length cW,.slice aP ps.length cP,.slice aS es.length cS,.slice aQ qs.length cQ] 45)).alloc (.cells #[.slice none 0 0,.slice none 0 0,.slice none 0 0,.slice none 0 0] 45)):=by
  repeat (refine Below.alloc ?_ (by simp <;> omega) _)
  exact Below.refl _ _
 go_enter Tryz.func27,Tryz.ntmps27;go_upto_region 1 with fail
 obtain ⟨w0,hw0⟩:∃ w0:World,w0=(w.alloc (.cells #[.slice aW ws.length cW,.slice aP ps.length cP,.slice aS es.length cS,.slice aQ qs.length cQ] 45)).alloc (.cells #[.slice none 0 0,.slice none 0 0,.slice none 0 0,.slice none 0 0] 45):=⟨_,rfl⟩
 rw[← hw0];rw[← hw0] at hb0
 have hz0:w.heap.size+2≤w0.heap.size:=by rw[hw0];simp
 have V0:Hid (w0.heap[w.heap.size]?=some (.cells #[.slice aW ws.length cW,.slice aP ps.length cP,.slice aS es.length cS,.slice aQ qs.length cQ] 45 (0,0))):=by rw[hw0];exact zal (zag rfl)
 have V1:Hid (w0.heap[w.heap.size+1]?=some (.cells #[.slice none 0 0,.slice none 0 0,.slice none 0 0,.slice none 0 0] 45 (0,0))):=by rw[hw0];exact zag (by simp)
 clear hw0;have B0:=zaa hb0;clear hb0;obtain ⟨x0,x1,x2,x3,-,-,-,-⟩:=zaf V0.o;obtain ⟨y0,y1,y2,y3,y4,y5,y6,y7⟩:=zaf V1.o
 go_region_with (first
  | (go_at_call 66;refine (L1.o _ (by first | exact B0.o | exact B0.o.drew)).mono ?_;rintro e w1 ⟨v1,rfl,hr1,hb1⟩;obtain ⟨aW1,cW1,aP1,cP1,rfl⟩:=hr1.form;have hz1:w0.heap.size≤w1.heap.size:=hb1.size;have B1:Hid (Below w0.heap.size w0 w1):=(by first | exact hb1 | exact zab ((Below.refl _ _).drew) hb1 (Nat.le_refl _));have Q1:Hid (RowPm w1 w0.heap.size w1.heap.size (.agg #[.slice aW1 Wn.length cW1,.slice aP1 Pn.length cP1]) Wn Pn):=hr1;obtain ⟨z0,z1,z2,z3,-,-,-,-⟩:=zaf ((B1.o.block w.heap.size (by omega)).trans V0.o);clear hr1 hb1)
  | (go_at_call 67;refine (L2.o _ (by first | exact zab B0.o B1.o (by omega) | exact (zab B0.o B1.o (by omega)).drew)).mono ?_;rintro e w2 ⟨v2,rfl,hr2,hb2⟩;obtain ⟨aS2,cS2,aQ2,cQ2,rfl⟩:=hr2.form;have hz2:w1.heap.size≤w2.heap.size:=hb2.size;have B2:Hid (Below w1.heap.size w1 w2):=(by first | exact hb2 | exact zab ((Below.refl _ _).drew) hb2 (Nat.le_refl _));have Q2:Hid (RowBlk w2 w1.heap.size w2.heap.size (.agg #[.slice aS2 En.length cS2,.slice aQ2 Qn.length cQ2]) En Qn):=hr2;have VR:=zaa ((B2.o.block (w.heap.size+1) (by omega)).trans ((B1.o.block (w.heap.size+1) (by omega)).trans V1.o));obtain ⟨t0,t1,t2,t3,t4,t5,t6,t7⟩:=zaf VR.o;clear hr2 hb2))
 all_goals
  go_wp2;refine bodyPost_ret (v:=.agg #[.slice aW1 Wn.length cW1,.slice aP1 Pn.length cP1,.slice aS2 En.length cS2,.slice aQ2 Qn.length cQ2]) (by simp[results,Tryz.results27,go_sem,t0,t1,t2,t3]) rfl ?_;have O:=zbb w2 (w.heap.size+1) (.slice aW1 Wn.length cW1) (.slice aP1 Pn.length cP1) (.slice aS2 En.length cS2) (.slice aQ2 Qn.length cQ2);have Z:=zax w2 (w.heap.size+1) (.slice aW1 Wn.length cW1) (.slice aP1 Pn.length cP1) (.slice aS2 En.length cS2) (.slice aQ2 Qn.length cQ2);refine ⟨_,rfl,⟨_,_,_,_,w0.heap.size,w1.heap.size,w1.heap.size,w2.heap.size,rfl,?_,?_,by omega,Nat.le_trans hz2 (Nat.le_of_eq Z.symm),by omega,Nat.le_of_eq Z.symm,.inl (Nat.le_refl _)⟩,?_⟩
  ·exact (Q1.o.below B2.o (Nat.le_refl _)).outside O (by omega) (by omega)
  ·exact Q2.o.outside O (by omega) (Nat.le_refl _)
  ·exact (zab (zab B0.o B1.o (by omega)) B2.o (by omega)).trans (O.below (by omega) (by omega))
theorem zhl (v vZ:Value) (ws:List Int) (ps:List St) (es:List Int) (qs:List Se) (zs:List Int) (w:World) (h:RdDev w v ws ps es qs) (hz:RdI w vZ zs) (hws:ws.length≤1048576) (hps:ps.length≤1048576) (hes:es.length≤1048576) (hqs:qs.length≤1048576) (hzl:zs.length≤1048576) (hp:pmB ws ps=true) (hb:zbp es qs=true) (hk:zaw zs=true) :
  Calls Tryz.prog 27 #[v,vZ] w fun e w'=>∃ v',e=.returned v'∧RowDev w' w.heap.size w'.heap.size v' (cwW ws ps zs) [] (cwE es qs zs) []∧Below w.heap.size w w':=by
 obtain ⟨aW,cW,aP,cP,aS,cS,aQ,cQ,rfl,r1,r2⟩:=h.form;exact zxr aW aP aS aQ cW cP cS cQ vZ ws ps es qs _ _ _ _ w (fun w1 h1=>zwq _ vZ ws ps zs w1 (r1.below h1) (Rd.below hz h1) hws hps hzl hp hk) (fun w1 h1=>zzf _ vZ es qs zs w1 (r2.below h1) (Rd.below hz h1) hes hqs hzl hb hk)
theorem yaks (v:Value) (ws:List Int) (ps:List St) (es:List Int) (qs:List Se) (hs:List Int) (td:List Mi) (cd vl:Int) (nm:List ByteArray) (fr:Bool) (vZ:Value) (zs:List Int) (w:World) (h:RdF w v ws ps es qs hs td cd vl nm fr) (hz:RdI w vZ zs) (hws:ws.length≤1048576) (hps:ps.length≤1048576) (hes:es.length≤1048576) (hqs:qs.length≤1048576) (hhs:hs.length≤1048576) (htd:td.length≤1048576) (hnm:nm.length≤1048576) (hzl:zs.length≤1048576) :
  Calls Tryz.prog 6 #[v,vZ] w fun e w'=>yast w w' e (crfR ws ps es qs hs td cd vl nm fr zs):=by
 have LF:=zaa (fun w1 (hb:Below w.heap.size w w1)=>zmv v ws ps es qs hs td cd vl nm fr w1 (h.below hb) hws hps hes hqs hhs htd hnm);have KP:=zaa (fun w1 (hb:Below w.heap.size w w1)=>zhw vZ zs w1 (Rd.below hz hb) hzl);have CR:=zaa (fun w1 (hb:Below w.heap.size w w1) vd (hd:RdDev w1 vd ws ps es qs) hp hbk hk=>zhl vd vZ ws ps es qs zs w1 hd (Rd.below hz hb) hws hps hes hqs hzl hp hbk hk);have HZ:=zaa hz;obtain ⟨aZ,cZ,rfl,-⟩:=hz.shape;obtain ⟨aW,cW,aP,cP,aS,cS,aQ,cQ,aH,cH,aT,cT,aN,cN,rfl,d1,-⟩:=id h;have HD:=zaa (fun w1 (hb:Below w.heap.size w w1)=>d1.below hb);clear h d1 hz
 by_cases c1:4096 < zs.length
 ·have c1':(4096:Int) < (zs.length:Int):=by omega
  have eR:Hid (crfR ws ps es qs hs td cd vl nm fr zs=(d0,2)):=if_pos c1;clear LF KP CR HD HZ c1
  obtain ⟨V,hV⟩:∃ V,V=((w.alloc (.cells #[.slice aW ws.length cW,.slice aP ps.length cP,.slice aS es.length cS,.slice aQ qs.length cQ,.slice aH hs.length cH,.slice aT td.length cT,.int .i64 cd,.int .i64 vl,.slice aN nm.length cN,.bool fr] 51)).alloc (.cells #[.slice none 0 0,.slice none 0 0,.slice none 0 0,.slice none 0 0] 45)):=⟨_,rfl⟩
  have zV:w.heap.size+2≤V.heap.size:=by rw[hV];simp <;> omega
  have B_V:Hid (Below w.heap.size w V):=by rw[hV];exact (((Below.refl _ _).alloc (by simp <;> omega) _).alloc (by simp <;> omega) _)
  have X0_V:Hid (V.heap[w.heap.size]?=some (.cells #[.slice aW ws.length cW,.slice aP ps.length cP,.slice aS es.length cS,.slice aQ qs.length cQ,.slice aH hs.length cH,.slice aT td.length cT,.int .i64 cd,.int .i64 vl,.slice aN nm.length cN,.bool fr] 51 (0,0))):=by rw[hV];exact (zal (zag rfl))
  have X1_V:Hid (V.heap[w.heap.size+1]?=some (.cells #[.slice none 0 0,.slice none 0 0,.slice none 0 0,.slice none 0 0] 45 (0,0))):=by rw[hV];exact (zag (by simp))
  go_enter Tryz.func6,Tryz.ntmps6;go_upto_region 1 with fail;rw[← hV];clear hV;obtain ⟨e0,e1,e2,e3,f0,f1,f2,f3⟩:=zaf X1_V.o
  obtain ⟨w1,hw1⟩:∃ w1,w1=zix V (w.heap.size+1) (.slice none 0 0) (.slice none 0 0) (.slice none 0 0) (.slice none 0 0):=⟨_,rfl⟩
  have Ow1:Outside (w.heap.size+1) (w.heap.size+1+1) V w1:=by rw[hw1];exact zbb _ _ _ _ _ _
  have zw1:V.heap.size≤w1.heap.size∧w1.heap.size≤V.heap.size:=by rw[hw1,zax];exact ⟨Nat.le_refl _,Nat.le_refl _⟩
  have B_w1:=zaa (B_V.o.trans (Ow1.below (B:=w.heap.size) (by omega) B_V.o.size));unfold zix at hw1;clear Ow1;go_wp2;refine bodyPost_ret (v:=.tuple #[.agg #[.slice none 0 0,.slice none 0 0,.slice none 0 0,.slice none 0 0],.int .i64 2]) (by simp[results,Tryz.results6,go_sem,e0,e1,e2,e3]) rfl ?_;rw[← hw1];rw[eR.o];exact ⟨_,rfl,RowDev.zero _ _ _ (by omega),B_w1.o⟩
 have c1':¬ (4096:Int) < (zs.length:Int):=by omega
 by_cases y:fsB ws ps es qs hs td cd vl nm fr=true
 ·simp only[y] at LF;have Y:=yadu y;have CQ:=zaa (fun w1 hb vd hd hk=>CR.o w1 hb vd hd Y.pm Y.bl hk);clear CR Y
  by_cases k:zaw zs=true
  ·rw[k] at KP
   have eR:Hid (crfR ws ps es qs hs td cd vl nm fr zs=(⟨cwW ws ps zs,[],cwE es qs zs,[]⟩,0)):=by unfold Hid crfR;rw[if_neg c1,if_pos y,if_pos k]
   have CS:=zaa (fun w1 hb=>CQ.o w1 hb _ (HD.o w1 hb) k)
   have l1:(cwW ws ps zs).length≤1048576:=by rw[yaic];exact hws
   have l2:(cwE es qs zs).length≤1048576:=by rw[yaln];exact hes
   generalize cwW ws ps zs=W1 at *;generalize cwE es qs zs=E1 at *
   obtain ⟨P1,hP1⟩:∃ P1:List St,P1=[]:=⟨_,rfl⟩
   obtain ⟨Q1,hQ1⟩:∃ Q1:List Se,Q1=[]:=⟨_,rfl⟩
   rw[← hP1,← hQ1] at CS eR
   have l3:P1.length≤1048576:=by rw[hP1];simp
   have l4:Q1.length≤1048576:=by rw[hQ1];simp
   have OW:=zaa (fun v1 w1 (hr:RdDev w1 v1 W1 P1 E1 Q1)=>zth v1 W1 P1 E1 Q1 w1 hr l1 l3 l2 l4);clear CQ HD y k c1 hP1 hQ1 HZ l1 l2 l3 l4
   obtain ⟨V,hV⟩:∃ V,V=((w.alloc (.cells #[.slice aW ws.length cW,.slice aP ps.length cP,.slice aS es.length cS,.slice aQ qs.length cQ,.slice aH hs.length cH,.slice aT td.length cT,.int .i64 cd,.int .i64 vl,.slice aN nm.length cN,.bool fr] 51)).alloc (.cells #[.slice none 0 0,.slice none 0 0,.slice none 0 0,.slice none 0 0] 45)):=⟨_,rfl⟩
   have zV:w.heap.size+2≤V.heap.size:=by rw[hV];simp <;> omega
   have B_V:Hid (Below w.heap.size w V):=by rw[hV];exact (((Below.refl _ _).alloc (by simp <;> omega) _).alloc (by simp <;> omega) _)
   have X0_V:Hid (V.heap[w.heap.size]?=some (.cells #[.slice aW ws.length cW,.slice aP ps.length cP,.slice aS es.length cS,.slice aQ qs.length cQ,.slice aH hs.length cH,.slice aT td.length cT,.int .i64 cd,.int .i64 vl,.slice aN nm.length cN,.bool fr] 51 (0,0))):=by rw[hV];exact (zal (zag rfl))
   have X1_V:Hid (V.heap[w.heap.size+1]?=some (.cells #[.slice none 0 0,.slice none 0 0,.slice none 0 0,.slice none 0 0] 45 (0,0))):=by rw[hV];exact (zag (by simp))
   go_enter Tryz.func6,Tryz.ntmps6;go_upto_region 1 with fail;rw[← hV];clear hV;obtain ⟨c0_0,c0_1,c0_2,c0_3,c0_4,c0_5,c0_6,c0_7,c0_8,c0_9,-⟩:=zam X0_V.o;go_wp2_with fail;refine (LF.o V B_V.o).mono ?_;rintro e w1 ⟨rfl,hb⟩;clear c0_0 c0_1 c0_2 c0_3 c0_4 c0_5 c0_6 c0_7 c0_8 c0_9;have zw1:V.heap.size≤w1.heap.size:=hb.size;have B_w1:=zaa (zab B_V.o hb B_V.o.size);have X0_w1:=zaa (zac X0_V.o hb (zah X0_V.o));have X1_w1:=zaa (zac X1_V.o hb (zah X1_V.o));clear B_V hb X0_V X1_V;clear LF;go_wp2_with fail;refine (KP.o w1 B_w1.o).mono ?_;rintro e w' ⟨rfl,hw'⟩;subst w';clear KP;obtain ⟨c0_0,c0_1,c0_2,c0_3,-,-,-,-,-,-,-⟩:=zam X0_w1.o;go_wp2_with fail;refine (CS.o w1 B_w1.o).mono ?_;rintro e w2 ⟨v',rfl,hr,hb⟩;obtain ⟨iW,jW,iP,jP,iS,jS,iQ,jQ,ei,-,-⟩:=hr.rd.form;subst ei;clear c0_0 c0_1 c0_2 c0_3;have zw2:w1.heap.size≤w2.heap.size:=hb.size;have B_w2:=zaa (zab B_w1.o hb B_w1.o.size);have X0_w2:=zaa (zac X0_w1.o hb (zah X0_w1.o));have X1_w2:=zaa (zac X1_w1.o hb (zah X1_w1.o));clear B_w1 hb X0_w1 X1_w1;have RD_w2:=zaa hr.rd;clear hr CS;go_wp2_with fail;refine (OW.o _ w2 RD_w2.o).mono ?_;rintro e w3 ⟨v',rfl,hr,hb⟩;obtain ⟨oW,pW,oP,pP,oS,pS,oQ,pQ,ei,-,-⟩:=hr.rd.form;subst ei;have zw3:w2.heap.size≤w3.heap.size:=hb.size;have B_w3:=zaa (zab B_w2.o hb B_w2.o.size);have X0_w3:=zaa (zac X0_w2.o hb (zah X0_w2.o));have X1_w3:=zaa (zac X1_w2.o hb (zah X1_w2.o));clear B_w2 hb X0_w2 X1_w2;have QD_w3:Hid (RowDev w3 w2.heap.size w3.heap.size _ W1 P1 E1 Q1):=hr;clear hr OW;obtain ⟨e0,e1,e2,e3,f0,f1,f2,f3⟩:=zaf X1_w3.o
   obtain ⟨w4,hw4⟩:∃ w4,w4=zix w3 (w.heap.size+1) (.slice oW W1.length pW) (.slice oP P1.length pP) (.slice oS E1.length pS) (.slice oQ Q1.length pQ):=⟨_,rfl⟩
   have Ow4:Outside (w.heap.size+1) (w.heap.size+1+1) w3 w4:=by rw[hw4];exact zbb _ _ _ _ _ _
   have zw4:w3.heap.size≤w4.heap.size∧w4.heap.size≤w3.heap.size:=by rw[hw4,zax];exact ⟨Nat.le_refl _,Nat.le_refl _⟩
   have B_w4:=zaa (B_w3.o.trans (Ow4.below (B:=w.heap.size) (by omega) B_w3.o.size));have QD_w4:=zaa (QD_w3.o.outside Ow4 (by omega) (by omega));unfold zix at hw4;clear Ow4;go_wp2;refine bodyPost_ret (v:=.tuple #[.agg #[.slice oW W1.length pW,.slice oP P1.length pP,.slice oS E1.length pS,.slice oQ Q1.length pQ],.int .i64 0]) (by simp[results,Tryz.results6,go_sem,e0,e1,e2,e3]) rfl ?_;rw[← hw4];rw[eR.o];exact ⟨_,rfl,QD_w4.o.wide (by omega) (by omega),B_w4.o⟩
  ·have k':zaw zs=false:=by simpa using k
   rw[k'] at KP
   have eR:Hid (crfR ws ps es qs hs td cd vl nm fr zs=(d0,4)):=by unfold Hid crfR;rw[if_neg c1,if_pos y,if_neg k]
   clear CQ HD y k k' c1 HZ
   obtain ⟨V,hV⟩:∃ V,V=((w.alloc (.cells #[.slice aW ws.length cW,.slice aP ps.length cP,.slice aS es.length cS,.slice aQ qs.length cQ,.slice aH hs.length cH,.slice aT td.length cT,.int .i64 cd,.int .i64 vl,.slice aN nm.length cN,.bool fr] 51)).alloc (.cells #[.slice none 0 0,.slice none 0 0,.slice none 0 0,.slice none 0 0] 45)):=⟨_,rfl⟩
   have zV:w.heap.size+2≤V.heap.size:=by rw[hV];simp <;> omega
   have B_V:Hid (Below w.heap.size w V):=by rw[hV];exact (((Below.refl _ _).alloc (by simp <;> omega) _).alloc (by simp <;> omega) _)
   have X0_V:Hid (V.heap[w.heap.size]?=some (.cells #[.slice aW ws.length cW,.slice aP ps.length cP,.slice aS es.length cS,.slice aQ qs.length cQ,.slice aH hs.length cH,.slice aT td.length cT,.int .i64 cd,.int .i64 vl,.slice aN nm.length cN,.bool fr] 51 (0,0))):=by rw[hV];exact (zal (zag rfl))
   have X1_V:Hid (V.heap[w.heap.size+1]?=some (.cells #[.slice none 0 0,.slice none 0 0,.slice none 0 0,.slice none 0 0] 45 (0,0))):=by rw[hV];exact (zag (by simp))
   go_enter Tryz.func6,Tryz.ntmps6;go_upto_region 1 with fail;rw[← hV];clear hV;obtain ⟨c0_0,c0_1,c0_2,c0_3,c0_4,c0_5,c0_6,c0_7,c0_8,c0_9,-⟩:=zam X0_V.o;go_wp2_with fail;refine (LF.o V B_V.o).mono ?_;rintro e w1 ⟨rfl,hb⟩;clear c0_0 c0_1 c0_2 c0_3 c0_4 c0_5 c0_6 c0_7 c0_8 c0_9;have zw1:V.heap.size≤w1.heap.size:=hb.size;have B_w1:=zaa (zab B_V.o hb B_V.o.size);have X0_w1:=zaa (zac X0_V.o hb (zah X0_V.o));have X1_w1:=zaa (zac X1_V.o hb (zah X1_V.o));clear B_V hb X0_V X1_V;clear LF;go_wp2_with fail;refine (KP.o w1 B_w1.o).mono ?_;rintro e w' ⟨rfl,hw'⟩;subst w';obtain ⟨e0,e1,e2,e3,f0,f1,f2,f3⟩:=zaf X1_w1.o
   obtain ⟨w2,hw2⟩:∃ w2,w2=zix w1 (w.heap.size+1) (.slice none 0 0) (.slice none 0 0) (.slice none 0 0) (.slice none 0 0):=⟨_,rfl⟩
   have Ow2:Outside (w.heap.size+1) (w.heap.size+1+1) w1 w2:=by rw[hw2];exact zbb _ _ _ _ _ _
   have zw2:w1.heap.size≤w2.heap.size∧w2.heap.size≤w1.heap.size:=by rw[hw2,zax];exact ⟨Nat.le_refl _,Nat.le_refl _⟩
   have B_w2:=zaa (B_w1.o.trans (Ow2.below (B:=w.heap.size) (by omega) B_w1.o.size));unfold zix at hw2;clear Ow2;go_wp2;refine bodyPost_ret (v:=.tuple #[.agg #[.slice none 0 0,.slice none 0 0,.slice none 0 0,.slice none 0 0],.int .i64 4]) (by simp[results,Tryz.results6,go_sem,e0,e1,e2,e3]) rfl ?_;rw[← hw2];rw[eR.o];exact ⟨_,rfl,RowDev.zero _ _ _ (by omega),B_w2.o⟩
 ·have y':fsB ws ps es qs hs td cd vl nm fr=false:=by simpa using y
  simp only[y'] at LF
  have eR:Hid (crfR ws ps es qs hs td cd vl nm fr zs=(d0,1)):=by unfold Hid crfR;rw[if_neg c1,if_neg y]
  clear KP CR HD y y' c1 HZ
  obtain ⟨V,hV⟩:∃ V,V=((w.alloc (.cells #[.slice aW ws.length cW,.slice aP ps.length cP,.slice aS es.length cS,.slice aQ qs.length cQ,.slice aH hs.length cH,.slice aT td.length cT,.int .i64 cd,.int .i64 vl,.slice aN nm.length cN,.bool fr] 51)).alloc (.cells #[.slice none 0 0,.slice none 0 0,.slice none 0 0,.slice none 0 0] 45)):=⟨_,rfl⟩
  have zV:w.heap.size+2≤V.heap.size:=by rw[hV];simp <;> omega
  have B_V:Hid (Below w.heap.size w V):=by rw[hV];exact (((Below.refl _ _).alloc (by simp <;> omega) _).alloc (by simp <;> omega) _)
  have X0_V:Hid (V.heap[w.heap.size]?=some (.cells #[.slice aW ws.length cW,.slice aP ps.length cP,.slice aS es.length cS,.slice aQ qs.length cQ,.slice aH hs.length cH,.slice aT td.length cT,.int .i64 cd,.int .i64 vl,.slice aN nm.length cN,.bool fr] 51 (0,0))):=by rw[hV];exact (zal (zag rfl))
  have X1_V:Hid (V.heap[w.heap.size+1]?=some (.cells #[.slice none 0 0,.slice none 0 0,.slice none 0 0,.slice none 0 0] 45 (0,0))):=by rw[hV];exact (zag (by simp))
  go_enter Tryz.func6,Tryz.ntmps6;go_upto_region 1 with fail;rw[← hV];clear hV;obtain ⟨c0_0,c0_1,c0_2,c0_3,c0_4,c0_5,c0_6,c0_7,c0_8,c0_9,-⟩:=zam X0_V.o;go_wp2_with fail;refine (LF.o V B_V.o).mono ?_;rintro e w1 ⟨rfl,hb⟩;clear c0_0 c0_1 c0_2 c0_3 c0_4 c0_5 c0_6 c0_7 c0_8 c0_9;have zw1:V.heap.size≤w1.heap.size:=hb.size;have B_w1:=zaa (zab B_V.o hb B_V.o.size);have X0_w1:=zaa (zac X0_V.o hb (zah X0_V.o));have X1_w1:=zaa (zac X1_V.o hb (zah X1_V.o));clear B_V hb X0_V X1_V;clear LF;obtain ⟨e0,e1,e2,e3,f0,f1,f2,f3⟩:=zaf X1_w1.o
  obtain ⟨w2,hw2⟩:∃ w2,w2=zix w1 (w.heap.size+1) (.slice none 0 0) (.slice none 0 0) (.slice none 0 0) (.slice none 0 0):=⟨_,rfl⟩
  have Ow2:Outside (w.heap.size+1) (w.heap.size+1+1) w1 w2:=by rw[hw2];exact zbb _ _ _ _ _ _
  have zw2:w1.heap.size≤w2.heap.size∧w2.heap.size≤w1.heap.size:=by rw[hw2,zax];exact ⟨Nat.le_refl _,Nat.le_refl _⟩
  have B_w2:=zaa (B_w1.o.trans (Ow2.below (B:=w.heap.size) (by omega) B_w1.o.size));unfold zix at hw2;clear Ow2;go_wp2;refine bodyPost_ret (v:=.tuple #[.agg #[.slice none 0 0,.slice none 0 0,.slice none 0 0,.slice none 0 0],.int .i64 1]) (by simp[results,Tryz.results6,go_sem,e0,e1,e2,e3]) rfl ?_;rw[← hw2];rw[eR.o];exact ⟨_,rfl,RowDev.zero _ _ _ (by omega),B_w2.o⟩
end Go.Proofs.YtahiphgmhndgaaaGreatDoor
