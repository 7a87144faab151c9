/- RecoverPlan: by the program. -/
import Derived.Test.YtahiphgmhndgaaaGreatDoorZBF
import Derived.Test.YtahiphgmhndgaaaGreatDoorZBG
import Derived.Test.YtahiphgmhndgaaaGreatDoorZBI
import Derived.Test.YtahiphgmhndgaaaGreatDoorZAN
import Derived.Test.YtahiphgmhndgaaaGreatDoorZBH
set_option maxRecDepth 100000
set_option maxHeartbeats 8000000
namespace Go.Proofs.YtahiphgmhndgaaaGreatDoor
open Go.RowKit
theorem yaub {ws:List Int} {ps:List St} {es:List Int} {qs:List Se} (h:(pmB ws ps && zbp es qs)=false):akC ws ps es qs=1:=if_neg (by rw[h];exact Bool.false_ne_true)
theorem yasg {ws:List Int} {ps:List St} {es:List Int} {qs:List Se} (h:(pmB ws ps && zbp es qs)=true) (k:0 < ps.length∨0 < qs.length):akC ws ps es qs=15:=(if_pos h).trans (if_pos k)
theorem yauy {ws:List Int} {ps:List St} {es:List Int} {qs:List Se} (h:(pmB ws ps && zbp es qs)=true) (k:¬ (0 < ps.length∨0 < qs.length)):akC ws ps es qs=0:=(if_pos h).trans (if_neg k)
theorem zfv (v:Value) (ws:List Int) (ps:List St) (es:List Int) (qs:List Se) (w:World) (h:RdDev w v ws ps es qs) (hws:ws.length≤1048576) (hps:ps.length≤1048576) (hes:es.length≤1048576) (hqs:qs.length≤1048576) :
  Calls Tryz.prog 50 #[v] w fun e w'=>yaae w w' e (zzr ws ps es qs):=by
 have LD:=zaa (fun w1 (hb:Below w.heap.size w w1)=>zcp v ws ps es qs w1 (h.below hb) hws hps hes hqs);obtain ⟨aW,cW,aP,cP,aS,cS,aQ,cQ,rfl,r1,-⟩:=h.form;have LS:=zaa (fun w1 (_:Below w.heap.size w w1)=>zps aW aP aS aQ ws.length ps.length es.length qs.length cW cP cS cQ w1 hps hqs)
 have LR:Hid (ps=[]→∀ w1,Below w.heap.size w w1→Calls Tryz.prog 97 #[.agg #[.slice aW ws.length cW,.slice aP ps.length cP]] w1 fun e w'=>∃ v',e=.returned (.tuple #[v',.int .i64 (rpC ws ps)])∧Row w' 98 3 w1.heap.size w'.heap.size v' (rpL ws ps).length (mis (rpL ws ps))∧Below w1.heap.size w1 w'):=fun e w1 hb=>by
  subst e;exact zkp _ ws w1 (r1.below hb) hws
 clear h r1
 obtain ⟨V,hV⟩:∃ V,V=(w.alloc (.cells #[.slice aW ws.length cW,.slice aP ps.length cP,.slice aS es.length cS,.slice aQ qs.length cQ] 45)):=⟨_,rfl⟩
 have zV:w.heap.size+1≤V.heap.size:=by rw[hV];simp <;> omega
 have B_V:Hid (Below w.heap.size w V):=by rw[hV];exact ((Below.refl _ _).alloc (by simp <;> omega) _)
 have X0_V:Hid (V.heap[w.heap.size]?=some (.cells #[.slice aW ws.length cW,.slice aP ps.length cP,.slice aS es.length cS,.slice aQ qs.length cQ] 45 (0,0))):=by rw[hV];exact (zag rfl)
 by_cases c1:(pmB ws ps && zbp es qs)=true
 ·rw[c1] at LD
  by_cases c2:0 < ps.length∨0 < qs.length
  ·rw[show (decide (ps.length=0) && decide (qs.length=0))=false by
    rcases c2 with c2 | c2
    ·rw[decide_eq_false (by omega)];rfl
    ·rw[decide_eq_false (p:=qs.length=0) (by omega),Bool.and_false]] at LS
   have eR:Hid (zzr ws ps es qs=([],15)):=by unfold Hid zzr;rw[yasg c1 c2];rfl
   clear LR c1 c2;go_enter Tryz.func50,Tryz.ntmps50;go_upto_region 1 with fail;rw[← hV];clear hV;obtain ⟨c0_0,c0_1,c0_2,c0_3,-⟩:=zaf X0_V.o;go_wp2_with fail;refine (LD.o V B_V.o).mono ?_;rintro e w1 ⟨rfl,hb⟩;clear c0_0 c0_1 c0_2 c0_3;have zw1:V.heap.size≤w1.heap.size:=hb.size;have B_w1:=zaa (zab B_V.o hb B_V.o.size);have X0_w1:=zaa (zac X0_V.o hb (zah X0_V.o));clear B_V hb X0_V LD;obtain ⟨c0_0,c0_1,c0_2,c0_3,-⟩:=zaf X0_w1.o;go_wp2_with fail;refine (LS.o w1 B_w1.o).mono ?_;rintro e w2 ⟨rfl,hb⟩;clear c0_0 c0_1 c0_2 c0_3;have zw2:w1.heap.size≤w2.heap.size:=hb.size;have B_w2:=zaa (zab B_w1.o hb B_w1.o.size);have X0_w2:=zaa (zac X0_w1.o hb (zah X0_w1.o));clear B_w1 hb X0_w1 LS;go_wp2;go_ret2;rw[eR.o];exact ⟨_,rfl,Row.nil _ _ _ _ _,B_w2.o⟩
  ·have eR:Hid (zzr ws ps es qs=(rpL ws ps,rpC ws ps)):=by unfold Hid zzr;rw[yauy c1 c2];rfl
   have LQ:=zaa (LR.o (List.length_eq_zero_iff.1 (by omega)));rw[show (decide (ps.length=0) && decide (qs.length=0))=true by rw[decide_eq_true (by omega),decide_eq_true (by omega)];rfl] at LS;clear LR c1 c2;generalize rpL ws ps=l at *;generalize rpC ws ps=rc at *;go_enter Tryz.func50,Tryz.ntmps50;go_upto_region 1 with fail;rw[← hV];clear hV;obtain ⟨c0_0,c0_1,c0_2,c0_3,-⟩:=zaf X0_V.o;go_wp2_with fail;refine (LD.o V B_V.o).mono ?_;rintro e w1 ⟨rfl,hb⟩;clear c0_0 c0_1 c0_2 c0_3;have zw1:V.heap.size≤w1.heap.size:=hb.size;have B_w1:=zaa (zab B_V.o hb B_V.o.size);have X0_w1:=zaa (zac X0_V.o hb (zah X0_V.o));clear B_V hb X0_V LD;obtain ⟨c0_0,c0_1,c0_2,c0_3,-⟩:=zaf X0_w1.o;go_wp2_with fail;refine (LS.o w1 B_w1.o).mono ?_;rintro e w2 ⟨rfl,hb⟩;clear c0_0 c0_1 c0_2 c0_3;have zw2:w1.heap.size≤w2.heap.size:=hb.size;have B_w2:=zaa (zab B_w1.o hb B_w1.o.size);have X0_w2:=zaa (zac X0_w1.o hb (zah X0_w1.o));clear B_w1 hb X0_w1 LS;obtain ⟨c0_0,c0_1,-,-,-⟩:=zaf X0_w2.o;go_wp2_with fail;refine (LQ.o w2 B_w2.o).mono ?_;rintro e w3 ⟨v',rfl,hr,hb⟩;clear c0_0 c0_1;have zw3:w2.heap.size≤w3.heap.size:=hb.size;have B_w3:=zaa (zab B_w2.o hb B_w2.o.size);clear B_w2 hb X0_w2;have QL:Hid (Row w3 98 3 w2.heap.size w3.heap.size _ l.length (mis l)):=hr;clear hr LQ;go_wp2;go_ret2;rw[eR.o];exact ⟨_,rfl,QL.o.wide (by omega) (Nat.le_refl _),B_w3.o⟩
 ·rw[show (pmB ws ps && zbp es qs)=false by simpa using c1] at LD
  have eR:Hid (zzr ws ps es qs=([],1)):=by unfold Hid zzr;rw[yaub (by simpa using c1)];rfl
  clear LR LS c1;go_enter Tryz.func50,Tryz.ntmps50;go_upto_region 1 with fail;rw[← hV];clear hV;obtain ⟨c0_0,c0_1,c0_2,c0_3,-⟩:=zaf X0_V.o;go_wp2_with fail;refine (LD.o V B_V.o).mono ?_;rintro e w1 ⟨rfl,hb⟩;clear c0_0 c0_1 c0_2 c0_3;have zw1:V.heap.size≤w1.heap.size:=hb.size;have B_w1:=zaa (zab B_V.o hb B_V.o.size);have X0_w1:=zaa (zac X0_V.o hb (zah X0_V.o));clear B_V hb X0_V LD;go_wp2;go_ret2;rw[eR.o];exact ⟨_,rfl,Row.nil _ _ _ _ _,B_w1.o⟩
end Go.Proofs.YtahiphgmhndgaaaGreatDoor
