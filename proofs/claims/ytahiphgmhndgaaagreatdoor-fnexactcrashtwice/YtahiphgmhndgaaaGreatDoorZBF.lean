/- Several texts laid together: CrB, JiF. -/
import Derived.Test.YtahiphgmhndgaaaGreatDoorCrA
import Derived.Test.YtahiphgmhndgaaaGreatDoorZAO
import Derived.Test.YtahiphgmhndgaaaGreatDoorZAE
set_option maxRecDepth 100000
set_option maxHeartbeats 16000000
namespace Go.Proofs.YtahiphgmhndgaaaGreatDoor
open Go.RowKit
theorem yahk {w:World} {a b c d:Value} {ws:List Int} {ps:List St} {es:List Int} {qs:List Se} (h:RdDev w (.agg #[a,b,c,d]) ws ps es qs):RdPm w (.agg #[a,b]) ws ps:=by
 obtain ⟨_,_,_,_,e,h1,-⟩:=h
 cases e
 exact h1
theorem yagp (v:Value) (ws:List Int) (ps:List St) (es:List Int) (qs:List Se) (w:World) (h:RdDev w v ws ps es qs) (hws:ws.length≤1048576) (hps:ps.length≤1048576) (hes:es.length≤1048576) (hqs:qs.length≤1048576) :
  Calls Tryz.prog 86 #[v] w fun e w'=>e=.returned (.int .i64 (akC ws ps es qs))∧Below w.heap.size w w':=by
 have LD:=zaa (fun w1 (hb:Below w.heap.size w w1)=>zgi v ws ps es qs w1 (h.below hb) hws hps hes hqs);obtain ⟨aW,cW,aP,cP,aS,cS,aQ,cQ,rfl,-,-⟩:=h.form;clear h;unfold akC
 by_cases y:(pmB ws ps && zbp es qs)=true
 ·rw[y] at LD;rw[if_pos y];clear y
  by_cases p:0 < ps.length
  ·have p':(0:Int) < (ps.length:Int):=by omega
   rw[if_pos (.inl p)]
   obtain ⟨V,hV⟩:∃ V,V=(w.alloc (.cells #[.slice aW ws.length cW,.slice aP ps.length cP,.slice aS es.length cS,.slice aQ qs.length cQ] 45)):=⟨_,rfl⟩
   have zV:w.heap.size+1≤V.heap.size:=by rw[hV];simp <;> omega
   have B_V:Hid (Below w.heap.size w V):=by rw[hV];exact ((Below.refl _ _).alloc (by simp <;> omega) _)
   have X0_V:Hid (V.heap[w.heap.size]?=some (.cells #[.slice aW ws.length cW,.slice aP ps.length cP,.slice aS es.length cS,.slice aQ qs.length cQ] 45 (0,0))):=by rw[hV];exact (zag rfl)
   go_enter Tryz.func86,Tryz.ntmps86;go_upto_region 1 with fail;rw[← hV];clear hV;obtain ⟨c0_0,c0_1,c0_2,c0_3,-⟩:=zaf X0_V.o;go_wp2_with fail;refine (LD.o V B_V.o).mono ?_;rintro e w1 ⟨rfl,hb⟩;clear c0_0 c0_1 c0_2 c0_3;have zw1:V.heap.size≤w1.heap.size:=hb.size;have B_w1:=zaa (zab B_V.o hb B_V.o.size);have X0_w1:=zaa (zac X0_V.o hb (zah X0_V.o));clear B_V hb X0_V;clear LD;obtain ⟨-,c0_1,-,c0_3,-⟩:=zaf X0_w1.o;go_wp2;go_ret;exact ⟨rfl,B_w1.o⟩
  ·have p':¬ (0:Int) < (ps.length:Int):=by omega
   by_cases q:0 < qs.length
   ·have q':(0:Int) < (qs.length:Int):=by omega
    rw[if_pos (.inr q)]
    obtain ⟨V,hV⟩:∃ V,V=(w.alloc (.cells #[.slice aW ws.length cW,.slice aP ps.length cP,.slice aS es.length cS,.slice aQ qs.length cQ] 45)):=⟨_,rfl⟩
    have zV:w.heap.size+1≤V.heap.size:=by rw[hV];simp <;> omega
    have B_V:Hid (Below w.heap.size w V):=by rw[hV];exact ((Below.refl _ _).alloc (by simp <;> omega) _)
    have X0_V:Hid (V.heap[w.heap.size]?=some (.cells #[.slice aW ws.length cW,.slice aP ps.length cP,.slice aS es.length cS,.slice aQ qs.length cQ] 45 (0,0))):=by rw[hV];exact (zag rfl)
    go_enter Tryz.func86,Tryz.ntmps86;go_upto_region 1 with fail;rw[← hV];clear hV;obtain ⟨c0_0,c0_1,c0_2,c0_3,-⟩:=zaf X0_V.o;go_wp2_with fail;refine (LD.o V B_V.o).mono ?_;rintro e w1 ⟨rfl,hb⟩;clear c0_0 c0_1 c0_2 c0_3;have zw1:V.heap.size≤w1.heap.size:=hb.size;have B_w1:=zaa (zab B_V.o hb B_V.o.size);have X0_w1:=zaa (zac X0_V.o hb (zah X0_V.o));clear B_V hb X0_V;clear LD;obtain ⟨-,c0_1,-,c0_3,-⟩:=zaf X0_w1.o;go_wp2;go_ret;exact ⟨rfl,B_w1.o⟩
   ·have q':¬ (0:Int) < (qs.length:Int):=by omega
    rw[if_neg (by omega)]
    obtain ⟨V,hV⟩:∃ V,V=(w.alloc (.cells #[.slice aW ws.length cW,.slice aP ps.length cP,.slice aS es.length cS,.slice aQ qs.length cQ] 45)):=⟨_,rfl⟩
    have zV:w.heap.size+1≤V.heap.size:=by rw[hV];simp <;> omega
    have B_V:Hid (Below w.heap.size w V):=by rw[hV];exact ((Below.refl _ _).alloc (by simp <;> omega) _)
    have X0_V:Hid (V.heap[w.heap.size]?=some (.cells #[.slice aW ws.length cW,.slice aP ps.length cP,.slice aS es.length cS,.slice aQ qs.length cQ] 45 (0,0))):=by rw[hV];exact (zag rfl)
    go_enter Tryz.func86,Tryz.ntmps86;go_upto_region 1 with fail;rw[← hV];clear hV;obtain ⟨c0_0,c0_1,c0_2,c0_3,-⟩:=zaf X0_V.o;go_wp2_with fail;refine (LD.o V B_V.o).mono ?_;rintro e w1 ⟨rfl,hb⟩;clear c0_0 c0_1 c0_2 c0_3;have zw1:V.heap.size≤w1.heap.size:=hb.size;have B_w1:=zaa (zab B_V.o hb B_V.o.size);have X0_w1:=zaa (zac X0_V.o hb (zah X0_V.o));clear B_V hb X0_V;clear LD;obtain ⟨-,c0_1,-,c0_3,-⟩:=zaf X0_w1.o;go_wp2;go_ret;exact ⟨rfl,B_w1.o⟩
 ·have y':(pmB ws ps && zbp es qs)=false:=by simpa using y
  rw[y'] at LD;rw[if_neg y];clear y y'
  obtain ⟨V,hV⟩:∃ V,V=(w.alloc (.cells #[.slice aW ws.length cW,.slice aP ps.length cP,.slice aS es.length cS,.slice aQ qs.length cQ] 45)):=⟨_,rfl⟩
  have zV:w.heap.size+1≤V.heap.size:=by rw[hV];simp <;> omega
  have B_V:Hid (Below w.heap.size w V):=by rw[hV];exact ((Below.refl _ _).alloc (by simp <;> omega) _)
  have X0_V:Hid (V.heap[w.heap.size]?=some (.cells #[.slice aW ws.length cW,.slice aP ps.length cP,.slice aS es.length cS,.slice aQ qs.length cQ] 45 (0,0))):=by rw[hV];exact (zag rfl)
  go_enter Tryz.func86,Tryz.ntmps86;go_upto_region 1 with fail;rw[← hV];clear hV;obtain ⟨c0_0,c0_1,c0_2,c0_3,-⟩:=zaf X0_V.o;go_wp2_with fail;refine (LD.o V B_V.o).mono ?_;rintro e w1 ⟨rfl,hb⟩;clear c0_0 c0_1 c0_2 c0_3;have zw1:V.heap.size≤w1.heap.size:=hb.size;have B_w1:=zaa (zab B_V.o hb B_V.o.size);have X0_w1:=zaa (zac X0_V.o hb (zah X0_V.o));clear B_V hb X0_V;clear LD;go_wp2;go_ret;exact ⟨rfl,B_w1.o⟩
theorem zrh (v:Value) (ws:List Int) (ps:List St) (es:List Int) (qs:List Se) (w:World) (h:RdDev w v ws ps es qs) (hws:ws.length≤1048576) (hps:ps.length≤1048576) (_hes:es.length≤1048576) (_hqs:qs.length≤1048576) (hp0:ps=[]) (hq0:qs=[]) (hp:pmB ws ps=true) (hb:zbp es qs=true) :
  Calls Tryz.prog 87 #[v] w fun e w'=>∃ v',e=.returned (.tuple #[v',.int .i64 (zno ws ps es qs).2])∧RdF w' v' (zno ws ps es qs).1.ws (zno ws ps es qs).1.ps (zno ws ps es qs).1.es (zno ws ps es qs).1.qs (zno ws ps es qs).1.hs (zno ws ps es qs).1.td (zno ws ps es qs).1.cd (zno ws ps es qs).1.vl (zno ws ps es qs).1.nm (zno ws ps es qs).1.fr∧Below w.heap.size w w':=by
 obtain ⟨run,hQ⟩:=yakl (ws:=ws) (es:=es) hp0 hq0;have ok:=zyz (rpL ws ps) ws ps es qs hp hb (ztp ws ps);have len:=zky ws ps
 have fC:Hid (zno ws ps es qs=if rpC ws ps=0 then (if riC (zgr ws ps es qs).W (zgr ws ps es qs).P=0 then (⟨(zgr ws ps es qs).W,(zgr ws ps es qs).P,(zgr ws ps es qs).E,(zgr ws ps es qs).Q,zgn 128,[],0,0,[],false⟩,0) else (zz,riC (zgr ws ps es qs).W (zgr ws ps es qs).P)) else (zz,rpC ws ps)):=by
  unfold Hid zno rcvC
  by_cases z:rpC ws ps=0
  ·simp only[if_pos z]
  ·simp only[if_neg z]
 rw[run] at ok;simp only at ok;obtain ⟨aW,cW,aP,cP,aS,cS,aQ,cQ,rfl,r1,-⟩:=id h.form;have RP:=zaa (fun w1 (hb:Below w.heap.size w w1)=>zgc _ ws ps w1 (r1.below hb) hws hps)
 have LA:Hid (∀ w1 vL,Below w.heap.size w w1→RdM w1 vL (rpL ws ps)→Calls Tryz.prog 45 #[.agg #[.slice aW ws.length cW,.slice aP ps.length cP,.slice aS es.length cS,.slice aQ qs.length cQ],vL] w1 fun e w'=>∃ yW yP yS yQ,e=.returned (.agg #[yW,yP,yS,yQ])∧RdDev w' (.agg #[yW,yP,yS,yQ]) (zgr ws ps es qs).W (zgr ws ps es qs).P (zgr ws ps es qs).E (zgr ws ps es qs).Q∧Below w1.heap.size w1 w'):=fun w1 vL hb1 hl=>by
  refine (ztb _ vL _ _ _ _ (rpL ws ps) ws ps es qs _ _ _ _ w1 (h.below hb1) rfl hl hp hb (ztp ws ps) (by omega) run).mono ?_;rintro e w2 ⟨a,b,c,d,h1,h2,-,h3⟩;exact ⟨a,b,c,d,h1,h2,h3⟩
 have RI:Hid (∀ vv w1,RdPm w1 vv (zgr ws ps es qs).W (zgr ws ps es qs).P→Calls Tryz.prog 62 #[vv] w1 fun e w'=>∃ a b c d f g,e=.returned (.tuple #[.agg #[.slice a b c,.slice d f g],.int .i64 (riC (zgr ws ps es qs).W (zgr ws ps es qs).P)])∧Below w1.heap.size w1 w'):=fun vv w1 hr=>by
  have l1:=zbz ok.1;refine (zgm vv _ _ w1 hr (by omega) (by omega)).mono ?_;rintro e w2 ⟨v2,rfl,⟨vI,vD,rfl,h1,h2⟩,hb2⟩;obtain ⟨-,a,c,rfl,-⟩:=h1.rd;obtain ⟨-,d,f,rfl,-⟩:=h2.rd;exact ⟨a,_,c,d,_,f,rfl,hb2⟩
 have L3:Hid (3≤(zgr ws ps es qs).W.length∧3≤(zgr ws ps es qs).E.length):=by
  have a:=zbz ok.1;have b:=zbt ok.2;exact zaa (by omega)
 obtain ⟨A,B,P0,Q0,td0,nm0,et,en,NF⟩:∃ (A B:List Int) (P0:List St) (Q0:List Se) (td0:List Mi) (nm0:List ByteArray),Hid (td0=[])∧Hid (nm0=[])∧Hid (∀ w1,Calls Tryz.prog 126 #[] w1 fun e w'=>∃ v',e=.returned v'∧RdF w' v' A P0 B Q0 (zgn 128) td0 0 0 nm0 false∧Below w1.heap.size w1 w'):=⟨ndW,zs32,[],[],[],[],rfl,rfl,yaab⟩
 clear r1 h hp0 hq0 hp hb run ok len;generalize rpL ws ps=l at *;generalize rpC ws ps=rc at *;generalize riC (zgr ws ps es qs).W (zgr ws ps es qs).P=rc2 at *;generalize (zgr ws ps es qs).W=W2 at *;generalize (zgr ws ps es qs).P=P2 at *;generalize (zgr ws ps es qs).E=E2 at *;generalize (zgr ws ps es qs).Q=Q2 at *
 have FQ:Hid (∀ (x:Value) (b:Nat),0≤b→0≤b→0 < Q2.length→¬ x.ownBlock=some b):=fun x b _ _ h=>by rw[hQ] at h;simp at h
 clear hQ;generalize zno ws ps es qs=RR at *
 have LH:Hid (3≤(zgn 128).length):=by unfold Hid;rw[NHL];omega
 generalize zgn 128=HH at *
 obtain ⟨V,hV⟩:∃ V,V=((w.alloc (.cells #[.slice aW ws.length cW,.slice aP ps.length cP,.slice aS es.length cS,.slice aQ qs.length cQ] 45)).alloc (.cells #[.slice none 0 0,.slice none 0 0,.slice none 0 0,.slice none 0 0,.slice none 0 0,.slice none 0 0,.int .i64 0,.int .i64 0,.slice none 0 0,.bool false] 51)):=⟨_,rfl⟩
 have zV:w.heap.size+2≤V.heap.size:=by rw[hV];simp <;> omega
 have B_V:Hid (Below w.heap.size w V):=by rw[hV];exact (((Below.refl _ _).alloc (by simp <;> omega) _).alloc (by simp <;> omega) _)
 have X0_V:Hid (V.heap[w.heap.size]?=some (.cells #[.slice aW ws.length cW,.slice aP ps.length cP,.slice aS es.length cS,.slice aQ qs.length cQ] 45 (0,0))):=by rw[hV];exact (zal (zag rfl))
 have X1_V:Hid (V.heap[w.heap.size+1]?=some (.cells #[.slice none 0 0,.slice none 0 0,.slice none 0 0,.slice none 0 0,.slice none 0 0,.slice none 0 0,.int .i64 0,.int .i64 0,.slice none 0 0,.bool false] 51 (0,0))):=by rw[hV];exact (zag (by simp))
 go_enter Tryz.func87,Tryz.ntmps87;go_upto_region 1 with fail;rw[← hV];clear hV;obtain ⟨c0_0,c0_1,-,-,-⟩:=zaf X0_V.o;go_wp2_with fail;refine (RP.o V B_V.o).mono ?_;rintro e w1 ⟨v',rfl,hr,hb⟩;obtain ⟨-,iL,jL,rfl,-⟩:=hr.rd;clear c0_0 c0_1;have zw1:V.heap.size≤w1.heap.size:=hb.size;have B_w1:=zaa (zab B_V.o hb B_V.o.size);have X0_w1:=zaa (zac X0_V.o hb (zah X0_V.o));have X1_w1:=zaa (zac X1_V.o hb (zah X1_V.o));clear B_V hb X0_V X1_V;have QL_w1:Hid (Row w1 98 3 V.heap.size w1.heap.size _ l.length (mis l)):=hr;clear hr RP
 by_cases cz:rc=0
 case neg =>
  have eR:=fC.o;rw[if_neg cz] at eR;clear fC LA RI NF L3 FQ;obtain ⟨d0,d1,d2,d3,d4,d5,d6,d7,d8,d9,g0,g1,g2,g3,g4,g5,g6,g7,g8,g9⟩:=zam X1_w1.o
  obtain ⟨w2,hw2⟩:∃ w2,w2=((((((((((w1.setCell ⟨w.heap.size+1,0,none⟩ (.slice none 0 0)).setCell ⟨w.heap.size+1,1,none⟩ (.slice none 0 0)).setCell ⟨w.heap.size+1,2,none⟩ (.slice none 0 0)).setCell ⟨w.heap.size+1,3,none⟩ (.slice none 0 0)).setCell ⟨w.heap.size+1,4,none⟩ (.slice none 0 0)).setCell ⟨w.heap.size+1,5,none⟩ (.slice none 0 0)).setCell ⟨w.heap.size+1,6,none⟩ (.int .i64 0)).setCell ⟨w.heap.size+1,7,none⟩ (.int .i64 0)).setCell ⟨w.heap.size+1,8,none⟩ (.slice none 0 0)).setCell ⟨w.heap.size+1,9,none⟩ (.bool false)):=⟨_,rfl⟩
  have Ow2:Outside (w.heap.size+1) (w.heap.size+1+1) w1 w2:=by
   rw[hw2]
   repeat (refine Outside.setCell ?_ (by simp only;omega) (by simp only;omega) _)
   exact Outside.refl _ _ _
  have zw2:w1.heap.size≤w2.heap.size∧w2.heap.size≤w1.heap.size:=by rw[hw2];simp[World.setCell]
  have B_w2:=zaa (B_w1.o.trans (Ow2.below (B:=w.heap.size) (by omega) B_w1.o.size));have X0_w2:=zaa ((Ow2.block (w.heap.size) (zah X0_w1.o) (by omega)).trans X0_w1.o)
  have X1_w2:Hid (w2.heap[w.heap.size+1]?=some (.cells #[.slice none 0 0,.slice none 0 0,.slice none 0 0,.slice none 0 0,.slice none 0 0,.slice none 0 0,.int .i64 0,.int .i64 0,.slice none 0 0,.bool false] 51 (0,0))):=by rw[hw2];exact (zcl (zcd (zcg (zcj (zcc (zca (zbu (zbq (zbs (zbv X1_w1.o _) _) _) _) _) _) _) _) _) _)
  clear Ow2;go_wp2;refine bodyPost_ret (v:=.tuple #[.agg #[.slice none 0 0,.slice none 0 0,.slice none 0 0,.slice none 0 0,.slice none 0 0,.slice none 0 0,.int .i64 0,.int .i64 0,.slice none 0 0,.bool false],.int .i64 rc]) (by simp[results,Tryz.results87,go_sem,d0,d1,d2,d3,d4,d5,d6,d7,d8,d9]) rfl ?_;rw[← hw2];subst eR;exact ⟨_,rfl,(RowF.zero w2 0).rd,B_w2.o⟩
 subst cz;go_wp2_with fail;refine (NF.o w1).mono ?_;rintro e w2 ⟨v',rfl,hr,hb⟩;obtain ⟨nW,mW,nP,mP,nS,mS,nQ,mQ,nH,mH,nT,mT,nN,mN,rfl,-,qH,qT,qN⟩:=hr;have zw2:w1.heap.size≤w2.heap.size:=hb.size;have B_w2:=zaa (zab B_w1.o hb B_w1.o.size);have X0_w2:=zaa (zac X0_w1.o hb (zah X0_w1.o));have X1_w2:=zaa (zac X1_w1.o hb (zah X1_w1.o));have QL_w2:=zaa (QL_w1.o.below hb (by omega));clear B_w1 hb X0_w1 X1_w1 QL_w1;have RH:=zaa qH;have RT:=zaa qT;have RN:=zaa qN;have N_w2:=zaa (Below.refl w2.heap.size w2);clear qH qT qN NF
 obtain ⟨w3,hw3⟩:∃ w3,w3=(w2.alloc (.cells #[.slice nW A.length mW,.slice nP P0.length mP,.slice nS B.length mS,.slice nQ Q0.length mQ,.slice nH HH.length mH,.slice nT td0.length mT,.int .i64 0,.int .i64 0,.slice nN nm0.length mN,.bool false] 51)):=⟨_,rfl⟩
 have hb:Below w2.heap.size w2 w3:=by rw[hw3];exact ((Below.refl _ _).alloc (by simp <;> omega) _)
 obtain ⟨bF,hbF⟩:∃ bF:Nat,bF=w2.heap.size:=⟨_,rfl⟩
 have X2_w3:Hid (w3.heap[bF]?=some (.cells #[.slice nW A.length mW,.slice nP P0.length mP,.slice nS B.length mS,.slice nQ Q0.length mQ,.slice nH HH.length mH,.slice nT td0.length mT,.int .i64 0,.int .i64 0,.slice nN nm0.length mN,.bool false] 51 (0,0))):=by rw[hw3,hbF];exact (zag rfl)
 have pbF:w2.heap.size+0≤bF∧bF≤w2.heap.size+0∧bF < w3.heap.size:=⟨Nat.le_of_eq hbF.symm,Nat.le_of_eq hbF,zah X2_w3.o⟩
 have N_w3:=zaa (zab N_w2.o hb N_w2.o.size);have zw3:w2.heap.size≤w3.heap.size:=hb.size;have B_w3:=zaa (zab B_w2.o hb B_w2.o.size);have X0_w3:=zaa (zac X0_w2.o hb (zah X0_w2.o));have X1_w3:=zaa (zac X1_w2.o hb (zah X1_w2.o));have QL_w3:=zaa (QL_w2.o.below hb (by omega));clear B_w2 hb X0_w2 X1_w2 QL_w2;clear N_w2;go_upto_region 5 with fail;rw[← hw3];rw[← hbF];clear hw3 hbF;obtain ⟨c0_0,c0_1,c0_2,c0_3,-⟩:=zaf X0_w3.o;go_wp2_with fail;refine (LA.o w3 _ B_w3.o QL_w3.o.rd).mono ?_;rintro e w4 ⟨yW,yP,yS,yQ,rfl,hrf,hb⟩;obtain ⟨iW,jW,iP,jP,iS,jS,iQ,jQ,ei,-,-⟩:=hrf.form
 cases ei
 clear c0_0 c0_1 c0_2 c0_3;have N_w4:=zaa (zab N_w3.o hb N_w3.o.size);have zw4:w3.heap.size≤w4.heap.size:=hb.size;have B_w4:=zaa (zab B_w3.o hb B_w3.o.size);have X0_w4:=zaa (zac X0_w3.o hb (zah X0_w3.o));have X1_w4:=zaa (zac X1_w3.o hb (zah X1_w3.o));have X2_w4:=zaa (zac X2_w3.o hb (zah X2_w3.o));have QL_w4:=zaa (QL_w3.o.below hb (by omega));clear B_w3 hb X0_w3 X1_w3 X2_w3 QL_w3;clear N_w3;clear QL_w4 LA;have RD_w4:=zaa hrf;clear hrf;have FQ:=zaa (FQ.o (.slice iQ Q2.length jQ))
 obtain ⟨w5,hw5⟩:∃ w5,w5=((((w4.setCell ⟨bF,0,none⟩ (.slice iW W2.length jW)).setCell ⟨bF,1,none⟩ (.slice iP P2.length jP)).setCell ⟨bF,2,none⟩ (.slice iS E2.length jS)).setCell ⟨bF,3,none⟩ (.slice iQ Q2.length jQ)):=⟨_,rfl⟩
 have Ow5:Outside (bF) (bF+1) w4 w5:=by
  rw[hw5]
  repeat (refine Outside.setCell ?_ (by simp only;omega) (by simp only;omega) _)
  exact Outside.refl _ _ _
 have zw5:w4.heap.size≤w5.heap.size∧w5.heap.size≤w4.heap.size:=by rw[hw5];simp[World.setCell]
 have B_w5:=zaa (B_w4.o.trans (Ow5.below (B:=w.heap.size) (by omega) B_w4.o.size));have X0_w5:=zaa ((Ow5.block (w.heap.size) (zah X0_w4.o) (by omega)).trans X0_w4.o);have X1_w5:=zaa ((Ow5.block (w.heap.size+1) (zah X1_w4.o) (by omega)).trans X1_w4.o)
 have X2_w5:Hid (w5.heap[bF]?=some (.cells #[.slice iW W2.length jW,.slice iP P2.length jP,.slice iS E2.length jS,.slice iQ Q2.length jQ,.slice nH HH.length mH,.slice nT td0.length mT,.int .i64 0,.int .i64 0,.slice nN nm0.length mN,.bool false] 51 (0,0))):=by rw[hw5];exact (zbu (zbq (zbs (zbv X2_w4.o _) _) _) _)
 have RD_w5:=zaa (yamc RD_w4.o L3.o.1 L3.o.2 (FQ.o (bF) (by omega) (by omega)) Ow5 X2_w4.o);have N_w5:=zaa (N_w4.o.trans (Ow5.below (B:=w2.heap.size) (by omega) N_w4.o.size));clear Ow5;obtain ⟨d0,d1,d2,d3,d4,d5,d6,d7,d8,d9,g0,g1,g2,g3,g4,g5,g6,g7,g8,g9⟩:=zam X2_w4.o;go_upto_region 6 with fail;rw[← hw5];clear hw5;clear d0 d1 d2 d3 d4 d5 d6 d7 d8 d9 g0 g1 g2 g3 g4 g5 g6 g7 g8 g9 B_w4 X0_w4 X1_w4 X2_w4 RD_w4;clear N_w4;obtain ⟨c2_0,c2_1,-,-,-,-,-,-,-,-,-⟩:=zam X2_w5.o;go_wp2_with fail;refine (RI.o _ w5 (yahk RD_w5.o)).mono ?_;rintro e w6 ⟨ia,ib,ic,id',jf,jg,rfl,hb⟩;clear c2_0 c2_1;have N_w6:=zaa (zab N_w5.o hb N_w5.o.size);have zw6:w5.heap.size≤w6.heap.size:=hb.size;have B_w6:=zaa (zab B_w5.o hb B_w5.o.size);have X0_w6:=zaa (zac X0_w5.o hb (zah X0_w5.o));have X1_w6:=zaa (zac X1_w5.o hb (zah X1_w5.o));have X2_w6:=zaa (zac X2_w5.o hb (zah X2_w5.o));have RD_w6:=zaa (RD_w5.o.below hb);clear B_w5 hb X0_w5 X1_w5 X2_w5 RD_w5;clear N_w5;clear RI
 obtain ⟨w7,hw7⟩:∃ w7,w7=(w6.alloc (.cells #[.slice ia ib ic,.slice id' jf jg] 102)):=⟨_,rfl⟩
 have hb:Below w6.heap.size w6 w7:=by rw[hw7];exact ((Below.refl _ _).alloc (by simp <;> omega) _)
 obtain ⟨bI,hbI⟩:∃ bI:Nat,bI=w6.heap.size:=⟨_,rfl⟩
 have X3_w7:Hid (w7.heap[bI]?=some (.cells #[.slice ia ib ic,.slice id' jf jg] 102 (0,0))):=by rw[hw7,hbI];exact (zag rfl)
 have pbI:w6.heap.size+0≤bI∧bI≤w6.heap.size+0∧bI < w7.heap.size:=⟨Nat.le_of_eq hbI.symm,Nat.le_of_eq hbI,zah X3_w7.o⟩
 have N_w7:=zaa (zab N_w6.o hb N_w6.o.size);have zw7:w6.heap.size≤w7.heap.size:=hb.size;have B_w7:=zaa (zab B_w6.o hb B_w6.o.size);have X0_w7:=zaa (zac X0_w6.o hb (zah X0_w6.o));have X1_w7:=zaa (zac X1_w6.o hb (zah X1_w6.o));have X2_w7:=zaa (zac X2_w6.o hb (zah X2_w6.o));have RD_w7:=zaa (RD_w6.o.below hb);clear B_w6 hb X0_w6 X1_w6 X2_w6 RD_w6;clear N_w6;go_upto_region 7 with fail;rw[← hw7];rw[← hbI];clear hw7 hbI
 by_cases cz2:rc2=0
 case neg =>
  have eR:=fC.o;simp only[if_true,if_neg cz2] at eR;clear fC;obtain ⟨d0,d1,d2,d3,d4,d5,d6,d7,d8,d9,g0,g1,g2,g3,g4,g5,g6,g7,g8,g9⟩:=zam X1_w7.o
  obtain ⟨w8,hw8⟩:∃ w8,w8=((((((((((w7.setCell ⟨w.heap.size+1,0,none⟩ (.slice none 0 0)).setCell ⟨w.heap.size+1,1,none⟩ (.slice none 0 0)).setCell ⟨w.heap.size+1,2,none⟩ (.slice none 0 0)).setCell ⟨w.heap.size+1,3,none⟩ (.slice none 0 0)).setCell ⟨w.heap.size+1,4,none⟩ (.slice none 0 0)).setCell ⟨w.heap.size+1,5,none⟩ (.slice none 0 0)).setCell ⟨w.heap.size+1,6,none⟩ (.int .i64 0)).setCell ⟨w.heap.size+1,7,none⟩ (.int .i64 0)).setCell ⟨w.heap.size+1,8,none⟩ (.slice none 0 0)).setCell ⟨w.heap.size+1,9,none⟩ (.bool false)):=⟨_,rfl⟩
  have Ow8:Outside (w.heap.size+1) (w.heap.size+1+1) w7 w8:=by
   rw[hw8]
   repeat (refine Outside.setCell ?_ (by simp only;omega) (by simp only;omega) _)
   exact Outside.refl _ _ _
  have zw8:w7.heap.size≤w8.heap.size∧w8.heap.size≤w7.heap.size:=by rw[hw8];simp[World.setCell]
  have B_w8:=zaa (B_w7.o.trans (Ow8.below (B:=w.heap.size) (by omega) B_w7.o.size));have X0_w8:=zaa ((Ow8.block (w.heap.size) (zah X0_w7.o) (by omega)).trans X0_w7.o);have X2_w8:=zaa ((Ow8.block (bF) (zah X2_w7.o) (by omega)).trans X2_w7.o);have X3_w8:=zaa ((Ow8.block (bI) (zah X3_w7.o) (by omega)).trans X3_w7.o)
  have X1_w8:Hid (w8.heap[w.heap.size+1]?=some (.cells #[.slice none 0 0,.slice none 0 0,.slice none 0 0,.slice none 0 0,.slice none 0 0,.slice none 0 0,.int .i64 0,.int .i64 0,.slice none 0 0,.bool false] 51 (0,0))):=by rw[hw8];exact (zcl (zcd (zcg (zcj (zcc (zca (zbu (zbq (zbs (zbv X1_w7.o _) _) _) _) _) _) _) _) _) _)
  clear Ow8;go_wp2;refine bodyPost_ret (v:=.tuple #[.agg #[.slice none 0 0,.slice none 0 0,.slice none 0 0,.slice none 0 0,.slice none 0 0,.slice none 0 0,.int .i64 0,.int .i64 0,.slice none 0 0,.bool false],.int .i64 rc2]) (by simp[results,Tryz.results87,go_sem,d0,d1,d2,d3,d4,d5,d6,d7,d8,d9]) rfl ?_;rw[← hw8];subst eR;exact ⟨_,rfl,(RowF.zero w8 0).rd,B_w8.o⟩
 subst cz2;have eR:=fC.o;simp only[if_true] at eR;clear fC;obtain ⟨c2_0,c2_1,c2_2,c2_3,c2_4,c2_5,c2_6,c2_7,c2_8,c2_9,-⟩:=zam X2_w7.o;obtain ⟨d0,d1,d2,d3,d4,d5,d6,d7,d8,d9,g0,g1,g2,g3,g4,g5,g6,g7,g8,g9⟩:=zam X1_w7.o;have HC:=zaa (Rd.below RH.o N_w7.o)
 obtain ⟨w8,hw8⟩:∃ w8,w8=((((((((((w7.setCell ⟨w.heap.size+1,0,none⟩ (.slice iW W2.length jW)).setCell ⟨w.heap.size+1,1,none⟩ (.slice iP P2.length jP)).setCell ⟨w.heap.size+1,2,none⟩ (.slice iS E2.length jS)).setCell ⟨w.heap.size+1,3,none⟩ (.slice iQ Q2.length jQ)).setCell ⟨w.heap.size+1,4,none⟩ (.slice nH HH.length mH)).setCell ⟨w.heap.size+1,5,none⟩ (.slice nT td0.length mT)).setCell ⟨w.heap.size+1,6,none⟩ (.int .i64 0)).setCell ⟨w.heap.size+1,7,none⟩ (.int .i64 0)).setCell ⟨w.heap.size+1,8,none⟩ (.slice nN nm0.length mN)).setCell ⟨w.heap.size+1,9,none⟩ (.bool false)):=⟨_,rfl⟩
 have Ow8:Outside (w.heap.size+1) (w.heap.size+1+1) w7 w8:=by
  rw[hw8]
  repeat (refine Outside.setCell ?_ (by simp only;omega) (by simp only;omega) _)
  exact Outside.refl _ _ _
 have zw8:w7.heap.size≤w8.heap.size∧w8.heap.size≤w7.heap.size:=by rw[hw8];simp[World.setCell]
 have B_w8:=zaa (B_w7.o.trans (Ow8.below (B:=w.heap.size) (by omega) B_w7.o.size));have X0_w8:=zaa ((Ow8.block (w.heap.size) (zah X0_w7.o) (by omega)).trans X0_w7.o);have X2_w8:=zaa ((Ow8.block (bF) (zah X2_w7.o) (by omega)).trans X2_w7.o);have X3_w8:=zaa ((Ow8.block (bI) (zah X3_w7.o) (by omega)).trans X3_w7.o)
 have X1_w8:Hid (w8.heap[w.heap.size+1]?=some (.cells #[.slice iW W2.length jW,.slice iP P2.length jP,.slice iS E2.length jS,.slice iQ Q2.length jQ,.slice nH HH.length mH,.slice nT td0.length mT,.int .i64 0,.int .i64 0,.slice nN nm0.length mN,.bool false] 51 (0,0))):=by rw[hw8];exact (zcl (zcd (zcg (zcj (zcc (zca (zbu (zbq (zbs (zbv X1_w7.o _) _) _) _) _) _) _) _) _) _)
 have RD_w8:=zaa (yamc RD_w7.o L3.o.1 L3.o.2 (FQ.o (w.heap.size+1) (by omega) (by omega)) Ow8 X1_w7.o);have HD:Hid (RdI w8 _ HH):=RdI.soft HC.o (Soft.outside Ow8 X1_w7.o (zwh _ _ _ _ _ _ _ _ _ _ _ _ _ _ _ _ _ _ _ _ _ _ _ _)) LH.o;clear Ow8;go_wp2;refine bodyPost_ret (v:=.tuple #[.agg #[.slice iW W2.length jW,.slice iP P2.length jP,.slice iS E2.length jS,.slice iQ Q2.length jQ,.slice nH HH.length mH,.slice nT td0.length mT,.int .i64 0,.int .i64 0,.slice nN nm0.length mN,.bool false],.int .i64 0]) (by simp[results,Tryz.results87,go_sem,d0,d1,d2,d3,d4,d5,d6,d7,d8,d9]) rfl ?_;rw[← hw8];subst eR;have t0:=et.o;have n0:=en.o;subst t0;subst n0;exact ⟨_,rfl,⟨_,_,_,_,_,_,_,_,_,_,_,_,_,_,rfl,RD_w8.o,HD.o,Rd.none RT.o (by have:=N_w7.o.size;omega),Rd.none RN.o (by have:=N_w7.o.size;omega)⟩,B_w8.o⟩
theorem zmm (zs:List Int):zqk zs=allP zs:=by
 unfold zqk allP;rw[decide_eq_decide];exact ⟨fun h k hk=>zfq (h k hk),fun h k hk=>decide_eq_true (h k hk)⟩
def zmn:Array Value:=(List.replicate 42 (Value.bool false)).toArray
theorem yagi (w:World):(zeroValue 239).run Tryz.prog w=.ok (.agg zmn) w:=by kernel_rfl
theorem zpr:zmn.size=42:=by unfold zmn;rw[List.size_toArray,List.length_replicate]
theorem yain (k:Nat) (hk:k < 42):zmn[k]?=some (.bool false):=by unfold zmn;rw[List.getElem?_toArray,List.getElem?_replicate,if_pos hk]
def zhu (zs:List Int) (m j:Nat):Bool:=(List.range m).any (fun i=>zs[i]?.getD 0 / 8 == (j:Int))
theorem yagg (zs:List Int) (m j:Nat):zhu zs (m+1) j=(zhu zs m j || (zs[m]?.getD 0 / 8 == (j:Int))):=by
 unfold zhu;rw[List.range_succ,List.any_append];simp
theorem yaaf (zs:List Int) (m:Nat) (hm:m < zs.length) (h0:0≤zs[m]):zhu zs m (zs[m] / 8).toNat=zpw zs m:=by
 have e:(((zs[m] / 8).toNat:Nat):Int)=zs[m] / 8:=by omega
 unfold zhu zpw;rw[e,List.getElem?_eq_getElem hm];rfl
theorem zln (v:Value) (zs:List Int) (w:World) (h:RdI w v zs) (hn:zs.length≤1048576) :
  Calls Tryz.prog 195 #[v] w fun e w'=>∃ v',e=.returned (.tuple #[v',.int .i64 (flC zs)])∧Row w' 98 3 w.heap.size w'.heap.size v' (fpL zs).length (mis (fpL zs))∧Below w.heap.size w w':=by
 have HR:=zaa h;obtain ⟨aZ,cZ,rfl,_,hcZ⟩:=h.shape;have HZ:=zaa hcZ;clear h hcZ
 rcases yadj zs with ⟨c1,e1,e2⟩ | ⟨c1,c2,e1,e2⟩ | ⟨c1,c2,c3,e1,e2⟩ | ⟨c1,c2,c3,e1,e2⟩
 ·rw[e1,e2];clear e1 e2;go_enter Tryz.func195,Tryz.ntmps195;go_wp2;go_ret2;exact ⟨_,rfl,Row.nil _ _ _ _ _,Below.refl _ _⟩
 ·rw[e1,e2];clear e1 e2;go_enter Tryz.func195,Tryz.ntmps195;go_wp2;go_ret2;exact ⟨_,rfl,Row.nil _ _ _ _ _,Below.refl _ _⟩
 ·rw[e1,e2];have C3:=zaa ((zmm zs).trans c3);clear c3 e1 e2;go_enter Tryz.func195,Tryz.ntmps195;go_wp2_with (go_at_call 131;refine (zjc _ zs _ HR.o (by omega)).mono ?_;rw[C3.o];rintro e w' ⟨rfl,hw'⟩;subst w');go_ret2;exact ⟨_,rfl,Row.nil _ _ _ _ _,Below.refl _ _⟩
 ·rw[e1,e2];have C3:=zaa ((zmm zs).trans c3);have Z0:=zaa (of_decide_eq_true c3:∀ k (h:k < zs.length),0≤zs[k]∧zs[k] < 336);clear c3 e1 e2;have hal:=yagi
  have START:Hid ((w.alloc (.cells zmn 239)).rowIs w.heap.size 239 42 (fun k=>.bool (zhu zs 0 k))):=by
   have:=World.rowIs_alloc w zmn 239 (fun k=>.bool (zhu zs 0 k)) (fun k hk=>by rw[zpr] at hk;rw[yain k hk];rfl);rw[zpr] at this;exact this
  have BS:=zaa ((Below.refl w.heap.size w).alloc (Nat.le_refl _) (.cells zmn 239));go_enter Tryz.func195,Tryz.ntmps195;go_wp2_with (go_at_call 131;refine (zjc _ zs _ HR.o (by omega)).mono ?_;rw[C3.o];rintro e w' ⟨rfl,hw'⟩;subst w');clear hal
  go_loopw [5,7,8,20] (fun vL _ _ i wr=>∃ m:Nat,m≤zs.length∧i=.int .i64 m∧Hid (wr.ownsRow (w.heap.size+1) 98 3 vL (nl zs m).length (mis (nl zs m))∧Below w.heap.size w wr∧wr.rowIs w.heap.size 239 42 (fun k=>.bool (zhu zs m k)))∧w.heap.size+1≤wr.heap.size) (fun _ _ _ i _=>zs.length - (intOf i).toNat)
  case atStart=>exact ⟨0,by omega,rfl,⟨World.ownsRow_nil _ _ _ _,BS.o,START.o⟩,by simp⟩
  case round =>
   obtain ⟨m,hm,rfl,I,hz⟩:=hrel
   by_cases hlt:m < zs.length
   ·obtain ⟨b,o,rfl,hbl,hcell⟩:=HZ.o (by omega);have d0:=(I.o.2.1.cell (p:=⟨b,o+m,none⟩) hbl).trans (hcell m hlt);have p0:=Z0.o m hlt;have KN:=zaa (yaaf zs m hlt p0.1);have SU:=zaa (fun j=>(yagg zs m j).trans (by rw[List.getElem?_eq_getElem hlt];rfl):∀ j,zhu zs (m+1) j=(zhu zs m j || (zs[m] / 8 == (j:Int))));have NX:=zaa (show nl zs (m+1)=if zpw zs m=true then nl zs m else nl zs m ++ [⟨2,zs[m],0⟩] by rw[nl,List.getElem?_eq_getElem hlt];rfl);have g0:=I.o.2.2.frozen (zs[m] / 8).toNat;have g1:=I.o.2.2.cell (i:=(zs[m] / 8).toNat) (by omega)
    have m0:(0:Int)≤(m:Int):=by omega
    have m1:(m:Int) < (zs.length:Int):=by omega
    clear hcell;generalize zs[m]=y at *;obtain ⟨y0,y1⟩:=p0
    have t0:0≤y / 8:=by omega
    have t1:y / 8 < 42:=by omega
    have yt:Hid (((y / 8).toNat:Int)=y / 8):=by show (((y / 8).toNat:Nat):Int)=y / 8;omega
    cases hk:zpw zs m
    ·rw[KN.o,hk] at g1;have E:=zaa (NX.o.trans (by rw[hk];rfl):nl zs (m+1)=nl zs m ++ [⟨2,y,0⟩]);have F:=zaa (I.o.2.2.set (y / 8).toNat (.bool true));have B2:=zaa (I.o.2.1.setCell (p:=⟨w.heap.size,(y / 8).toNat,none⟩) (Nat.le_refl _) (.bool true));have O1:(wr.setCell ⟨w.heap.size,(y / 8).toNat,none⟩ (.bool true)).ownsRow (w.heap.size+1) 98 3 u5 (nl zs m).length (mis (nl zs m)):=ownsRow_setCell_below I.o.1 (by simp only;omega) _;have hle:=yaax zs m
     have FR:=zaa (fun k (_:k < 42)=>show (if k=(y / 8).toNat then Value.bool true else Value.bool (zhu zs m k))=Value.bool (zhu zs (m+1) k) by
      rw[SU.o]
      by_cases e:k=(y / 8).toNat
      ·rw[if_pos e,e,yt.o];simp
      ·rw[if_neg e]
       have:(y / 8 == (k:Int))=false:=by rw[beq_eq_false_iff_ne];omega
       rw[this,Bool.or_false])
     obtain ⟨wb,hwb⟩:∃ wb:World,wb=wr.setCell ⟨w.heap.size,(y / 8).toNat,none⟩ (.bool true):=⟨_,rfl⟩
     have hzb:wb.heap.size=wr.heap.size:=by rw[hwb];simp[World.setCell]
     have O2:Hid ((wb.alloc (.cells #[.int .i64 2,.int .i64 y,.int .i64 0] 98)).ownsRow (w.heap.size+1) 98 3 u5 (nl zs m).length (mis (nl zs m))):=by rw[hwb];exact O1.alloc _
     have HRD:Hid (Rd (wb.alloc (.cells #[.int .i64 2,.int .i64 y,.int .i64 0] 98)) 3 (.slice (some ⟨wr.heap.size,0,none⟩) 1 1) 1 (Mi.cells ⟨2,y,0⟩)):=by rw[← hzb];exact zmx wb 2 y 0
     have BB:Hid (Below w.heap.size w wb):=by rw[hwb];exact B2.o
     have FF:Hid (wb.rowIs w.heap.size 239 42 (fun k=>.bool (zhu zs (m+1) k))):=by rw[hwb];exact F.o.congr FR.o
     clear hk O1 B2 F FR;go_wp2_with (at_builtin;rw[← hwb];refine zak _ rfl (.tmp 32) (.tmp 35) 48 rfl (w.heap.size+1) 98 (.agg #[.int .i64 0,.int .i64 0,.int .i64 0]) 3 24 Tryz.underlying48 zem rfl (by decide) _ _ _ rfl O2.o _ 1 _ rfl HRD.o (zju _) (by simp[maxLen];omega) (by omega) (by simp;omega) ?_);intro vN wN hownN hgrN;rw[← hwb] at hgrN
     have hl:=fun q hq=>(O2.o.lt q hq).1
     have hzN:=hgrN.size;simp only[World.size_alloc] at hzN
     have G:Hid (wN.ownsRow (w.heap.size+1) 98 3 vN (nl zs (m+1)).length (mis (nl zs (m+1)))∧Below w.heap.size w wN∧wN.rowIs w.heap.size 239 42 (fun k=>.bool (zhu zs (m+1) k))):=by
      refine ⟨?_,(BB.o.alloc (by omega) (.cells #[.int .i64 2,.int .i64 y,.int .i64 0] 98)).grown hgrN (by simp;omega) (fun q hq=>by have:=hl q hq;omega),?_⟩
      ·rw[E.o,zog,List.length_append];exact hownN
      ·obtain ⟨cs,hh,h1,h2⟩:=FF.o.alloc (.cells #[.int .i64 2,.int .i64 y,.int .i64 0] 98);exact ⟨cs,(hgrN.block w.heap.size (by simp;omega) (fun e=>by have:=hl _ e.symm;omega)).trans hh,h1,h2⟩
     clear hownN hgrN hl;go_wp2
     go_roundw
     case rel=>exact ⟨m+1,by omega,by go_num,G,by omega⟩
     case measure=>simp[intOf];omega
    ·rw[KN.o,hk] at g1;have E:=zaa (NX.o.trans (by rw[hk];rfl):nl zs (m+1)=nl zs m);have HK:=zaa hk;clear hk;go_wp2
     go_roundw
     case rel =>
      refine ⟨m+1,by omega,by go_num,⟨by rw[E.o];exact I.o.1,I.o.2.1,I.o.2.2.congr (fun k hk=>?_)⟩,hz⟩
      show Value.bool (zhu zs m k)=Value.bool (zhu zs (m+1) k)
      rw[SU.o]
      by_cases e:y / 8=(k:Int)
      ·have:zhu zs m k=true:=by rw[show k=(y / 8).toNat by omega,KN.o];exact HK.o
       rw[this];rfl
      ·rw[show (y / 8 == (k:Int))=false by rw[beq_eq_false_iff_ne];exact e,Bool.or_false]
     case measure=>simp[intOf];omega
   ·obtain rfl:m=zs.length:=by omega
    have E:=zaa (show zcv zs=nl zs zs.length ++ [⟨3,0,0⟩] from rfl);have O2:=zaa (I.o.1.alloc (.cells #[.int .i64 3,.int .i64 0,.int .i64 0] 98));have HRD:=zaa (zmx wr 3 0 0);have hle:=yaax zs zs.length;go_wp2_with (at_builtin;refine zak _ rfl (.tmp 38) (.tmp 40) 48 rfl (w.heap.size+1) 98 (.agg #[.int .i64 0,.int .i64 0,.int .i64 0]) 3 24 Tryz.underlying48 zem rfl (by decide) _ _ _ rfl O2.o _ 1 _ rfl HRD.o (zju _) (by simp[maxLen];omega) (by omega) (by simp;omega) ?_);intro vN wN hownN hgrN
    have hl:=fun q hq=>(O2.o.lt q hq).1
    have G:Hid (wN.ownsRow (w.heap.size+1) 98 3 vN (zcv zs).length (mis (zcv zs))∧Below w.heap.size w wN):=by
     refine ⟨?_,(I.o.2.1.alloc (by omega) (.cells #[.int .i64 3,.int .i64 0,.int .i64 0] 98)).grown hgrN (by simp;omega) (fun q hq=>by have:=hl q hq;omega)⟩;rw[E.o,zog,List.length_append];exact hownN
    clear hownN hgrN hl;obtain ⟨aL,cL,hvL⟩:=RdM.form (zai G.o.1).rd rfl;subst hvL;go_wp2;go_ret2;exact ⟨_,rfl,(zai G.o.1).wide (by omega) (Nat.le_refl _),G.o.2⟩
end Go.Proofs.YtahiphgmhndgaaaGreatDoor
