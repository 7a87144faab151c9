/- Recover: by the program. -/
import Derived.Test.YtahiphgmhndgaaaGreatDoorCrH
set_option maxRecDepth 100000
set_option maxHeartbeats 8000000
namespace Go.Proofs.YtahiphgmhndgaaaGreatDoor
open Go.RowKit
theorem yajx {w:World} {b:Nat} {t:TypeId} {y0 y1 y2 y3 y4 y5 y6 y7 y8 y9:Value} (h:w.heap[b]?=some (.cells #[y0,y1,y2,y3,y4,y5,y6,y7,y8,y9] t (0,0))) (x0 x1 x2 x3 x4 x5 x6 x7 x8 x9:Value):(zee w b x0 x1 x2 x3 x4 x5 x6 x7 x8 x9).heap[b]?=some (.cells #[x0,x1,x2,x3,x4,x5,x6,x7,x8,x9] t (0,0)) :=
 zcl (zcd (zcg (zcj (zcc (zca (zbu (zbq (zbs (zbv h _) _) _) _) _) _) _) _) _) _
theorem zvq {w:World} {bF bC:Nat} {t t2:TypeId} {y0 y1 y2 y3 y4 y5 y6 y7 y8 y9 z:Value} (hne:¬ bC=bF) (h1:w.heap[bF]?=some (.cells #[y0,y1,y2,y3,y4,y5,y6,y7,y8,y9] t (0,0))) (h2:w.heap[bC]?=some (.cells #[z] t2 (0,0))) (x0 x1 x2 x3 x4 x5 x6 x7 x8 x9 c:Value) (w':World) (e:w'=(zee w bF x0 x1 x2 x3 x4 x5 x6 x7 x8 x9).setCell ⟨bC,0,none⟩ c) :
  w'.heap[bF]?=some (.cells #[x0,x1,x2,x3,x4,x5,x6,x7,x8,x9] t (0,0))∧w'.heap[bC]?=some (.cells #[c] t2 (0,0))∧w.heap.size≤w'.heap.size∧w'.heap.size≤w.heap.size∧∀ lo hi,lo≤bF→lo≤bC→bF < hi→bC < hi→Outside lo hi w w':=by
 obtain ⟨u,hu⟩:∃ u,u=zee w bF x0 x1 x2 x3 x4 x5 x6 x7 x8 x9:=⟨_,rfl⟩
 have a1:u.heap[bF]?=some (.cells #[x0,x1,x2,x3,x4,x5,x6,x7,x8,x9] t (0,0)):=by rw[hu];exact yajx h1 _ _ _ _ _ _ _ _ _ _
 have a2:u.heap[bC]?=some (.cells #[z] t2 (0,0)):=by rw[hu];exact yaku hne h2 _ _ _ _ _ _ _ _ _ _
 have a3:u.heap.size=w.heap.size:=by rw[hu];exact zfn _ _ _ _ _ _ _ _ _ _ _ _
 have a4:Outside bF (bF+1) w u:=by rw[hu];exact zeu _ _ _ _ _ _ _ _ _ _ _ _
 rw[← hu] at e;clear hu;subst e;refine ⟨(Below.heap_setCell _ _ _ _ (by simp only;omega)).trans a1,one_setCell a2,by simp[World.setCell];omega,by simp[World.setCell];omega,fun lo hi p q r s=>?_⟩;exact (a4.mono p r).setCell (by simp only;omega) (by simp only;omega) _
theorem yarm {ws:List Int} {ps:List St} {es:List Int} {qs:List Se} (h:¬ (zzr ws ps es qs).2=0):recR ws ps es qs=(zz,(zzr ws ps es qs).2):=by
 unfold zzr at h ⊢;unfold recR
 by_cases a:akC ws ps es qs=0
 ·rw[if_pos a] at h ⊢;rw[if_pos a];unfold zno;have e:rcvC ws ps es qs=rpC ws ps:=if_neg h;rw[e,if_neg h]
 ·rw[if_neg a,if_neg a]
theorem yauq {ws:List Int} {ps:List St} {es:List Int} {qs:List Se} (h:(zzr ws ps es qs).2=0):akC ws ps es qs=0∧rpC ws ps=0∧(zzr ws ps es qs).1=rpL ws ps:=by
 unfold zzr at h ⊢
 by_cases a:akC ws ps es qs=0
 ·rw[if_pos a] at h ⊢;exact ⟨a,h,rfl⟩
 ·rw[if_neg a] at h;exact absurd h a
theorem yaeq (aW aP aS aQ:Option Addr) (cW cP cS cQ:Nat) (ws:List Int) (ps:List St) (es:List Int) (qs:List Se) (L:List Mi) (c:Int) (w:World) (cne:¬ c=0)
  (lp:∀ w1,Below w.heap.size w w1→Calls Tryz.prog 50 #[.agg #[.slice aW ws.length cW,.slice aP ps.length cP,.slice aS es.length cS,.slice aQ qs.length cQ]] w1 fun e w'=>yaae w1 w' e (L,c)) :
  Calls Tryz.prog 52 #[.agg #[.slice aW ws.length cW,.slice aP ps.length cP,.slice aS es.length cS,.slice aQ qs.length cQ]] w fun e w'=>zis w w' e (zz,c):=by
 have LP:=zaa lp;clear lp;simp only[yaae] at LP
 have hmf:∀ (fn:Fn) (first cap:Array Value) (w:World),(Instr.makeFunc fn first cap).run Tryz.prog w=.ok (.func fn first cap) w:=fun _ _ _ _=>rfl
 obtain ⟨V,hV⟩:∃ V,V=(((w.alloc (.cells #[.slice aW ws.length cW,.slice aP ps.length cP,.slice aS es.length cS,.slice aQ qs.length cQ] 45)).alloc (.cells #[.slice none 0 0,.slice none 0 0,.slice none 0 0,.slice none 0 0,.slice none 0 0,.slice none 0 0,.int .i64 0,.int .i64 0,.slice none 0 0,.bool false] 51)).alloc (.cells #[.int .i64 0] 3)):=⟨_,rfl⟩
 have zV:w.heap.size+3≤V.heap.size:=by rw[hV];simp <;> omega
 have B_V:Hid (Below w.heap.size w V):=by rw[hV];exact ((((Below.refl _ _).alloc (by simp <;> omega) _).alloc (by simp <;> omega) _).alloc (by simp <;> omega) _)
 have X0_V:Hid (V.heap[w.heap.size]?=some (.cells #[.slice aW ws.length cW,.slice aP ps.length cP,.slice aS es.length cS,.slice aQ qs.length cQ] 45 (0,0))):=by rw[hV];exact (zal (zal (zag rfl)))
 have X1_V:Hid (V.heap[w.heap.size+1]?=some (.cells #[.slice none 0 0,.slice none 0 0,.slice none 0 0,.slice none 0 0,.slice none 0 0,.slice none 0 0,.int .i64 0,.int .i64 0,.slice none 0 0,.bool false] 51 (0,0))):=by rw[hV];exact (zal (zag (by simp)))
 have X2_V:Hid (V.heap[w.heap.size+1+1]?=some (.cells #[.int .i64 0] 3 (0,0))):=by rw[hV];exact (zag (by simp))
 go_enter_defers Tryz.func52,Tryz.ntmps52;go_upto_region 2 with fail;rw[← hV];clear hV;obtain ⟨d0,d1,d2,d3,-⟩:=zaf X0_V.o;go_wp2_with fail;refine (LP.o V B_V.o).mono ?_;rintro e w1 ⟨vL,rfl,hr,hb⟩;obtain ⟨-,aL,cL,rfl,-⟩:=id hr.rd;clear d0 d1 d2 d3 LP;have zw1:V.heap.size≤w1.heap.size:=hb.size;have B_w1:=zaa (zab B_V.o hb B_V.o.size);have X0_w1:=zaa (zac X0_V.o hb (zah X0_V.o));have X1_w1:=zaa (zac X1_V.o hb (zah X1_V.o));have X2_w1:=zaa (zac X2_V.o hb (zah X2_V.o));have QL_w1:=zaa hr;clear B_V hb X0_V X1_V X2_V hr
 obtain ⟨w2,hw2⟩:∃ w2:World,w2=w1.setCell ⟨w.heap.size+1+1,0,none⟩ (.int .i64 c):=⟨_,rfl⟩
 have O2:Outside (w.heap.size+1+1) (w.heap.size+1+1+1) w1 w2:=by
  rw[hw2];exact Outside.setCell (Outside.refl _ _ _) (by simp only;omega) (by simp only;omega) _
 have zw2:w1.heap.size≤w2.heap.size∧w2.heap.size≤w1.heap.size:=by rw[hw2];simp[World.setCell]
 have B_w2:=zaa (B_w1.o.trans (O2.below (B:=w.heap.size) (by omega) B_w1.o.size));have X0_w2:=zaa ((O2.block w.heap.size (by omega) (by omega)).trans X0_w1.o);have X1_w2:=zaa ((O2.block (w.heap.size+1) (by omega) (by omega)).trans X1_w1.o)
 have X2_w2:Hid (w2.heap[w.heap.size+1+1]?=some (.cells #[.int .i64 c] 3 (0,0))):=by rw[hw2];exact one_setCell X2_w1.o
 have QL_w2:=zaa (QL_w1.o.outside O2 (by omega) (Nat.le_refl _));obtain ⟨k0,k1⟩:=zcb X2_w1.o;go_upto_region 3 with fail;rw[← hw2];clear k0 k1 hw2 O2 B_w1 X0_w1 X1_w1 X2_w1 QL_w1;obtain ⟨k0,k1⟩:=zcb X2_w2.o;clear X0_w2 QL_w2
 obtain ⟨w3,hw3⟩:∃ w3,w3=(zee w2 (w.heap.size+1) (.slice none 0 0) (.slice none 0 0) (.slice none 0 0) (.slice none 0 0) (.slice none 0 0) (.slice none 0 0) (.int .i64 0) (.int .i64 0) (.slice none 0 0) (.bool false)).setCell ⟨w.heap.size+1+1,0,none⟩ (.int .i64 c):=⟨_,rfl⟩
 obtain ⟨x1,x2,zw3,-,O3⟩:=zvq (by omega) X1_w2.o X2_w2.o (.slice none 0 0) (.slice none 0 0) (.slice none 0 0) (.slice none 0 0) (.slice none 0 0) (.slice none 0 0) (.int .i64 0) (.int .i64 0) (.slice none 0 0) (.bool false) (.int .i64 c) w3 hw3;have B_w3:=zaa ((B_w2.o.trans ((O3 w.heap.size (w.heap.size+3) (by omega) (by omega) (by omega) (by omega)).below (B:=w.heap.size) (by omega) B_w2.o.size)).drew);have X1_w3:Hid (w3.drew.heap[w.heap.size+1]?=_):=x1;have X2_w3:Hid (w3.drew.heap[w.heap.size+1+1]?=_):=x2;have zd:w3.heap.size≤w3.drew.heap.size:=Nat.le_refl _;clear x1 x2 O3;unfold zee at hw3;obtain ⟨c0_0,c0_1,c0_2,c0_3,c0_4,c0_5,c0_6,c0_7,c0_8,c0_9,f0_0,f0_1,f0_2,f0_3,f0_4,f0_5,f0_6,f0_7,f0_8,f0_9⟩:=zam X1_w2.o;go_upto_region 4 with fail
 go_region
 all_goals go_wp2
 rw[← hw3];clear c0_0 c0_1 c0_2 c0_3 c0_4 c0_5 c0_6 c0_7 c0_8 c0_9 f0_0 f0_1 f0_2 f0_3 f0_4 f0_5 f0_6 f0_7 f0_8 f0_9 hw3 k0 k1 X1_w2 X2_w2 B_w2;refine leaves_cons (f:=102) (args:=#[.pointer (some ⟨w.heap.size+1+1,0,none⟩),.pointer (some ⟨w.heap.size+1,0,none⟩)]) (by simp) (by simp[go_sem]) ?_;refine (zot (w.heap.size+1+1) (w.heap.size+1) 3 c .returning w3.drew cne X2_w3.o).mono ?_;rintro e u' w' ⟨rfl,rfl,rfl⟩;obtain ⟨c0_0,c0_1,c0_2,c0_3,c0_4,c0_5,c0_6,c0_7,c0_8,c0_9,-⟩:=zam X1_w3.o;obtain ⟨k0,-⟩:=zcb X2_w3.o;refine ⟨.tuple #[.agg #[.slice none 0 0,.slice none 0 0,.slice none 0 0,.slice none 0 0,.slice none 0 0,.slice none 0 0,.int .i64 0,.int .i64 0,.slice none 0 0,.bool false],.int .i64 c],by simp[results,Tryz.results52,go_sem,c0_0,c0_1,c0_2,c0_3,c0_4,c0_5,c0_6,c0_7,c0_8,c0_9,k0],?_⟩;exact ⟨_,rfl,(RowF.zero _ _).wide (Nat.le_refl _) (by omega),B_w3.o⟩
theorem zss (aW aP aS aQ:Option Addr) (cW cP cS cQ:Nat) (ws:List Int) (ps:List St) (es:List Int) (qs:List Se) (L:List Mi) (X:List Int) (P0:List St) (E1:List Int) (Q0:List Se) (HH:List Int) (b:Bool) (R:Fz×Int) (eR:R=if b=true then (⟨X,P0,E1,Q0,HH,[],0,0,[],false⟩,0) else (zz,3)) (w:World)
  (lp:∀ w1,Below w.heap.size w w1→Calls Tryz.prog 50 #[.agg #[.slice aW ws.length cW,.slice aP ps.length cP,.slice aS es.length cS,.slice aQ qs.length cQ]] w1 fun e w'=>yaae w1 w' e (L,0))
  (lm:∀ w1 vL,Below w.heap.size w w1→RdM w1 vL L→Calls Tryz.prog 51 #[.agg #[.slice aW ws.length cW,.slice aP ps.length cP,.slice aS es.length cS,.slice aQ qs.length cQ],vL] w1 fun e w'=>∃ v',e=.returned (.tuple #[v',.int .i64 0])∧RowDev w' w1.heap.size w'.heap.size v' X P0 E1 Q0∧Below w1.heap.size w1 w')
  (nh:∀ w1,Calls Tryz.prog 103 #[] w1 fun e w'=>∃ v',e=.returned v'∧Row w' 3 1 w1.heap.size w'.heap.size v' HH.length (zav HH)∧Below w1.heap.size w1 w')
  (lf:∀ w1 v,Below w.heap.size w w1→RdF w1 v X P0 E1 Q0 HH [] 0 0 [] false→Calls Tryz.prog 89 #[v] w1 fun e w'=>e=.returned (.bool b)∧Below w1.heap.size w1 w') :
  Calls Tryz.prog 52 #[.agg #[.slice aW ws.length cW,.slice aP ps.length cP,.slice aS es.length cS,.slice aQ qs.length cQ]] w fun e w'=>zis w w' e R:=by
 have ER:=zaa eR;clear eR;have LP:=zaa lp;have LM:=zaa lm;have NH:=zaa nh;have LF:=zaa lf;clear lp lm nh lf;simp only[yaae] at LP
 have hmf:∀ (fn:Fn) (first cap:Array Value) (w:World),(Instr.makeFunc fn first cap).run Tryz.prog w=.ok (.func fn first cap) w:=fun _ _ _ _=>rfl
 obtain ⟨V,hV⟩:∃ V,V=(((w.alloc (.cells #[.slice aW ws.length cW,.slice aP ps.length cP,.slice aS es.length cS,.slice aQ qs.length cQ] 45)).alloc (.cells #[.slice none 0 0,.slice none 0 0,.slice none 0 0,.slice none 0 0,.slice none 0 0,.slice none 0 0,.int .i64 0,.int .i64 0,.slice none 0 0,.bool false] 51)).alloc (.cells #[.int .i64 0] 3)):=⟨_,rfl⟩
 have zV:w.heap.size+3≤V.heap.size:=by rw[hV];simp <;> omega
 have B_V:Hid (Below w.heap.size w V):=by rw[hV];exact ((((Below.refl _ _).alloc (by simp <;> omega) _).alloc (by simp <;> omega) _).alloc (by simp <;> omega) _)
 have X0_V:Hid (V.heap[w.heap.size]?=some (.cells #[.slice aW ws.length cW,.slice aP ps.length cP,.slice aS es.length cS,.slice aQ qs.length cQ] 45 (0,0))):=by rw[hV];exact (zal (zal (zag rfl)))
 have X1_V:Hid (V.heap[w.heap.size+1]?=some (.cells #[.slice none 0 0,.slice none 0 0,.slice none 0 0,.slice none 0 0,.slice none 0 0,.slice none 0 0,.int .i64 0,.int .i64 0,.slice none 0 0,.bool false] 51 (0,0))):=by rw[hV];exact (zal (zag (by simp)))
 have X2_V:Hid (V.heap[w.heap.size+1+1]?=some (.cells #[.int .i64 0] 3 (0,0))):=by rw[hV];exact (zag (by simp))
 go_enter_defers Tryz.func52,Tryz.ntmps52;go_upto_region 2 with fail;rw[← hV];clear hV;obtain ⟨d0,d1,d2,d3,-⟩:=zaf X0_V.o;go_wp2_with fail;refine (LP.o V B_V.o).mono ?_;rintro e w1 ⟨vL,rfl,hr,hb⟩;obtain ⟨-,aL,cL,rfl,-⟩:=id hr.rd;clear d0 d1 d2 d3 LP;have zw1:V.heap.size≤w1.heap.size:=hb.size;have B_w1:=zaa (zab B_V.o hb B_V.o.size);have X0_w1:=zaa (zac X0_V.o hb (zah X0_V.o));have X1_w1:=zaa (zac X1_V.o hb (zah X1_V.o));have X2_w1:=zaa (zac X2_V.o hb (zah X2_V.o));have QL_w1:=zaa hr;clear B_V hb X0_V X1_V X2_V hr
 obtain ⟨w2,hw2⟩:∃ w2:World,w2=w1.setCell ⟨w.heap.size+1+1,0,none⟩ (.int .i64 0):=⟨_,rfl⟩
 have O2:Outside (w.heap.size+1+1) (w.heap.size+1+1+1) w1 w2:=by
  rw[hw2];exact Outside.setCell (Outside.refl _ _ _) (by simp only;omega) (by simp only;omega) _
 have zw2:w1.heap.size≤w2.heap.size∧w2.heap.size≤w1.heap.size:=by rw[hw2];simp[World.setCell]
 have B_w2:=zaa (B_w1.o.trans (O2.below (B:=w.heap.size) (by omega) B_w1.o.size));have X0_w2:=zaa ((O2.block w.heap.size (by omega) (by omega)).trans X0_w1.o);have X1_w2:=zaa ((O2.block (w.heap.size+1) (by omega) (by omega)).trans X1_w1.o)
 have X2_w2:Hid (w2.heap[w.heap.size+1+1]?=some (.cells #[.int .i64 0] 3 (0,0))):=by rw[hw2];exact one_setCell X2_w1.o
 have QL_w2:=zaa (QL_w1.o.outside O2 (by omega) (Nat.le_refl _));obtain ⟨k0,k1⟩:=zcb X2_w1.o;go_upto_region 3 with fail;rw[← hw2];clear k0 k1 hw2 O2 B_w1 X0_w1 X1_w1 X2_w1 QL_w1;obtain ⟨k0,k1⟩:=zcb X2_w2.o;obtain ⟨d0,d1,d2,d3,-⟩:=zaf X0_w2.o;go_wp2_with fail;refine (LM.o w2 _ B_w2.o QL_w2.o.rd).mono ?_;rintro e w3 ⟨v3,rfl,hr,hb⟩;obtain ⟨iW,jW,iP,jP,iS,jS,iQ,jQ,ei,-,-⟩:=hr.rd.form
 cases ei
 clear d0 d1 d2 d3 LM k0 k1;have zw3:w2.heap.size≤w3.heap.size:=hb.size;have B_w3:=zaa (zab B_w2.o hb B_w2.o.size);have X1_w3:=zaa (zac X1_w2.o hb (zah X1_w2.o));have X2_w3:=zaa (zac X2_w2.o hb (zah X2_w2.o));have QD_w3:=zaa hr;clear B_w2 hb X0_w2 X1_w2 X2_w2 hr QL_w2
 obtain ⟨w4,hw4⟩:∃ w4:World,w4=(w3.alloc (.cells #[.slice iW X.length jW,.slice iP P0.length jP,.slice iS E1.length jS,.slice iQ Q0.length jQ] 45)).setCell ⟨w.heap.size+1+1,0,none⟩ (.int .i64 0):=⟨_,rfl⟩
 obtain ⟨bD,hbD⟩:∃ bD:Nat,bD=w3.heap.size:=⟨_,rfl⟩
 have eD:w3.heap.size≤bD∧bD≤w3.heap.size:=⟨Nat.le_of_eq hbD.symm,Nat.le_of_eq hbD⟩
 have zw4:w3.heap.size+1≤w4.heap.size:=by rw[hw4];simp[World.setCell]
 have O4:Outside (w.heap.size+1+1) (w.heap.size+1+1+1) (w3.alloc (.cells #[.slice iW X.length jW,.slice iP P0.length jP,.slice iS E1.length jS,.slice iQ Q0.length jQ] 45)) w4:=by
  rw[hw4];exact Outside.setCell (Outside.refl _ _ _) (by simp only;omega) (by simp only;omega) _
 have B4:Below w3.heap.size w3 (w3.alloc (.cells #[.slice iW X.length jW,.slice iP P0.length jP,.slice iS E1.length jS,.slice iQ Q0.length jQ] 45)):=(Below.refl _ _).alloc (Nat.le_refl _) _
 have za:(w3.alloc (.cells #[.slice iW X.length jW,.slice iP P0.length jP,.slice iS E1.length jS,.slice iQ Q0.length jQ] 45)).heap.size=w3.heap.size+1:=by simp
 have B_w4:=zaa ((zab B_w3.o B4 B_w3.o.size).trans (O4.below (B:=w.heap.size) (by omega) (by omega)));have X1_w4:=zaa ((O4.block (w.heap.size+1) (by omega) (by omega)).trans (zac X1_w3.o B4 (zah X1_w3.o)))
 have X2_w4:Hid (w4.heap[w.heap.size+1+1]?=some (.cells #[.int .i64 0] 3 (0,0))):=by rw[hw4];exact one_setCell (zac X2_w3.o B4 (zah X2_w3.o))
 have X3_w4:Hid (w4.heap[bD]?=some (.cells #[.slice iW X.length jW,.slice iP P0.length jP,.slice iS E1.length jS,.slice iQ Q0.length jQ] 45 (0,0))):=(O4.block bD (by omega) (by omega)).trans (by rw[hbD];exact zag rfl);have QD_w4:=zaa ((QD_w3.o.below B4 (Nat.le_refl _)).outside O4 (by omega) (by omega));obtain ⟨k0,k1⟩:=zcb (zac X2_w3.o B4 (zah X2_w3.o));go_upto_region 6 with fail;rw[← hw4,← hbD];clear k0 k1 hw4 hbD za O4 B4 B_w3 X1_w3 X2_w3 QD_w3;obtain ⟨d0,d1,d2,d3,-⟩:=zaf X3_w4.o;obtain ⟨k0,-⟩:=zcb X2_w4.o
 first | go_region_with (go_at_call 103;refine (NH.o _).mono ?_;rintro e w5 ⟨v5,rfl,hr5,hb5⟩;obtain ⟨-,iH,jH,rfl,-⟩:=id hr5.rd;have zw5:w4.heap.size≤w5.heap.size:=hb5.size;have B5:Hid (Below w4.heap.size w4 w5):=(by first | exact hb5 | exact zab ((Below.refl _ _).drew) hb5 (Nat.le_refl _));have QH:Hid (Row w5 3 1 w4.heap.size w5.heap.size (.slice iH HH.length jH) HH.length (zav HH)):=hr5;have X1_w5:=zaa (zac X1_w4.o B5.o (zah X1_w4.o));have X2_w5:=zaa (zac X2_w4.o B5.o (zah X2_w4.o));obtain ⟨g0,g1,g2,g3,-⟩:=zaf (zac X3_w4.o B5.o (zah X3_w4.o));obtain ⟨c0_0,c0_1,c0_2,c0_3,c0_4,c0_5,c0_6,c0_7,c0_8,c0_9,f0_0,f0_1,f0_2,f0_3,f0_4,f0_5,f0_6,f0_7,f0_8,f0_9⟩:=zam X1_w5.o;obtain ⟨k2,k3⟩:=zcb X2_w5.o;clear hr5 hb5) | skip
 all_goals go_wp2
 all_goals
  obtain ⟨w6,hw6⟩:∃ w6,w6=(zee w5 (w.heap.size+1) (.slice iW X.length jW) (.slice iP P0.length jP) (.slice iS E1.length jS) (.slice iQ Q0.length jQ) (.slice iH HH.length jH) (.slice none 0 0) (.int .i64 0) (.int .i64 0) (.slice none 0 0) (.bool false)).setCell ⟨w.heap.size+1+1,0,none⟩ (.int .i64 0):=⟨_,rfl⟩
  obtain ⟨x1,x2,zw6,-,O6⟩:=zvq (by omega) X1_w5.o X2_w5.o (.slice iW X.length jW) (.slice iP P0.length jP) (.slice iS E1.length jS) (.slice iQ Q0.length jQ) (.slice iH HH.length jH) (.slice none 0 0) (.int .i64 0) (.int .i64 0) (.slice none 0 0) (.bool false) (.int .i64 0) w6 hw6
  have O7:=(O6 (w.heap.size+1) (w.heap.size+1+1+1) (by omega) (by omega) (by omega) (by omega))
  have B_w6:=zaa ((zab B_w4.o B5.o B_w4.o.size).trans (O7.below (B:=w.heap.size) (by omega) (by omega)));have X1_w6:=zaa x1;have X2_w6:=zaa x2;unfold zee at hw6;rw[← hw6];clear hw6 O6 x1 x2
  have RF:Hid (RowF w6 w.heap.size w6.heap.size (.agg #[.slice iW X.length jW,.slice iP P0.length jP,.slice iS E1.length jS,.slice iQ Q0.length jQ,.slice iH HH.length jH,.slice none 0 0,.int .i64 0,.int .i64 0,.slice none 0 0,.bool false]) X P0 E1 Q0 HH [] 0 0 [] false):=⟨_,_,_,_,_,_,_,w2.heap.size,w3.heap.size,w4.heap.size,w5.heap.size,w6.heap.size,w6.heap.size,w6.heap.size,w6.heap.size,rfl,(QD_w4.o.below B5.o (by omega)).outside O7 (by omega) (by omega),QH.o.outside O7 (by omega) (Nat.le_refl _),RowW.nil _ _ _,Row.nil _ _ _ _ _,⟨by omega,by omega,by omega,by omega,by omega,by omega,by omega,by omega,by omega,by omega,by omega,by omega,by omega,by omega⟩⟩
  have LG:=zaa (LF.o w6 _ B_w6.o RF.o.rd);clear O7 LF QH QD_w4 B_w4 B5 X1_w4 X2_w4 X3_w4 X1_w5 X2_w5 NH k0 k2 k3 d0 d1 d2 d3 g0 g1 g2 g3 c0_0 c0_1 c0_2 c0_3 c0_4 c0_5 c0_6 c0_7 c0_8 c0_9 f0_0 f0_1 f0_2 f0_3 f0_4 f0_5 f0_6 f0_7 f0_8 f0_9;refine leaves_cons (f:=102) (args:=#[.pointer (some ⟨w.heap.size+1+1,0,none⟩),.pointer (some ⟨w.heap.size+1,0,none⟩)]) (by simp) (by simp[go_sem]) ?_
  cases b with
  | true =>
   refine (znf (w.heap.size+1+1) (w.heap.size+1) 3 _ _ _ _ _ _ _ _ _ _ .returning w6 X2_w6.o X1_w6.o LG.o).mono ?_;rintro e u' w7 ⟨rfl,rfl,hb⟩;obtain ⟨c0_0,c0_1,c0_2,c0_3,c0_4,c0_5,c0_6,c0_7,c0_8,c0_9,-⟩:=zam (zac X1_w6.o hb (zah X1_w6.o));obtain ⟨k0,-⟩:=zcb (zac X2_w6.o hb (zah X2_w6.o));refine ⟨.tuple #[.agg #[.slice iW X.length jW,.slice iP P0.length jP,.slice iS E1.length jS,.slice iQ Q0.length jQ,.slice iH HH.length jH,.slice none 0 0,.int .i64 0,.int .i64 0,.slice none 0 0,.bool false],.int .i64 0],by simp[results,Tryz.results52,go_sem,c0_0,c0_1,c0_2,c0_3,c0_4,c0_5,c0_6,c0_7,c0_8,c0_9,k0],?_⟩;rw[ER.o,if_pos rfl];exact ⟨_,rfl,(RF.o.below hb (Nat.le_refl _)).wide (Nat.le_refl _) hb.size,zab B_w6.o hb B_w6.o.size⟩
  | false =>
   refine (znv (w.heap.size+1+1) (w.heap.size+1) 3 _ _ _ _ _ _ _ _ _ _ .returning w6 X2_w6.o X1_w6.o (by omega) LG.o).mono ?_;rintro e u' w8 ⟨rfl,rfl,w7,hb,hw8⟩;have zw7:w6.heap.size≤w7.heap.size:=hb.size;obtain ⟨X1_w8,X2_w8,zw8,-,O8⟩:=zvq (by omega) (zac X1_w6.o hb (zah X1_w6.o)) (zac X2_w6.o hb (zah X2_w6.o)) (.slice none 0 0) (.slice none 0 0) (.slice none 0 0) (.slice none 0 0) (.slice none 0 0) (.slice none 0 0) (.int .i64 0) (.int .i64 0) (.slice none 0 0) (.bool false) (.int .i64 3) w8 hw8;have B_w8:Below w.heap.size w w8:=(zab B_w6.o hb B_w6.o.size).trans ((O8 (w.heap.size+1) (w.heap.size+1+1+1) (by omega) (by omega) (by omega) (by omega)).below (B:=w.heap.size) (by omega) (by omega));obtain ⟨c0_0,c0_1,c0_2,c0_3,c0_4,c0_5,c0_6,c0_7,c0_8,c0_9,-⟩:=zam X1_w8;obtain ⟨k0,-⟩:=zcb X2_w8;refine ⟨.tuple #[.agg #[.slice none 0 0,.slice none 0 0,.slice none 0 0,.slice none 0 0,.slice none 0 0,.slice none 0 0,.int .i64 0,.int .i64 0,.slice none 0 0,.bool false],.int .i64 3],by simp[results,Tryz.results52,go_sem,c0_0,c0_1,c0_2,c0_3,c0_4,c0_5,c0_6,c0_7,c0_8,c0_9,k0],?_⟩;rw[ER.o,if_neg (by decide)];exact ⟨_,rfl,(RowF.zero _ _).wide (Nat.le_refl _) (by omega),B_w8⟩
theorem zou (v:Value) (ws:List Int) (ps:List St) (es:List Int) (qs:List Se) (w:World) (h:RdDev w v ws ps es qs) (hws:ws.length≤1048576) (hps:ps.length≤1048576) (hes:es.length≤1048576) (hqs:qs.length≤1048576) (hS:SB w) (hT:TS w) (hE:ED w) (hF:FD w) :
  Calls Tryz.prog 52 #[v] w fun e w'=>zis w w' e (recR ws ps es qs):=by
 obtain ⟨aW,cW,aP,cP,aS,cS,aQ,cQ,rfl,-,-⟩:=id h.form
 have lp:=fun w1 (hb:Below w.heap.size w w1)=>zfv _ ws ps es qs w1 (h.below hb) hws hps hes hqs
 by_cases c:(zzr ws ps es qs).2=0
 ·obtain ⟨a,r,l⟩:=yauq c;obtain ⟨hp,hb,p0,q0⟩:=yabt a;have e:zzr ws ps es qs=(rpL ws ps,0):=Prod.ext l c;subst p0 q0;obtain ⟨X,e1,e8,hX⟩:=yaor hp hb r;have em:=yauo hp hb;have lx:=zbz hX;have le:=zbt hb
  have cR:rcvC ws [] es []=riC X []:=by unfold rcvC;rw[if_pos r,e1]
  rw[show recR ws [] es []=zno ws [] es [] from if_pos a];unfold zno;rw[cR,e1];simp only;rw[e] at lp
  have lm:=fun w1 vL (hb:Below w.heap.size w w1) hL=>zha _ vL (rpL ws []) ws [] es [] w1 (hS.below hb) (h.below hb) hL hws hps hes hqs (Nat.le_trans (zky ws []) (by decide))
  rw[em,e1] at lm
  have lf:=fun w1 v (hb:Below w.heap.size w w1) hr=>zna v X [] es [] (zgn 128) [] 0 0 [] false w1 hr (by omega) (by simp) (by omega) (by simp) (by rw[zka];decide) (by simp) (by simp) (hS.below hb) (hT.below hb) (hE.below hb) (hF.below hb)
  rcases yatz hX hb e8 with ⟨b,r0⟩ | ⟨b,r3⟩
  ·rw[b] at lf;rw[r0,if_pos rfl];exact zss aW aP aS aQ cW cP cS cQ ws [] es [] _ X [] es [] (zgn 128) true _ rfl w lp lm (fun w1=>zhs w1) lf
  ·rw[b] at lf;rw[r3,if_neg (by decide)];exact zss aW aP aS aQ cW cP cS cQ ws [] es [] _ X [] es [] (zgn 128) false _ rfl w lp lm (fun w1=>zhs w1) lf
 ·rw[yarm c];exact yaeq aW aP aS aQ cW cP cS cQ ws ps es qs _ _ w c lp
end Go.Proofs.YtahiphgmhndgaaaGreatDoor
