/- Crashes: by the program: lists of keeps, the fault, the crash yet to come. -/
import Derived.Test.YtahiphgmhndgaaaGreatDoorCrD
import Derived.Test.YtahiphgmhndgaaaGreatDoorZAW
import Derived.Test.YtahiphgmhndgaaaGreatDoorZBN
import Derived.Test.YtahiphgmhndgaaaGreatDoorZBI
import Derived.Test.YtahiphgmhndgaaaGreatDoorZAN
set_option maxRecDepth 100000
set_option maxHeartbeats 8000000
namespace Go.Proofs.YtahiphgmhndgaaaGreatDoor
open Go.RowKit
theorem zei (v:Value) (zs:List Int) (w:World) (h:RdI w v zs) (hn:zs.length≤1048576) :
  Calls Tryz.prog 31 #[v] w fun e w'=>e=.returned (.bool (decide (zs.length≤4096)))∧w'=w:=by
 obtain ⟨ao,cap,rfl,_⟩:=h.shape;clear h
 by_cases c:zs.length≤4096
 ·rw[decide_eq_true c]
  have c':(zs.length:Int)≤4096:=by omega
  go_enter Tryz.func31,Tryz.ntmps31;go_wp2;go_ret;exact ⟨zae (by first | rfl | exact decide_eq_false (by assumption) | exact decide_eq_false (by omega) | exact decide_eq_true (by omega)),rfl⟩
 ·rw[decide_eq_false c]
  have c':¬ (zs.length:Int)≤4096:=by omega
  go_enter Tryz.func31,Tryz.ntmps31;go_wp2;go_ret;exact ⟨zae (by first | rfl | exact decide_eq_false (by assumption) | exact decide_eq_false (by omega) | exact decide_eq_true (by omega)),rfl⟩
theorem zvv (v:Value) (zs:List Int) (w:World) (h:RdI w v zs) (hn:zs.length≤1048576) :
  Calls Tryz.prog 91 #[v] w fun e w'=>e=.returned (.bool (zaw zs))∧w'=w:=by
 have HR:=zaa h;obtain ⟨ao,cap,rfl,_⟩:=h.shape;clear h;go_enter Tryz.func91,Tryz.ntmps91;go_wp2_with (go_at_call 131;refine (zdz _ zs _ HR.o (by omega)).mono ?_;rintro e w' ⟨rfl,rfl⟩);go_ret;exact ⟨rfl,rfl⟩
def lstV (ls:List (Value×List Int)):List Value:=ls.map (·.1)
theorem yasw {ls:List (Value×List Int)} {k:Nat} (h:k < ls.length):(lstV ls)[k]?=some ls[k].1:=by simp[lstV,h]
def RdL (w:World) (v:Value) (ls:List (Value×List Int)):Prop:=Rd w 1 v ls.length (lstV ls)∧∀ k (h:k < ls.length),RdI w ls[k].1 ls[k].2∧ls[k].2.length≤1048576
theorem RdL.below {w w':World} {v:Value} {ls:List (Value×List Int)} (h:RdL w v ls) (hb:Below w.heap.size w w'):RdL w' v ls:=⟨Rd.below h.1 hb,fun k hk=>⟨Rd.below (h.2 k hk).1 hb,(h.2 k hk).2⟩⟩
theorem RdL.shape {w:World} {v:Value} {ls:List (Value×List Int)} (h:RdL w v ls):∃ ao cap,v=.slice ao ls.length cap∧(0 < ls.length→∃ b o,ao=some ⟨b,o,none⟩∧b < w.heap.size∧∀ k (h:k < ls.length),w.cell? ⟨b,o+k,none⟩=some ls[k].1):=by
 obtain ⟨⟨h1,ao,cap,rfl,h2,h3⟩,-⟩:=h;refine ⟨ao,cap,rfl,fun hp=>?_⟩;obtain ⟨b,o,rfl,hb,hc⟩:=h3 hp;exact ⟨b,o,rfl,hb,fun k hk=>(hc k (by omega)).trans (yasw hk)⟩
def allL (f:List Int→Bool) (ls:List (Value×List Int)):Bool:=decide (∀ k (h:k < ls.length),f ls[k].2=true)
theorem zur {f:List Int→Bool} {ls:List (Value×List Int)} (h:∀ k (h:k < ls.length),f ls[k].2=true):allL f ls=true:=decide_eq_true h
theorem zkn {f:List Int→Bool} {ls:List (Value×List Int)} {k:Nat} (hk:k < ls.length) (h:f ls[k].2=false):allL f ls=false:=decide_eq_false (fun x=>by have:=x k hk;rw[h] at this;cases this)
theorem yaow (f:List Int→Bool) (v:Value) (zs:List Int):allL f [(v,zs)]=f zs:=by
 cases e:f zs with
 | true =>
  refine zur (fun k hk=>?_)
  have h0:k=0:=by simpa using hk
  subst h0;exact e
 | false=>exact zkn (k:=0) (by simp) e
theorem yanh (f:List Int→Bool) (v u:Value) (zs gs:List Int):allL f [(v,zs),(u,gs)]=(f zs && f gs):=by
 cases e:f zs with
 | true =>
  cases e2:f gs with
  | true=>exact zur (fun k hk=>by
    have:k=0∨k=1:=by simp at hk;omega
    rcases this with rfl | rfl
    ·exact e
    ·exact e2)
  | false=>exact zkn (k:=1) (by simp) e2
 | false=>exact zkn (k:=0) (by simp) e
def yape (zs:List Int):Bool:=decide (zs.length≤4096)
theorem yani (v:Value) (ls:List (Value×List Int)) (w:World) (h:RdL w v ls) (hn:ls.length≤1048576) :
  Calls Tryz.prog 90 #[v,.func (.func 31) #[] #[]] w fun e w'=>e=.returned (.bool (allL yape ls))∧w'=w:=by
 have LC:=zaa (fun k (hk:k < ls.length)=>zei ls[k].1 ls[k].2 w (h.2 k hk).1 (h.2 k hk).2);have LS:=zaa (fun k (hk:k < ls.length)=>(h.2 k hk).1.shape);obtain ⟨ao,cap,rfl,hc⟩:=h.shape;clear h;go_enter Tryz.func90,Tryz.ntmps90;go_wp2
 go_loop [6,9] (fun _ i=>∃ k:Nat,k≤ls.length∧i=.int .i64 k∧Hid (∀ j (h:j < ls.length),j < k→yape ls[j].2=true)) (fun _ i=>ls.length - (intOf i).toNat)
 case atStart=>exact ⟨0,by omega,rfl,fun j h a=>absurd a (by omega)⟩
 case round =>
  obtain ⟨k,hk,rfl,H⟩:=hrel
  by_cases hlt:k < ls.length
  ·obtain ⟨b,o,rfl,hbl,hcell⟩:=hc (by omega);have hck:=hcell k hlt;have C:=zaa (LC.o k hlt);obtain ⟨a1,c1,e1,-⟩:=LS.o k hlt;rw[e1] at hck C;clear hcell hc LC LS
   by_cases q:yape ls[k].2=true
   ·have q2:=zaa q;clear q;go_wp2_with (go_at_call 31;refine C.o.mono ?_;rw[show decide (ls[k].2.length≤4096)=true from q2.o];rintro e w' ⟨rfl,rfl⟩)
    go_round
    case rel =>
     refine ⟨k+1,by omega,by go_num,fun j h a=>?_⟩
     by_cases e:j=k
     ·subst e;exact q2.o
     ·exact H.o j h (by omega)
    case measure=>simp[intOf];omega
   ·have q':yape ls[k].2=false:=by simpa using q
    have q2:=zaa q';have E:=zaa (zkn hlt q');clear q q';go_wp2_with (go_at_call 31;refine C.o.mono ?_;rw[show decide (ls[k].2.length≤4096)=false from q2.o];rintro e w' ⟨rfl,rfl⟩);go_ret;exact ⟨zae E.o.symm,rfl⟩
  ·have E:=zaa (zur (fun j h=>H.o j h (by omega)));clear H;go_wp2;go_ret;exact ⟨zae E.o.symm,rfl⟩
theorem zqq (v:Value) (ls:List (Value×List Int)) (w:World) (h:RdL w v ls) (hn:ls.length≤1048576) :
  Calls Tryz.prog 90 #[v,.func (.func 91) #[] #[]] w fun e w'=>e=.returned (.bool (allL zaw ls))∧w'=w:=by
 have LC:=zaa (fun k (hk:k < ls.length)=>zvv ls[k].1 ls[k].2 w (h.2 k hk).1 (h.2 k hk).2);have LS:=zaa (fun k (hk:k < ls.length)=>(h.2 k hk).1.shape);obtain ⟨ao,cap,rfl,hc⟩:=h.shape;clear h;go_enter Tryz.func90,Tryz.ntmps90;go_wp2
 go_loop [6,9] (fun _ i=>∃ k:Nat,k≤ls.length∧i=.int .i64 k∧Hid (∀ j (h:j < ls.length),j < k→zaw ls[j].2=true)) (fun _ i=>ls.length - (intOf i).toNat)
 case atStart=>exact ⟨0,by omega,rfl,fun j h a=>absurd a (by omega)⟩
 case round =>
  obtain ⟨k,hk,rfl,H⟩:=hrel
  by_cases hlt:k < ls.length
  ·obtain ⟨b,o,rfl,hbl,hcell⟩:=hc (by omega);have hck:=hcell k hlt;have C:=zaa (LC.o k hlt);obtain ⟨a1,c1,e1,-⟩:=LS.o k hlt;rw[e1] at hck C;clear hcell hc LC LS
   by_cases q:zaw ls[k].2=true
   ·have q2:=zaa q;clear q;go_wp2_with (go_at_call 91;refine C.o.mono ?_;rw[show zaw ls[k].2=true from q2.o];rintro e w' ⟨rfl,rfl⟩)
    go_round
    case rel =>
     refine ⟨k+1,by omega,by go_num,fun j h a=>?_⟩
     by_cases e:j=k
     ·subst e;exact q2.o
     ·exact H.o j h (by omega)
    case measure=>simp[intOf];omega
   ·have q':zaw ls[k].2=false:=by simpa using q
    have q2:=zaa q';have E:=zaa (zkn hlt q');clear q q';go_wp2_with (go_at_call 91;refine C.o.mono ?_;rw[show zaw ls[k].2=false from q2.o];rintro e w' ⟨rfl,rfl⟩);go_ret;exact ⟨zae E.o.symm,rfl⟩
  ·have E:=zaa (zur (fun j h=>H.o j h (by omega)));clear H;go_wp2;go_ret;exact ⟨zae E.o.symm,rfl⟩
def cfC (ws:List Int) (ps:List St) (es:List Int) (qs:List Se) (hs:List Int) (td:List Mi) (cd vl:Int) (nm:List ByteArray) (fr:Bool) (ls:List (Value×List Int)):Int:=if fsB ws ps es qs hs td cd vl nm fr=true then (if allL zaw ls=true then 0 else 4) else 1
theorem zja (v:Value) (ws:List Int) (ps:List St) (es:List Int) (qs:List Se) (hs:List Int) (td:List Mi) (cd vl:Int) (nm:List ByteArray) (fr:Bool) (vC:Value) (ls:List (Value×List Int)) (w:World) (h:RdF w v ws ps es qs hs td cd vl nm fr) (hl:RdL w vC ls) (hws:ws.length≤1048576) (hps:ps.length≤1048576) (hes:es.length≤1048576) (hqs:qs.length≤1048576) (hhs:hs.length≤1048576) (htd:td.length≤1048576) (hnm:nm.length≤1048576) (hn:ls.length≤1048576) (hS:SB w) (hT:TS w) (hE:ED w) (hF:FD w) :
  Calls Tryz.prog 47 #[v,vC] w fun e w'=>e=.returned (.int .i64 (cfC ws ps es qs hs td cd vl nm fr ls))∧Below w.heap.size w w':=by
 have LFS:=zaa (fun w1 (hb:Below w.heap.size w w1)=>zna v ws ps es qs hs td cd vl nm fr w1 (h.below hb) hws hps hes hqs hhs htd hnm (hS.below hb) (hT.below hb) (hE.below hb) (hF.below hb));have L2:=zaa (fun w1 (hb:Below w.heap.size w w1)=>zqq vC ls w1 (hl.below hb) hn);obtain ⟨ao,cap,rfl,-⟩:=hl.shape;obtain ⟨aW,cW,aP,cP,aS,cS,aQ,cQ,aH,cH,aT,cT,aN,cN,rfl,-⟩:=id h;clear h hl hS hT hE hF
 obtain ⟨V,hV⟩:∃ V,V=w.alloc (.cells #[.slice aW ws.length cW,.slice aP ps.length cP,.slice aS es.length cS,.slice aQ qs.length cQ,.slice aH hs.length cH,.slice aT td.length cT,.int .i64 cd,.int .i64 vl,.slice aN nm.length cN,.bool fr] 51):=⟨_,rfl⟩
 have B_V:Hid (Below w.heap.size w V):=by rw[hV];exact (Below.refl _ _).alloc (Nat.le_refl _) _
 have X_V:Hid (V.heap[w.heap.size]?=some (.cells #[.slice aW ws.length cW,.slice aP ps.length cP,.slice aS es.length cS,.slice aQ qs.length cQ,.slice aH hs.length cH,.slice aT td.length cT,.int .i64 cd,.int .i64 vl,.slice aN nm.length cN,.bool fr] 51 (0,0))):=by rw[hV];exact zag rfl
 by_cases c2:fsB ws ps es qs hs td cd vl nm fr=true
 ·simp only[c2] at LFS
  by_cases c3:allL zaw ls=true
  ·rw[c3] at L2;rw[show cfC ws ps es qs hs td cd vl nm fr ls=0 by unfold cfC;rw[if_pos c2,if_pos c3]];clear c2 c3;go_enter Tryz.func47,Tryz.ntmps47;go_upto_region 1 with fail;rw[← hV];clear hV;obtain ⟨c0_0,c0_1,c0_2,c0_3,c0_4,c0_5,c0_6,c0_7,c0_8,c0_9,-⟩:=zam X_V.o;go_wp2_with fail;refine (LFS.o V B_V.o).mono ?_;rintro e w1 ⟨rfl,hb⟩;clear c0_0 c0_1 c0_2 c0_3 c0_4 c0_5 c0_6 c0_7 c0_8 c0_9;have B1:=zaa (zab B_V.o hb B_V.o.size);clear hb;go_wp2_with fail;refine (L2.o w1 B1.o).mono ?_;rintro e w' ⟨rfl,hw'⟩;subst w';go_wp2;go_ret;exact ⟨rfl,B1.o⟩
  ·rw[show allL zaw ls=false by simpa using c3] at L2;rw[show cfC ws ps es qs hs td cd vl nm fr ls=4 by unfold cfC;rw[if_pos c2,if_neg c3]];clear c2 c3;go_enter Tryz.func47,Tryz.ntmps47;go_upto_region 1 with fail;rw[← hV];clear hV;obtain ⟨c0_0,c0_1,c0_2,c0_3,c0_4,c0_5,c0_6,c0_7,c0_8,c0_9,-⟩:=zam X_V.o;go_wp2_with fail;refine (LFS.o V B_V.o).mono ?_;rintro e w1 ⟨rfl,hb⟩;clear c0_0 c0_1 c0_2 c0_3 c0_4 c0_5 c0_6 c0_7 c0_8 c0_9;have B1:=zaa (zab B_V.o hb B_V.o.size);clear hb;go_wp2_with fail;refine (L2.o w1 B1.o).mono ?_;rintro e w' ⟨rfl,hw'⟩;subst w';go_wp2;go_ret;exact ⟨rfl,B1.o⟩
 ·simp only[show fsB ws ps es qs hs td cd vl nm fr=false by simpa using c2] at LFS;rw[show cfC ws ps es qs hs td cd vl nm fr ls=1 by unfold cfC;rw[if_neg c2]];clear c2;go_enter Tryz.func47,Tryz.ntmps47;go_upto_region 1 with fail;rw[← hV];clear hV;obtain ⟨c0_0,c0_1,c0_2,c0_3,c0_4,c0_5,c0_6,c0_7,c0_8,c0_9,-⟩:=zam X_V.o;go_wp2_with fail;refine (LFS.o V B_V.o).mono ?_;rintro e w1 ⟨rfl,hb⟩;clear c0_0 c0_1 c0_2 c0_3 c0_4 c0_5 c0_6 c0_7 c0_8 c0_9;have B1:=zaa (zab B_V.o hb B_V.o.size);clear hb;go_wp2;go_ret;exact ⟨rfl,B1.o⟩
theorem zgz (ao:Option Addr) (n cap:Nat) (w:World) :
  Calls Tryz.prog 49 #[.slice ao n cap] w fun e w'=>e=.returned (.func (.func 92) #[] #[.pointer (some ⟨w.heap.size,0,none⟩)])∧w'=w.alloc (.cells #[.slice ao n cap] 22):=by
 have hmf:∀ (fn:Fn) (first cap:Array Value) (w:World),(Instr.makeFunc fn first cap).run Tryz.prog w=.ok (.func fn first cap) w:=fun _ _ _ _=>rfl
 go_enter Tryz.func49,Tryz.ntmps49;go_wp2;go_ret;exact ⟨rfl,rfl⟩
theorem zcb {w:World} {b:Nat} {t:TypeId} {x:Value} (h:w.heap[b]?=some (.cells #[x] t (0,0))):w.cell? ⟨b,0,none⟩=some x∧w.frozen? ⟨b,0,none⟩=false:=⟨cell_of_one h,free_of_one h⟩
theorem yafo (aW aP aS aQ aZ:Option Addr) (cW cP cS cQ nZ cZ:Nat) (bK:Nat) (tK:TypeId) (ws:List Int) (ps:List St) (es:List Int) (qs:List Se) (Wn:List Int) (En:List Int) (d1 d2:Int) (w:World) (hK:w.heap[bK]?=some (.cells #[.slice aZ nZ cZ] tK (0,0)))
  (l1:∀ w1,Below w.heap.size w w1→Calls Tryz.prog 93 #[.agg #[.slice aW ws.length cW,.slice aP ps.length cP],.slice aZ nZ cZ] w1 fun e w'=>∃ v',e=.returned (.tuple #[v',.int .i64 d1])∧RowPm w' w1.heap.size w'.heap.size v' Wn []∧Below w1.heap.size w1 w')
  (l2:∀ w1,Below w.heap.size w w1→Calls Tryz.prog 94 #[.agg #[.slice aS es.length cS,.slice aQ qs.length cQ],.slice aZ nZ cZ] w1 fun e w'=>∃ v',e=.returned (.tuple #[v',.int .i64 d2])∧RowBlk w' w1.heap.size w'.heap.size v' En []∧Below w1.heap.size w1 w') :
  Calls Tryz.prog 92 #[.agg #[.slice aW ws.length cW,.slice aP ps.length cP,.slice aS es.length cS,.slice aQ qs.length cQ],.pointer (some ⟨bK,0,none⟩)] w fun e w'=>∃ v',e=.returned v'∧RowDev w' w.heap.size w'.heap.size v' Wn [] En []∧Below w.heap.size w w':=by
 have L1:=zaa l1;have L2:=zaa l2;clear l1 l2
 obtain ⟨Pn,hPn⟩:∃ Pn:List St,Pn=[]:=⟨_,rfl⟩
 obtain ⟨Qn,hQn⟩:∃ Qn:List Se,Qn=[]:=⟨_,rfl⟩
 rw[← hPn] at L1;rw[← hQn] at L2;rw[← hPn,← hQn];clear hPn hQn;have ltK:=zah hK
 obtain ⟨w0,hw0⟩:∃ w0:World,w0=(w.alloc (.cells #[.slice aW ws.length cW,.slice aP ps.length cP,.slice aS es.length cS,.slice aQ qs.length cQ] 45)).alloc (.cells #[.slice none 0 0,.slice none 0 0,.slice none 0 0,.slice none 0 0] 45):=⟨_,rfl⟩
 have B0:Hid (Below w.heap.size w w0):=by
  rw[hw0]
  repeat (refine Below.alloc ?_ (by simp <;> omega) _)
  exact Below.refl _ _
 have hz0:w.heap.size+2≤w0.heap.size:=by rw[hw0];simp
 have V0:Hid (w0.heap[w.heap.size]?=some (.cells #[.slice aW ws.length cW,.slice aP ps.length cP,.slice aS es.length cS,.slice aQ qs.length cQ] 45 (0,0))):=by rw[hw0];exact zal (zag rfl)
 have V1:Hid (w0.heap[w.heap.size+1]?=some (.cells #[.slice none 0 0,.slice none 0 0,.slice none 0 0,.slice none 0 0] 45 (0,0))):=by rw[hw0];exact zag (by simp)
 have K0:=zaa (zac hK B0.o ltK);clear hK;go_enter Tryz.func92,Tryz.ntmps92;go_upto_region 1 with fail;rw[← hw0];clear hw0;obtain ⟨x0,x1,x2,x3,-,-,-,-⟩:=zaf V0.o;obtain ⟨k0,-⟩:=zcb K0.o;go_wp2_with fail;refine (L1.o w0 B0.o).mono ?_;rintro e w1 ⟨v1,rfl,hr1,hb1⟩;obtain ⟨aW1,cW1,aP1,cP1,rfl⟩:=hr1.form;clear x0 x1 x2 x3 k0;have hz1:w0.heap.size≤w1.heap.size:=hb1.size;have Q1:=zaa hr1;have V0':=zaa (zac V0.o hb1 (by omega));have V1':=zaa (zac V1.o hb1 (by omega));have K1:=zaa (zac K0.o hb1 (by omega));have B1:=zaa (zab B0.o hb1 (by omega));clear hr1 hb1 V0 V1 K0 B0
 obtain ⟨w2,hw2⟩:∃ w2:World,w2=(w1.setCell ⟨w.heap.size,0,none⟩ (.slice aW1 Wn.length cW1)).setCell ⟨w.heap.size,1,none⟩ (.slice aP1 Pn.length cP1):=⟨_,rfl⟩
 have O2:Outside w.heap.size (w.heap.size+1) w1 w2:=by
  rw[hw2]
  repeat (refine Outside.setCell ?_ (by simp only;omega) (by simp only;omega) _)
  exact Outside.refl _ _ _
 have hz2:w1.heap.size≤w2.heap.size∧w2.heap.size≤w1.heap.size:=by rw[hw2];simp[World.setCell]
 have V2:Hid (w2.heap[w.heap.size]?=some (.cells #[.slice aW1 Wn.length cW1,.slice aP1 Pn.length cP1,.slice aS es.length cS,.slice aQ qs.length cQ] 45 (0,0))):=by rw[hw2];exact zmb V0'.o _ _
 have U2:=zaa ((O2.block (w.heap.size+1) (by omega) (by omega)).trans V1'.o);have K2:=zaa ((O2.block bK (by omega) (by omega)).trans K1.o);have Q2:=zaa (Q1.o.outside O2 (by omega) (Nat.le_refl _));have B2:=zaa (B1.o.trans (O2.below (B:=w.heap.size) (by omega) B1.o.size));obtain ⟨x0,x1,x2,x3,f0,f1,f2,f3⟩:=zaf V0'.o;go_upto_region 2 with fail;rw[← hw2];clear hw2 x0 x1 x2 x3 f0 f1 f2 f3 V0' V1' K1 B1 O2 Q1;obtain ⟨x0,x1,x2,x3,-,-,-,-⟩:=zaf V2.o;obtain ⟨k0,-⟩:=zcb K2.o;go_wp2_with fail;refine (L2.o w2 B2.o).mono ?_;rintro e w3 ⟨v2,rfl,hr2,hb2⟩;obtain ⟨aS2,cS2,aQ2,cQ2,rfl⟩:=hr2.form;clear x0 x1 x2 x3 k0;have hz3:w2.heap.size≤w3.heap.size:=hb2.size;have R3:=zaa hr2;have V3:=zaa (zac V2.o hb2 (by omega));have U3:=zaa (zac U2.o hb2 (by omega));have B3:=zaa (zab B2.o hb2 (by omega));have Q3:=zaa (Q2.o.below hb2 (by omega));clear hr2 hb2 V2 U2 K2 B2 Q2
 obtain ⟨w4,hw4⟩:∃ w4:World,w4=(w3.setCell ⟨w.heap.size,2,none⟩ (.slice aS2 En.length cS2)).setCell ⟨w.heap.size,3,none⟩ (.slice aQ2 Qn.length cQ2):=⟨_,rfl⟩
 have O4:Outside w.heap.size (w.heap.size+1) w3 w4:=by
  rw[hw4]
  repeat (refine Outside.setCell ?_ (by simp only;omega) (by simp only;omega) _)
  exact Outside.refl _ _ _
 have hz4:w3.heap.size≤w4.heap.size∧w4.heap.size≤w3.heap.size:=by rw[hw4];simp[World.setCell]
 have V4:Hid (w4.heap[w.heap.size]?=some (.cells #[.slice aW1 Wn.length cW1,.slice aP1 Pn.length cP1,.slice aS2 En.length cS2,.slice aQ2 Qn.length cQ2] 45 (0,0))):=by rw[hw4];exact zsm V3.o _ _
 have U4:=zaa ((O4.block (w.heap.size+1) (by omega) (by omega)).trans U3.o);have Q4:=zaa (Q3.o.outside O4 (by omega) (by omega));have R4:=zaa (R3.o.outside O4 (by omega) (Nat.le_refl _));have B4:=zaa (B3.o.trans (O4.below (B:=w.heap.size) (by omega) B3.o.size));obtain ⟨x0,x1,x2,x3,f0,f1,f2,f3⟩:=zaf V3.o;go_upto_region 3 with fail;rw[← hw4];clear hw4 x0 x1 x2 x3 f0 f1 f2 f3 V3 U3 B3 O4 Q3 R3;obtain ⟨x0,x1,x2,x3,-,-,-,-⟩:=zaf V4.o;obtain ⟨t0,t1,t2,t3,t4,t5,t6,t7⟩:=zaf U4.o;go_wp2;refine bodyPost_ret (v:=.agg #[.slice aW1 Wn.length cW1,.slice aP1 Pn.length cP1,.slice aS2 En.length cS2,.slice aQ2 Qn.length cQ2]) (by simp[results,Tryz.results92,go_sem,t0,t1,t2,t3]) rfl ?_;have O:=zbb w4 (w.heap.size+1) (.slice aW1 Wn.length cW1) (.slice aP1 Pn.length cP1) (.slice aS2 En.length cS2) (.slice aQ2 Qn.length cQ2);have Z:=zax w4 (w.heap.size+1) (.slice aW1 Wn.length cW1) (.slice aP1 Pn.length cP1) (.slice aS2 En.length cS2) (.slice aQ2 Qn.length cQ2);refine ⟨_,rfl,⟨_,_,_,_,w0.heap.size,w1.heap.size,w2.heap.size,w3.heap.size,rfl,?_,?_,by omega,Nat.le_trans (by omega) (Nat.le_of_eq Z.symm),by omega,Nat.le_trans (by omega) (Nat.le_of_eq Z.symm),.inl (by omega)⟩,?_⟩
 ·exact Q4.o.outside O (by omega) (by omega)
 ·exact R4.o.outside O (by omega) (by omega)
 ·exact B4.o.trans (O.below (by omega) (by omega))
theorem yaiq {ws:List Int} {ps:List St} {zs:List Int} (hp:pmB ws ps=true) (hk:zaw zs=true):kpW ws ps zs=cwW ws ps zs:=by
 have e:kpC ws ps zs=0:=by unfold kpC;rw[if_pos hp,if_pos hk]
 unfold kpW cwW;rw[if_pos e]
theorem yahy {es:List Int} {qs:List Se} {zs:List Int} (hp:zbp es qs=true) (hk:zaw zs=true):kbW es qs zs=cwE es qs zs:=by
 have e:kbC es qs zs=0:=by unfold kbC;rw[if_pos hp,if_pos hk]
 unfold kbW cwE;rw[if_pos e]
theorem zlm (v vZ:Value) (bK:Nat) (tK:TypeId) (ws:List Int) (ps:List St) (es:List Int) (qs:List Se) (zs:List Int) (w:World) (h:RdDev w v ws ps es qs) (hz:RdI w vZ zs) (hK:w.heap[bK]?=some (.cells #[vZ] tK (0,0))) (hG:NW w) (hws:ws.length≤1048576) (hps:ps.length≤1048576) (hes:es.length≤1048576) (hqs:qs.length≤1048576) (hzl:zs.length≤1048576) (hp:pmB ws ps=true) (hb:zbp es qs=true) (hk:zaw zs=true) :
  Calls Tryz.prog 92 #[v,.pointer (some ⟨bK,0,none⟩)] w fun e w'=>∃ v',e=.returned v'∧RowDev w' w.heap.size w'.heap.size v' (cwW ws ps zs) [] (cwE es qs zs) []∧Below w.heap.size w w':=by
 obtain ⟨aW,cW,aP,cP,aS,cS,aQ,cQ,rfl,r1,r2⟩:=h.form;obtain ⟨aZ,cZ,rfl,-⟩:=hz.shape;refine yafo aW aP aS aQ aZ cW cP cS cQ zs.length cZ bK tK ws ps es qs _ _ (kpC ws ps zs) (kbC es qs zs) w hK (fun w1 h1=>?_) (fun w1 h1=>?_)
 ·rw[← yaiq hp hk];exact zqj _ _ ws ps zs w1 (r1.below h1) (Rd.below hz h1) hws hps (by omega)
 ·rw[← yahy hb hk];exact znk _ _ es qs zs w1 (r2.below h1) (Rd.below hz h1) (hG.below h1) hes hqs (by omega)
end Go.Proofs.YtahiphgmhndgaaaGreatDoor
