/- Which file systems are right: by the program. -/
import Derived.Test.YtbohndgbfbfldaaGreatDoorZBN
import Derived.Test.YtbohndgbfbfldaaGreatDoorZBQ
import Derived.Test.YtbohndgbfbfldaaGreatDoorZAB
import Derived.Test.YtbohndgbfbfldaaGreatDoorZAN
import Derived.Test.YtbohndgbfbfldaaGreatDoorZAP
import Derived.Test.YtbohndgbfbfldaaGreatDoorZAE
import Derived.Test.YtbohndgbfbfldaaGreatDoorZBJ
import Derived.Test.YtbohndgbfbfldaaGreatDoorZAF
import Derived.Test.YtbohndgbfbfldaaGreatDoorZBH
import Derived.Test.YtbohndgbfbfldaaGreatDoorJiA
import Derived.Deep.RegionHeld3
import Derived.BigRegion
import Derived.BigQuiet
import Derived.Deep.QuietTactic
import Derived.Deep.DeepCutAuto
set_option maxRecDepth 100000
set_option maxHeartbeats 8000000
namespace Go.Proofs.YtbohndgbfbfldaaGreatDoor
open Go.RowKit
theorem zji (c v:Int) (a:Option Addr) (nm:List ByteArray) (cap:Nat) (w:World) (_hn:nm.length≤1048576) :
  Calls Tryz.prog 90 #[.agg #[.int .i64 c,.int .i64 v,.slice a nm.length cap]] w fun e w'=>e=.returned (.bool (noA c v nm))∧Below w.heap.size w w':=by
 have BW:Hid (Below w.heap.size w (w.alloc (.cells #[.int .i64 c,.int .i64 v,.slice a nm.length cap] 34))):=(Below.refl _ _).alloc (Nat.le_refl _) _
 by_cases a1:c=0
 ·by_cases a2:v=0
  ·by_cases a3:nm.length=0
   ·have q:noA c v nm=true:=by unfold noA;rw[a1,a2,a3];rfl
    rw[q];clear q
    have a3':(nm.length:Int)=0:=by omega
    subst a1 a2;clear a3;go_enter Tryz.func90,Tryz.ntmps90;go_wp2;go_ret;exact ⟨zac (by first | rfl | exact decide_eq_false (by assumption) | exact decide_eq_false (by omega) | exact decide_eq_true (by omega)),BW.o⟩
   ·have q:noA c v nm=false:=by unfold noA;rw[a1,a2,decide_eq_false a3];rfl
    rw[q];clear q
    have a3':¬ (nm.length:Int)=0:=by omega
    subst a1 a2;clear a3;go_enter Tryz.func90,Tryz.ntmps90;go_wp2;go_ret;exact ⟨zac (by first | rfl | exact decide_eq_false (by assumption) | exact decide_eq_false (by omega) | exact decide_eq_true (by omega)),BW.o⟩
  ·have q:noA c v nm=false:=by unfold noA;rw[decide_eq_false a2];simp
   rw[q];clear q;subst a1;go_enter Tryz.func90,Tryz.ntmps90;go_wp2;go_ret;exact ⟨zac (by first | rfl | exact decide_eq_false (by assumption) | exact decide_eq_false (by omega) | exact decide_eq_true (by omega)),BW.o⟩
 ·have q:noA c v nm=false:=by unfold noA;rw[decide_eq_false a1];rfl
  rw[q];clear q;go_enter Tryz.func90,Tryz.ntmps90;go_wp2;go_ret;exact ⟨zac (by first | rfl | exact decide_eq_false (by assumption) | exact decide_eq_false (by omega) | exact decide_eq_true (by omega)),BW.o⟩
theorem zym (td:List Mi):misB td=td.all miB:=by
 apply Bool.eq_iff_iff.2;unfold misB;simp only[decide_eq_true_eq,List.all_eq_true];constructor
 ·intro h m hm;obtain ⟨j,hj,rfl⟩:=List.getElem_of_mem hm;exact h j hj
 ·intro h j hj;exact h _ (List.getElem_mem hj)
theorem zrx (v:Value) (ws:List Int) (ps:List St) (es:List Int) (qs:List Se) (hs:List Int) (td:List Mi) (cd vl:Int) (nm:List ByteArray) (fr:Bool) (w:World) (h:RdF w v ws ps es qs hs td cd vl nm fr) (hps:ps.length≤1048576) (hqs:qs.length≤1048576) (htd:td.length≤1048576) (hS:SB w) :
  Calls Tryz.prog 89 #[v] w fun e w'=>e=.returned (.bool (zrz ps qs td))∧Below w.heap.size w w':=by
 obtain ⟨aW,cW,aP,cP,aS,cS,aQ,cQ,aH,cH,aT,cT,aN,cN,rfl,-,-,t1,-⟩:=h
 obtain ⟨M,eM⟩:∃ M,M=td.all miB:=⟨_,rfl⟩
 have LE:Hid (∀ w1,Below w.heap.size w w1→Calls Tryz.prog 139 #[.slice aT td.length cT,.func (.func 140) #[] #[]] w1 fun e w'=>e=.returned (.bool M)∧Below w1.heap.size w1 w'):=fun w1 hb=>by rw[eM,← zym];exact zkg _ td w1 (hS.below hb) (Rd.below t1 hb) htd
 have FB:Hid (zrz ps qs td=(decide (td.length≤200) && (M && (decide (ps.length+td.length≤400) && decide (qs.length+td.length≤400))))):=by rw[eM];rfl
 generalize zrz ps qs td=r at *;clear t1 eM hS
 obtain ⟨V,hV⟩:∃ V,V=w.alloc (.cells #[.slice aW ws.length cW,.slice aP ps.length cP,.slice aS es.length cS,.slice aQ qs.length cQ,.slice aH hs.length cH,.slice aT td.length cT,.int .i64 cd,.int .i64 vl,.slice aN nm.length cN,.bool fr] 36):=⟨_,rfl⟩
 have BV:Hid (Below w.heap.size w V):=by rw[hV];exact (Below.refl _ _).alloc (Nat.le_refl _) _
 have XV:Hid (V.heap[w.heap.size]?=some (.cells #[.slice aW ws.length cW,.slice aP ps.length cP,.slice aS es.length cS,.slice aQ qs.length cQ,.slice aH hs.length cH,.slice aT td.length cT,.int .i64 cd,.int .i64 vl,.slice aN nm.length cN,.bool fr] 36 (0,0))):=by rw[hV];exact zah rfl
 have zV:w.heap.size < V.heap.size:=zay XV.o;go_enter Tryz.func89,Tryz.ntmps89;go_upto_region 1 with fail;rw[← hV];clear hV;have x5:=zwj XV.o
 by_cases c1:td.length≤200
 ·rw[decide_eq_true c1,Bool.true_and] at FB
  have c1':(td.length:Int)≤200:=by omega
  go_wp2_with fail;refine (LE.o V BV.o).mono ?_;rintro e w1 ⟨rfl,hb1⟩;have B1:=zaa (zab BV.o hb1 BV.o.size);have X1:=zaa (zag XV.o hb1 zV);clear hb1 x5 LE BV XV
  cases M with
  | false =>
   obtain rfl:=FB.o;clear FB X1;go_wp2;go_ret;exact ⟨zac (by first | rfl | exact decide_eq_false (by assumption) | exact decide_eq_false (by omega) | exact decide_eq_true (by omega)),B1.o⟩
  | true =>
   rw[Bool.true_and] at FB;have x5:=zwj X1.o;obtain ⟨x0,x1,x2,x3⟩:=zrp X1.o;clear X1
   by_cases c2:ps.length+td.length≤400
   ·rw[decide_eq_true c2,Bool.true_and] at FB
    have c2':(ps.length:Int)+(td.length:Int)≤400:=by omega
    by_cases c3:qs.length+td.length≤400
    ·rw[decide_eq_true c3] at FB;obtain rfl:=FB.o
     have c3':(qs.length:Int)+(td.length:Int)≤400:=by omega
     clear FB;go_wp2;go_ret;exact ⟨zac (by first | rfl | exact decide_eq_false (by assumption) | exact decide_eq_false (by omega) | exact decide_eq_true (by omega)),B1.o⟩
    ·rw[decide_eq_false c3] at FB;obtain rfl:=FB.o
     have c3':¬ (qs.length:Int)+(td.length:Int)≤400:=by omega
     clear FB;go_wp2;go_ret;exact ⟨zac (by first | rfl | exact decide_eq_false (by assumption) | exact decide_eq_false (by omega) | exact decide_eq_true (by omega)),B1.o⟩
   ·rw[decide_eq_false c2] at FB;obtain rfl:=FB.o
    have c2':¬ (ps.length:Int)+(td.length:Int)≤400:=by omega
    clear FB;go_wp2;go_ret;exact ⟨zac (by first | rfl | exact decide_eq_false (by assumption) | exact decide_eq_false (by omega) | exact decide_eq_true (by omega)),B1.o⟩
 ·rw[decide_eq_false c1] at FB;obtain rfl:=FB.o
  have c1':¬ (td.length:Int)≤200:=by omega
  clear FB LE XV;go_wp2;go_ret;exact ⟨zac (by first | rfl | exact decide_eq_false (by assumption) | exact decide_eq_false (by omega) | exact decide_eq_true (by omega)),BV.o⟩
theorem zpc (aW aP aS aQ:Option Addr) (n m p q cW cP cS cQ:Nat) (w:World) (hm:m≤1048576) (hq:q≤1048576) :
  Calls Tryz.prog 142 #[.agg #[.slice aW n cW,.slice aP m cP,.slice aS p cS,.slice aQ q cQ]] w fun e w'=>e=.returned (.bool (decide (m=0) && decide (q=0)))∧Below w.heap.size w w':=by
 have BW:Hid (Below w.heap.size w (w.alloc (.cells #[.slice aW n cW,.slice aP m cP,.slice aS p cS,.slice aQ q cQ] 30))):=(Below.refl _ _).alloc (Nat.le_refl _) _
 by_cases a1:m=0
 ·subst a1
  by_cases a2:q=0
  ·subst a2;go_enter Tryz.func142,Tryz.ntmps142;go_wp2;go_ret;exact ⟨zac (by first | rfl | exact decide_eq_false (by assumption) | exact decide_eq_false (by omega) | exact decide_eq_true (by omega)),BW.o⟩
  ·rw[decide_eq_false a2]
   have a2':¬ (q:Int)=0:=by omega
   go_enter Tryz.func142,Tryz.ntmps142;go_wp2;go_ret;exact ⟨zac (by first | rfl | exact decide_eq_false (by assumption) | exact decide_eq_false (by omega) | exact decide_eq_true (by omega)),BW.o⟩
 ·rw[decide_eq_false a1]
  have a1':¬ (m:Int)=0:=by omega
  go_enter Tryz.func142,Tryz.ntmps142;go_wp2;go_ret;exact ⟨zac (by first | rfl | exact decide_eq_false (by assumption) | exact decide_eq_false (by omega) | exact decide_eq_true (by omega)),BW.o⟩
theorem zdl (v:Value) (ws:List Int) (ps:List St) (w:World) (h:RdPm w v ws ps) (hw:ws.length≤1048576) (hp:ps.length≤1048576) (hok:pmB ws ps=true) :
  Calls Tryz.prog 141 #[v] w fun e w'=>∃ a c:Int,e=.returned (.tuple #[.int .i64 a,.int .i64 c])∧(ps.length=0→(a=0∧c=0↔ldW ws ps 8=0))∧Below w.heap.size w w':=by
 have hl8:8 < ws.length:=by rw[yaam hok];decide
 have LP:Hid (∀ w1,Below w.heap.size w w1→Calls Tryz.prog 135 #[v] w1 fun e w'=>e=.returned (.bool true)∧Below w1.heap.size w1 w'):=fun w1 hb=>by rw[← hok];exact zcd v ws ps w1 (h.below hb) hw hp
 have EL:Hid (ps.length=0→ldW ws ps 8=ws[8]):=fun e=>by
  obtain rfl:=List.length_eq_zero_iff.1 e;rw[zzz hl8];rfl
 obtain ⟨vW,vP,rfl,h1,h2⟩:=h;obtain ⟨aW,cW,rfl,_,hcW⟩:=h1.shape;obtain ⟨aP,cP,rfl,_⟩:=h2.shape;obtain ⟨b,o,rfl,hbl,hcell⟩:=hcW (by omega);have d8:=hcell 8 hl8
 have hlt:(8:Int) < (ws.length:Int):=by omega
 have hb0:Below w.heap.size w (w.alloc (.cells #[.slice (some ⟨b,o,none⟩) ws.length cW,.slice aP ps.length cP] 25)):=(Below.refl _ _).alloc (Nat.le_refl _) _;generalize ws[8]=n at *;clear h1 h2 hcW hcell hok;go_enter Tryz.func141,Tryz.ntmps141;go_wp2_with fail;refine (LP.o _ hb0).mono ?_;rintro e w1 ⟨rfl,hb1⟩;have B1:=zaa (zab hb0 hb1 (by simp));have d8':=(B1.o.cell (p:=⟨b,o+8,none⟩) hbl).trans d8;obtain ⟨x1,x2,-,-⟩:=zae ((hb1.block w.heap.size (by simp)).trans (zah rfl));clear hb0 hb1 d8 LP
 by_cases c:16 < n
 ·go_wp2;go_ret2;exact ⟨0,3,rfl,fun e=>by rw[EL.o e];constructor <;> intro q <;> omega,B1.o⟩
 ·go_wp2;go_ret2;exact ⟨n,0,rfl,fun e=>by rw[EL.o e];constructor <;> intro q <;> omega,B1.o⟩
theorem znb (v:Value) (ws:List Int) (ps:List St) (es:List Int) (qs:List Se) (w:World) (h:RdDev w v ws ps es qs) (hok:(pmB ws ps && zir es qs)=true) (hws:ws.length≤1048576) (hps:ps.length≤1048576) (hes:es.length≤1048576) (hqs:qs.length≤1048576) (hT:TS w) (hE:ED w) (hF:FD w) :
  Calls Tryz.prog 91 #[v] w fun e w'=>e=.returned (.bool (znn ws ps es qs))∧Below w.heap.size w w':=by
 obtain ⟨aW,cW,aP,cP,aS,cS,aQ,cQ,rfl,-,-⟩:=h.form;have hok':=hok;simp only[Bool.and_eq_true] at hok';have LJ:=zaa (fun w1 (hb:Below w.heap.size w w1)=>zdl _ ws ps w1 (zvn (h.below hb)) hws hps hok'.1);have LA:=zaa (fun w1=>zpc aW aP aS aQ ws.length ps.length es.length qs.length cW cP cS cQ w1 hps hqs);have LS:=zaa (fun w1 (hb:Below w.heap.size w w1)=>zko _ ws ps es qs w1 (h.below hb) hws hps hes hqs (hT.below hb) (hE.below hb) (hF.below hb));have LI:=zaa (fun v1 w1 (hb:Below w.heap.size w w1) (hr:RdIm w1 v1 (dvN ws ps es qs) (dvD ws ps es qs))=>zcn v1 (dvN ws ps es qs) (dvD ws ps es qs) w1 hr (zzu ws ps es qs).1 (zzu ws ps es qs).2 (hT.below hb) (hE.below hb) (hF.below hb) dv_R yacu);rw[yade] at LI;have FB:Hid (znn ws ps es qs=(dvB ws ps es qs && (decide (ps.length=0) && (decide (qs.length=0) && decide (ldW ws ps 8=0))))):=rfl;generalize znn ws ps es qs=r at *;generalize dvB ws ps es qs=d at *;generalize dvN ws ps es qs=dn at *;generalize dvD ws ps es qs=dd at *;generalize ldW ws ps 8=jc at *;clear h hok hok' hT hE hF
 obtain ⟨V,hV⟩:∃ V,V=w.alloc (.cells #[.slice aW ws.length cW,.slice aP ps.length cP,.slice aS es.length cS,.slice aQ qs.length cQ] 30):=⟨_,rfl⟩
 have BV:Hid (Below w.heap.size w V):=by rw[hV];exact (Below.refl _ _).alloc (Nat.le_refl _) _
 have XV:Hid (V.heap[w.heap.size]?=some (.cells #[.slice aW ws.length cW,.slice aP ps.length cP,.slice aS es.length cS,.slice aQ qs.length cQ] 30 (0,0))):=by rw[hV];exact zah rfl
 have zV:w.heap.size < V.heap.size:=zay XV.o;go_enter Tryz.func91,Tryz.ntmps91;go_upto_region 1 with fail;rw[← hV];clear hV;obtain ⟨x0,x1,x2,x3,-⟩:=zav XV.o;go_wp2_with fail;refine (LJ.o V BV.o).mono ?_;rintro e w1 ⟨ja,jb,rfl,hj,hb1⟩;have B1:=zaa (zab BV.o hb1 BV.o.size);have X1:=zaa (zag XV.o hb1 zV);have z1:w.heap.size < w1.heap.size:=Nat.lt_of_lt_of_le zV hb1.size;have HJ:=zaa hj;clear hb1 x0 x1 x2 x3 LJ BV XV hj;obtain ⟨x0,x1,x2,x3,-⟩:=zav X1.o;go_wp2_with fail;refine (LA.o w1).mono ?_
 by_cases a1:ps.length=0
 ·by_cases a2:qs.length=0
  ·rw[decide_eq_true a1,decide_eq_true a2];rintro e w2 ⟨rfl,hb2⟩;have B2:=zaa (zab B1.o hb2 B1.o.size);have X2:=zaa (zag X1.o hb2 z1);have z2:w.heap.size < w2.heap.size:=Nat.lt_of_lt_of_le z1 hb2.size;have IJ:=zaa (HJ.o a1)
   have q:r=(d && decide (jc=0)):=by rw[FB.o,decide_eq_true a1,decide_eq_true a2];rfl
   clear hb2 x0 x1 x2 x3 LA B1 X1 HJ FB a1 a2;obtain ⟨x0,x1,x2,x3,-⟩:=zav X2.o
   by_cases b1:ja=0
   ·subst b1
    by_cases b2:jb=0
    ·subst b2;have ej:jc=0:=IJ.o.1 ⟨rfl,rfl⟩;rw[decide_eq_true ej,Bool.and_true] at q;subst q;clear IJ ej;go_wp2_with fail;refine (LS.o w2 B2.o).mono ?_;rintro e w3 ⟨v3,rfl,hr3,hb3⟩;have B3:=zaa (zab B2.o hb3 B2.o.size);have R3:=zaa hr3.rd;obtain ⟨vA,vB,rfl,⟨-,ia,ic,rfl,-⟩,⟨-,ib,id,rfl,-⟩⟩:=hr3.rd;clear hr3 hb3 x0 x1 x2 x3 LS B2 X2;go_wp2_with fail;refine (LI.o _ w3 B3.o R3.o).mono ?_;rintro e w4 ⟨rfl,hb4⟩;have B4:=zaa (zab B3.o hb4 B3.o.size);clear hb4 LI R3 B3;go_wp2;go_ret;exact ⟨zac (by first | rfl | exact decide_eq_false (by assumption) | exact decide_eq_false (by omega) | exact decide_eq_true (by omega)),B4.o⟩
    ·have ej:¬ jc=0:=fun e=>b2 (IJ.o.2 e).2
     rw[decide_eq_false ej,Bool.and_false] at q;subst q;clear IJ ej LS LI X2;go_wp2;go_ret;exact ⟨zac (by first | rfl | exact decide_eq_false (by assumption) | exact decide_eq_false (by omega) | exact decide_eq_true (by omega)),B2.o⟩
   ·have ej:¬ jc=0:=fun e=>b1 (IJ.o.2 e).1
    rw[decide_eq_false ej,Bool.and_false] at q;subst q;clear IJ ej LS LI X2;go_wp2;go_ret;exact ⟨zac (by first | rfl | exact decide_eq_false (by assumption) | exact decide_eq_false (by omega) | exact decide_eq_true (by omega)),B2.o⟩
  ·have q:r=false:=by rw[FB.o,decide_eq_false a2];simp
   rw[decide_eq_false a2,Bool.and_false];rintro e w2 ⟨rfl,hb2⟩;have B2:=zaa (zab B1.o hb2 B1.o.size);subst q;clear hb2 LA LS LI FB HJ X1;go_wp2;go_ret;exact ⟨zac (by first | rfl | exact decide_eq_false (by assumption) | exact decide_eq_false (by omega) | exact decide_eq_true (by omega)),B2.o⟩
 ·have q:r=false:=by rw[FB.o,decide_eq_false a1];simp
  rw[decide_eq_false a1,Bool.false_and];rintro e w2 ⟨rfl,hb2⟩;have B2:=zaa (zab B1.o hb2 B1.o.size);subst q;clear hb2 LA LS LI FB HJ X1;go_wp2;go_ret;exact ⟨zac (by first | rfl | exact decide_eq_false (by assumption) | exact decide_eq_false (by omega) | exact decide_eq_true (by omega)),B2.o⟩
theorem zma (v:Value) (ws:List Int) (ps:List St) (es:List Int) (qs:List Se) (hs:List Int) (td:List Mi) (cd vl:Int) (nm:List ByteArray) (fr:Bool) (w:World) (h:RdF w v ws ps es qs hs td cd vl nm fr) (hws:ws.length≤1048576) (hps:ps.length≤1048576) (hes:es.length≤1048576) (hqs:qs.length≤1048576) (hhs:hs.length≤1048576) (htd:td.length≤1048576) (hnm:nm.length≤1048576) (hS:SB w) (hT:TS w) (hE:ED w) (hF:FD w) :
  Calls Tryz.prog 38 #[v] w fun e w'=>e=.returned (.bool (fsB ws ps es qs hs td cd vl nm fr))∧Below w.heap.size w w':=by
 have HR:=zaa h;obtain ⟨aW,cW,aP,cP,aS,cS,aQ,cQ,aH,cH,aT,cT,aN,cN,rfl,d1,h1,-,-⟩:=h
 obtain ⟨D,eD⟩:∃ D,D=(pmB ws ps && zir es qs):=⟨_,rfl⟩
 obtain ⟨H,eH⟩:∃ H,H=zgu hs:=⟨_,rfl⟩
 have LD:Hid (∀ w1,Below w.heap.size w w1→Calls Tryz.prog 87 #[.agg #[.slice aW ws.length cW,.slice aP ps.length cP,.slice aS es.length cS,.slice aQ qs.length cQ]] w1 fun e w'=>e=.returned (.bool D)∧Below w1.heap.size w1 w'):=fun w1 hb=>by rw[eD];exact zfq _ ws ps es qs w1 (d1.below hb) hws hps hes hqs
 have LH:Hid (∀ w1,Below w.heap.size w w1→Calls Tryz.prog 88 #[.slice aH hs.length cH] w1 fun e w'=>e=.returned (.bool H)∧w'=w1):=fun w1 hb=>by rw[eH];exact ziw _ hs w1 (Rd.below h1 hb) hhs
 have LT:=zaa (fun w1 (hb:Below w.heap.size w w1)=>zrx _ ws ps es qs hs td cd vl nm fr w1 (HR.o.below hb) hps hqs htd (hS.below hb));have LN:=zaa (fun w1=>zji cd vl aN nm cN w1 hnm)
 have LR:Hid (D=true→∀ w1,Below w.heap.size w w1→Calls Tryz.prog 91 #[.agg #[.slice aW ws.length cW,.slice aP ps.length cP,.slice aS es.length cS,.slice aQ qs.length cQ]] w1 fun e w'=>e=.returned (.bool (znn ws ps es qs))∧Below w1.heap.size w1 w'):=fun hD w1 hb=>znb _ ws ps es qs w1 (d1.below hb) (eD.symm.trans hD) hws hps hes hqs (hT.below hb) (hE.below hb) (hF.below hb)
 have FB:Hid (fsB ws ps es qs hs td cd vl nm fr=(D && (H && (zrz ps qs td && ((fr || noA cd vl nm) && (decide (0 < td.length) || znn ws ps es qs)))))):=by rw[eD,eH];rfl
 generalize fsB ws ps es qs hs td cd vl nm fr=r at *;generalize zrz ps qs td=tb at *;generalize noA cd vl nm=na at *;generalize znn ws ps es qs=rb at *;clear eD eH d1 h1 hS hT hE hF HR
 obtain ⟨V,hV⟩:∃ V,V=w.alloc (.cells #[.slice aW ws.length cW,.slice aP ps.length cP,.slice aS es.length cS,.slice aQ qs.length cQ,.slice aH hs.length cH,.slice aT td.length cT,.int .i64 cd,.int .i64 vl,.slice aN nm.length cN,.bool fr] 36):=⟨_,rfl⟩
 have BV:Hid (Below w.heap.size w V):=by rw[hV];exact (Below.refl _ _).alloc (Nat.le_refl _) _
 have XV:Hid (V.heap[w.heap.size]?=some (.cells #[.slice aW ws.length cW,.slice aP ps.length cP,.slice aS es.length cS,.slice aQ qs.length cQ,.slice aH hs.length cH,.slice aT td.length cT,.int .i64 cd,.int .i64 vl,.slice aN nm.length cN,.bool fr] 36 (0,0))):=by rw[hV];exact zah rfl
 have zV:w.heap.size < V.heap.size:=zay XV.o;go_enter Tryz.func38,Tryz.ntmps38;go_upto_region 1 with fail;rw[← hV];clear hV;obtain ⟨x0,x1,x2,x3⟩:=zrp XV.o;go_wp2_with fail;refine (LD.o V BV.o).mono ?_;rintro e w1 ⟨rfl,hb1⟩;have B1:=zaa (zab BV.o hb1 BV.o.size);have X1:=zaa (zag XV.o hb1 zV);have z1:w.heap.size < w1.heap.size:=Nat.lt_of_lt_of_le zV hb1.size;clear hb1 x0 x1 x2 x3 LD BV XV
 cases D with
 | false =>
  obtain rfl:=FB.o;clear FB LH LR LT LN X1;go_wp2;go_ret;exact ⟨zac (by first | rfl | exact decide_eq_false (by assumption) | exact decide_eq_false (by omega) | exact decide_eq_true (by omega)),B1.o⟩
 | true =>
 have x4:=tenH X1.o;go_wp2_with fail;refine (LH.o w1 B1.o).mono ?_;rintro e w' ⟨rfl,hw'⟩;subst w';clear LH x4
 cases H with
 | false =>
  obtain rfl:=FB.o;clear FB LR LT LN X1;go_wp2;go_ret;exact ⟨zac (by first | rfl | exact decide_eq_false (by assumption) | exact decide_eq_false (by omega) | exact decide_eq_true (by omega)),B1.o⟩
 | true =>
 obtain ⟨x0,x1,x2,x3,x4,x5,x6,x7,x8,x9,-⟩:=zbb X1.o;go_wp2_with fail;refine (LT.o w1 B1.o).mono ?_;rintro e w2 ⟨rfl,hb2⟩;have B2:=zaa (zab B1.o hb2 B1.o.size);have X2:=zaa (zag X1.o hb2 z1);have z2:w.heap.size < w2.heap.size:=Nat.lt_of_lt_of_le z1 hb2.size;clear hb2 x0 x1 x2 x3 x4 x5 x6 x7 x8 x9 LT B1 X1
 cases tb with
 | false =>
  obtain rfl:=FB.o;clear FB LR LN X2;go_wp2;go_ret;exact ⟨zac (by first | rfl | exact decide_eq_false (by assumption) | exact decide_eq_false (by omega) | exact decide_eq_true (by omega)),B2.o⟩
 | true =>
 simp only[Bool.true_and] at FB;have x9:=tenB X2.o
 cases fr with
 | true =>
  simp only[Bool.true_or,Bool.true_and] at FB;clear LN;go_upto_region 5 with fail;clear x9;have x5:=zwj X2.o
  by_cases c:0 < td.length
  ·rw[decide_eq_true c,Bool.true_or] at FB;obtain rfl:=FB.o
   have c':(0:Int) < (td.length:Int):=by omega
   clear FB LR X2;go_wp2;go_ret;exact ⟨zac (by first | rfl | exact decide_eq_false (by assumption) | exact decide_eq_false (by omega) | exact decide_eq_true (by omega)),B2.o⟩
  ·rw[decide_eq_false c,Bool.false_or] at FB;obtain rfl:=FB.o
   have c':¬ (0:Int) < (td.length:Int):=by omega
   obtain ⟨x0,x1,x2,x3⟩:=zrp X2.o;go_wp2_with fail;refine (LR.o (by simp) w2 B2.o).mono ?_;rintro e w4 ⟨rfl,hb4⟩;have B4:=zaa (zab B2.o hb4 B2.o.size);clear hb4 x0 x1 x2 x3 x5 LR B2 X2 FB;go_wp2;go_ret;exact ⟨zac (by first | rfl | exact decide_eq_false (by assumption) | exact decide_eq_false (by omega) | exact decide_eq_true (by omega)),B4.o⟩
 | false =>
 simp only[Bool.false_or] at FB;obtain ⟨x6,x7,x8⟩:=tenA X2.o;go_wp2_with fail;refine (LN.o w2).mono ?_;rintro e w3 ⟨rfl,hb3⟩;have B3:=zaa (zab B2.o hb3 B2.o.size);have X3:=zaa (zag X2.o hb3 z2);have z3:w.heap.size < w3.heap.size:=Nat.lt_of_lt_of_le z2 hb3.size;clear hb3 x6 x7 x8 x9 LN B2 X2
 cases na with
 | false =>
  obtain rfl:=FB.o;clear FB LR X3;go_wp2;go_ret;exact ⟨zac (by first | rfl | exact decide_eq_false (by assumption) | exact decide_eq_false (by omega) | exact decide_eq_true (by omega)),B3.o⟩
 | true =>
 simp only[Bool.true_and] at FB;go_upto_region 5 with fail;have x5:=zwj X3.o
 by_cases c:0 < td.length
 ·rw[decide_eq_true c,Bool.true_or] at FB;obtain rfl:=FB.o
  have c':(0:Int) < (td.length:Int):=by omega
  clear FB LR X3;go_wp2;go_ret;exact ⟨zac (by first | rfl | exact decide_eq_false (by assumption) | exact decide_eq_false (by omega) | exact decide_eq_true (by omega)),B3.o⟩
 ·rw[decide_eq_false c,Bool.false_or] at FB;obtain rfl:=FB.o
  have c':¬ (0:Int) < (td.length:Int):=by omega
  obtain ⟨x0,x1,x2,x3⟩:=zrp X3.o;go_wp2_with fail;refine (LR.o (by simp) w3 B3.o).mono ?_;rintro e w4 ⟨rfl,hb4⟩;have B4:=zaa (zab B3.o hb4 B3.o.size);clear hb4 x0 x1 x2 x3 x5 LR B3 X3 FB;go_wp2;go_ret;exact ⟨zac (by first | rfl | exact decide_eq_false (by assumption) | exact decide_eq_false (by omega) | exact decide_eq_true (by omega)),B4.o⟩
end Go.Proofs.YtbohndgbfbfldaaGreatDoor
