/- Several texts laid together: FqD, DtD. -/
import Derived.Test.YtbohndgbfbfldaaGreatDoorFqC
import Derived.Test.YtbohndgbfbfldaaGreatDoorZAY
import Derived.Test.YtbohndgbfbfldaaGreatDoorDtC
import Derived.Test.YtbohndgbfbfldaaGreatDoorZAN
import Derived.Test.YtbohndgbfbfldaaGreatDoorZBJ
import Derived.Test.YtbohndgbfbfldaaGreatDoorRdD
set_option maxRecDepth 100000
set_option maxHeartbeats 8000000
namespace Go.Proofs.YtbohndgbfbfldaaGreatDoor
open Go.RowKit
theorem zvn {w:World} {aW aP aS aQ:Option Addr} {cW cP cS cQ:Nat} {ws:List Int} {ps:List St} {es:List Int} {qs:List Se} (h:RdDev w (.agg #[.slice aW ws.length cW,.slice aP ps.length cP,.slice aS es.length cS,.slice aQ qs.length cQ]) ws ps es qs):RdPm w (.agg #[.slice aW ws.length cW,.slice aP ps.length cP]) ws ps:=by
 obtain ⟨_,_,_,_,e,p1,_⟩:=h
 cases e
 exact p1
def noA (cd vl:Int) (nm:List ByteArray):Bool:=decide (cd=0) && (decide (vl=0) && decide (nm.length=0))
def znn (ws:List Int) (ps:List St) (es:List Int) (qs:List Se):Bool:=dvB ws ps es qs && (decide (ps.length=0) && (decide (qs.length=0) && decide (ldW ws ps 8=0)))
def zrz (ps:List St) (qs:List Se) (td:List Mi):Bool:=decide (td.length≤200) && (td.all miB && (decide (ps.length+td.length≤400) && decide (qs.length+td.length≤400)))
def fsB (ws:List Int) (ps:List St) (es:List Int) (qs:List Se) (hs:List Int) (td:List Mi) (cd vl:Int) (nm:List ByteArray) (fr:Bool):Bool:=(pmB ws ps && zir es qs) && (zgu hs && (zrz ps qs td && ((fr || noA cd vl nm) && (decide (0 < td.length) || znn ws ps es qs))))
theorem zmf (v:Value) (ws:List Int) (ps:List St) (es:List Int) (qs:List Se) (hs:List Int) (td:List Mi) (cd vl:Int) (nm:List ByteArray) (fr:Bool) (w:World) (h:RdF w v ws ps es qs hs td cd vl nm fr) (hws:ws.length≤1048576) (hps:ps.length≤1048576) (hes:es.length≤1048576) (hqs:qs.length≤1048576) (hhs:hs.length≤1048576) (htd:td.length≤1048576) (_hnm:nm.length≤1048576) :
  Calls Tryz.prog 31 #[v] w fun e w'=>e=.returned (.bool (fsB ws ps es qs hs td cd vl nm fr))∧Below w.heap.size w w':=by
 obtain ⟨aW,cW,aP,cP,aS,cS,aQ,cQ,aH,cH,aT,cT,aN,cN,rfl,d1,h1,t1,n1⟩:=h
 obtain ⟨D,eD⟩:∃ D,D=(pmB ws ps && zir es qs):=⟨_,rfl⟩
 obtain ⟨H,eH⟩:∃ H,H=zgu hs:=⟨_,rfl⟩
 obtain ⟨rc,erc⟩:∃ rc,rc=riC ws ps:=⟨_,rfl⟩
 obtain ⟨jc,ejc⟩:∃ jc,jc=ldW ws ps 8:=⟨_,rfl⟩
 have LD:Hid (∀ w1,Below w.heap.size w w1→Calls Tryz.prog 72 #[.agg #[.slice aW ws.length cW,.slice aP ps.length cP,.slice aS es.length cS,.slice aQ qs.length cQ]] w1 fun e w'=>e=.returned (.bool D)∧Below w1.heap.size w1 w'):=fun w1 hb=>by rw[eD];exact zgc _ ws ps es qs w1 (d1.below hb) hws hps hes hqs
 have LH:Hid (∀ w1,Below w.heap.size w w1→Calls Tryz.prog 73 #[.slice aH hs.length cH] w1 fun e w'=>e=.returned (.bool H)∧w'=w1):=fun w1 hb=>by rw[eH];exact zjk _ hs w1 (Rd.below h1 hb) hhs
 have LR:Hid (∀ w1,Below w.heap.size w w1→Calls Tryz.prog 75 #[.agg #[.slice aW ws.length cW,.slice aP ps.length cP]] w1 fun e w'=>∃ a b c d f g,e=.returned (.tuple #[.agg #[.slice a b c,.slice d f g],.int .i64 rc])∧Below w1.heap.size w1 w'):=fun w1 hb=>by
  have p1:=zvn (d1.below hb);rw[erc];refine (zfz _ ws ps w1 p1 hws hps).mono ?_;rintro e w2 ⟨v2,rfl,hr,hb2⟩;obtain ⟨vA,vB,rfl,⟨-,a,c,rfl,-⟩,⟨-,d,g,rfl,-⟩⟩:=hr.rd;exact ⟨a,_,c,d,_,g,rfl,hb2⟩
 have LJ:Hid (D=true→∀ w1,Below w.heap.size w w1→Calls Tryz.prog 76 #[.agg #[.slice aW ws.length cW,.slice aP ps.length cP]] w1 fun e w'=>e=.returned (.int .i64 jc)∧Below w1.heap.size w1 w'):=fun hD w1 hb=>by
  have p1:=zvn (d1.below hb);rw[ejc];rw[eD] at hD;simp only[Bool.and_eq_true] at hD;exact zmu _ ws ps w1 p1 hws hps (by rw[yaam hD.1];decide)
 have RT:=zaa t1
 have FB:Hid (fsB ws ps es qs hs td cd vl nm fr=(D && (H && (zrz ps qs td && ((fr || noA cd vl nm) && (decide (0 < td.length) || (decide (rc=0) && (decide (ps.length=0) && (decide (qs.length=0) && decide (jc=0)))))))))):=by
  unfold fsB znn;rw[← eD,← eH,← ejc]
  cases hD:D with
  | false=>rfl
  | true =>
   have:=(zvk (eD.symm.trans hD)).1;rw[this,erc];rfl
 generalize fsB ws ps es qs hs td cd vl nm fr=r at *;clear eD eH erc ejc d1 h1 t1 n1
 obtain ⟨V,hV⟩:∃ V,V=w.alloc (.cells #[.slice aW ws.length cW,.slice aP ps.length cP,.slice aS es.length cS,.slice aQ qs.length cQ,.slice aH hs.length cH,.slice aT td.length cT,.int .i64 cd,.int .i64 vl,.slice aN nm.length cN,.bool fr] 36):=⟨_,rfl⟩
 have BV:Hid (Below w.heap.size w V):=by rw[hV];exact (Below.refl _ _).alloc (Nat.le_refl _) _
 have XV:Hid (V.heap[w.heap.size]?=some (.cells #[.slice aW ws.length cW,.slice aP ps.length cP,.slice aS es.length cS,.slice aQ qs.length cQ,.slice aH hs.length cH,.slice aT td.length cT,.int .i64 cd,.int .i64 vl,.slice aN nm.length cN,.bool fr] 36 (0,0))):=by rw[hV];exact zah rfl
 have zV:w.heap.size < V.heap.size:=zay XV.o;go_enter Tryz.func31,Tryz.ntmps31;go_upto_region 1 with fail;rw[← hV];clear hV;obtain ⟨x0,x1,x2,x3⟩:=zrp XV.o;go_wp2_with fail;refine (LD.o V BV.o).mono ?_;rintro e w1 ⟨rfl,hb1⟩;have B1:=zaa (zab BV.o hb1 BV.o.size);have X1:=zaa (zag XV.o hb1 zV);have z1:w.heap.size < w1.heap.size:=Nat.lt_of_lt_of_le zV hb1.size;clear hb1 x0 x1 x2 x3 LD BV XV
 cases D with
 | false =>
  obtain rfl:=FB.o;clear FB LH LR LJ RT X1;go_wp2;go_ret;exact ⟨rfl,B1.o⟩
 | true =>
 have x4:=tenH X1.o;go_wp2_with fail;refine (LH.o w1 B1.o).mono ?_;rintro e w' ⟨rfl,hw'⟩;subst w';clear LH x4
 cases H with
 | false =>
  obtain rfl:=FB.o;clear FB LR LJ RT X1;go_wp2;go_ret;exact ⟨rfl,B1.o⟩
 | true =>
 have x5:=zwj X1.o
 by_cases cL:200 < td.length
 ·have q:zrz ps qs td=false:=by unfold zrz;rw[decide_eq_false (by omega)];rfl
  rw[q] at FB;obtain rfl:=FB.o;clear FB LR LJ RT X1 q
  have cL':(200:Int) < (td.length:Int):=by omega
  go_wp2;go_ret;exact ⟨rfl,B1.o⟩
 have hl:td.length≤200:=by omega
 have cL':¬ (200:Int) < (td.length:Int):=by omega
 clear cL;go_wp2_with fail
 go_loopw [3] (fun i wq=>∃ k:Nat,k≤td.length∧i=.int .i64 k∧Hid (∀ j (hj:j < td.length),j < k→miB td[j]=true)∧Hid (Below w.heap.size w wq)∧Hid (wq.heap[w.heap.size]?=some (.cells #[.slice aW ws.length cW,.slice aP ps.length cP,.slice aS es.length cS,.slice aQ qs.length cQ,.slice aH hs.length cH,.slice aT td.length cT,.int .i64 cd,.int .i64 vl,.slice aN nm.length cN,.bool fr] 36 (0,0)))∧w.heap.size < wq.heap.size) (fun i _=>td.length - (intOf i).toNat)
 case atStart=>exact ⟨0,by omega,rfl,fun j _ h=>absurd h (by omega),B1,X1,z1⟩
 case round =>
  obtain ⟨k,hk,rfl,G,B,X,z⟩:=hrel;clear B1 X1 x5 z1;have x5:=zwj X.o
  by_cases hlt:k < td.length
  ·have hlt':(k:Int) < (td.length:Int):=by omega
   have hge:(0:Int)≤(k:Int):=by omega
   obtain ⟨-,ao,cap,e,-,hc⟩:=Rd.below RT.o B.o
   cases e
   obtain ⟨b,o,rfl,hbl,hcl⟩:=hc (by omega);have c0:=(hcl (k*3) (by omega)).trans (zkv td k hlt);have c1:=(hcl (k*3+1) (by omega)).trans (zkk td k hlt);have c2:=(hcl (k*3+2) (by omega)).trans (zlc td k hlt);rw[← Nat.add_assoc] at c1 c2;have LM:=zaa (fun w1=>znt td[k] w1)
   obtain ⟨mb,emb⟩:∃ mb,mb=miB td[k]:=⟨_,rfl⟩
   rw[← emb] at LM
   have AL:Hid (mb=false→zrz ps qs td=false):=fun q=>by
    unfold zrz
    have:td.all miB=false:=by
     apply Bool.eq_false_iff.2;intro h;have:=List.all_eq_true.1 h td[k] (List.getElem_mem hlt);rw[← emb,q] at this
     cases this
    rw[this];simp
   have GG:Hid (mb=true→∀ j (hj:j < td.length),j < k+1→miB td[j]=true):=fun q j hj hjk=>by
    by_cases e:j=k
    ·subst e;rw[← emb];exact q
    ·exact G.o j hj (by omega)
   rw[show Mi.v td[k]=.agg #[.int .i64 td[k].kind,.int .i64 td[k].at_,.int .i64 td[k].val] from rfl] at LM;generalize td[k]=m at *;clear hc hcl G emb;go_wp2_with fail;refine (LM.o wr).mono ?_;rintro e w2 ⟨rfl,hb2⟩;have B2:=zaa (zab B.o hb2 B.o.size);have X2:=zaa (zag X.o hb2 z);have z2:w.heap.size < w2.heap.size:=Nat.lt_of_lt_of_le z hb2.size;clear hb2 c0 c1 c2 x5 B X LM
   cases mb with
   | false =>
    have q:=AL.o (by simp);rw[q] at FB;obtain rfl:=FB.o;clear FB LR LJ RT X2 q;go_wp2;go_ret;exact ⟨rfl,B2.o⟩
   | true =>
    go_wp2
    go_roundw
    case rel=>exact ⟨k+1,by omega,by go_num,GG.o (by simp),B2,X2,z2⟩
    case measure=>simp[intOf];omega
  ·have hlt':¬ (k:Int) < (td.length:Int):=by omega
   have TA:td.all miB=true:=List.all_eq_true.2 (fun m hm=>by
    obtain ⟨j,hj,rfl⟩:=List.getElem_of_mem hm
    exact G.o j hj (by omega))
   have TB:Hid (zrz ps qs td=(decide (ps.length+td.length≤400) && decide (qs.length+td.length≤400))):=by unfold zrz;rw[TA,decide_eq_true hl];rfl
   rw[TB.o] at FB;clear TB TA G RT;simp only[Bool.true_and] at FB;go_upto_region 8 with fail;obtain ⟨x6,x7,x8⟩:=tenA X.o;have x9:=tenB X.o
   have PX:Hid (¬ fr=true→¬ (cd=0∧vl=0∧nm.length=0)→r=false):=fun q1 q2=>by
    rw[FB.o]
    have:(fr || noA cd vl nm)=false:=by
     unfold noA;simp only[Bool.or_eq_false_iff];refine ⟨by simpa using q1,?_⟩;apply Bool.eq_false_iff.2;intro h;simp only[Bool.and_eq_true,decide_eq_true_eq] at h;exact q2 ⟨h.1,h.2.1,h.2.2⟩
    rw[this];simp
   have PY:Hid ((fr=true∨(cd=0∧vl=0∧nm.length=0))→r=((decide (ps.length+td.length≤400) && decide (qs.length+td.length≤400)) && (decide (0 < td.length) || (decide (rc=0) && (decide (ps.length=0) && (decide (qs.length=0) && decide (jc=0))))))):=fun q=>by
    rw[FB.o]
    have:(fr || noA cd vl nm)=true:=by
     unfold noA
     rcases q with q | ⟨q1,q2,q3⟩
     ·rw[q];rfl
     ·rw[q1,q2,q3];simp
    rw[this,Bool.true_and]
   clear FB;have REST:Hid (r=r):=rfl
   by_cases cF:fr=true
   ·subst cF;have FB:=zaa (PY.o (.inl rfl));clear PX PY;go_upto_region 10 with fail;clear x6 x7 x8 x9;obtain ⟨x0,x1,x2,x3⟩:=zrp X.o
    by_cases e1:400 < ps.length+td.length
    ·have q:r=false:=by rw[FB.o,decide_eq_false (p:=ps.length+td.length≤400) (by omega)];rfl
     subst q;clear FB LR LJ X
     have e1':(400:Int) < (ps.length:Int)+(td.length:Int):=by omega
     go_wp2;go_ret;exact ⟨rfl,B.o⟩
    have e1':¬ (400:Int) < (ps.length:Int)+(td.length:Int):=by omega
    by_cases e2:400 < qs.length+td.length
    ·have q:r=false:=by rw[FB.o,decide_eq_false (p:=qs.length+td.length≤400) (by omega)];simp
     subst q;clear FB LR LJ X
     have e2':(400:Int) < (qs.length:Int)+(td.length:Int):=by omega
     go_wp2;go_ret;exact ⟨rfl,B.o⟩
    have e2':¬ (400:Int) < (qs.length:Int)+(td.length:Int):=by omega
    rw[decide_eq_true (p:=ps.length+td.length≤400) (by omega),decide_eq_true (p:=qs.length+td.length≤400) (by omega)] at FB;simp only[Bool.true_and] at FB
    by_cases e3:0 < td.length
    ·have q:r=true:=by rw[FB.o,decide_eq_true e3];rfl
     subst q;clear FB LR LJ X
     have e3':(0:Int) < (td.length:Int):=by omega
     go_wp2;go_ret;exact ⟨rfl,B.o⟩
    have e3':¬ (0:Int) < (td.length:Int):=by omega
    rw[decide_eq_false e3] at FB;simp only[Bool.false_or] at FB;go_wp2_with fail;refine (LR.o wr B.o).mono ?_;rintro e w2 ⟨ia,ib,ic,id,ie,ig,rfl,hb2⟩;have B2:=zaa (zab B.o hb2 B.o.size);have X2:=zaa (zag X.o hb2 z);have z2:w.heap.size < w2.heap.size:=Nat.lt_of_lt_of_le z hb2.size;clear hb2 x0 x1 x2 x3 x5 B X LR
    obtain ⟨w3,hw3⟩:∃ w3,w3=w2.alloc (.cells #[.slice ia ib ic,.slice id ie ig] 123):=⟨_,rfl⟩
    have hb3:Below w2.heap.size w2 w3:=by rw[hw3];exact (Below.refl _ _).alloc (Nat.le_refl _) _
    have B3:=zaa (zab B2.o hb3 B2.o.size);have X3:=zaa (zag X2.o hb3 z2);go_upto_region 15 with fail;rw[← hw3];clear hw3 hb3 B2 X2;obtain ⟨x0,x1,x2,x3⟩:=zrp X3.o
    by_cases f1:rc=0
    ·subst f1
     by_cases f2:ps.length=0
     ·have f2':(ps.length:Int)=0:=by omega
      by_cases f3:qs.length=0
      ·have f3':(qs.length:Int)=0:=by omega
       have q:r=decide (jc=0):=by rw[FB.o,decide_eq_true f2,decide_eq_true f3];rfl
       clear FB f2 f3;go_wp2_with fail;refine (LJ.o (by simp) w3 B3.o).mono ?_;rintro e w4 ⟨rfl,hb4⟩;have B4:=zaa (zab B3.o hb4 B3.o.size);clear hb4 B3 X3 x0 x1 x2 x3 LJ;subst q;go_wp2;go_ret;exact ⟨rfl,B4.o⟩
      ·have q:r=false:=by rw[FB.o,decide_eq_false f3];simp
       subst q
       have f3':¬ (qs.length:Int)=0:=by omega
       clear FB LJ X3;go_wp2;go_ret;exact ⟨rfl,B3.o⟩
     ·have q:r=false:=by rw[FB.o,decide_eq_false f2];simp
      subst q
      have f2':¬ (ps.length:Int)=0:=by omega
      clear FB LJ X3;go_wp2;go_ret;exact ⟨rfl,B3.o⟩
    ·have q:r=false:=by rw[FB.o,decide_eq_false f1];rfl
     subst q;clear FB LJ X3;go_wp2;go_ret;exact ⟨rfl,B3.o⟩
   have cF':fr=false:=by simpa using cF
   by_cases a1:cd=0
   ·by_cases a2:vl=0
    ·by_cases a3:nm.length=0
     ·have FB:=zaa (PY.o (.inr ⟨a1,a2,a3⟩));clear PX PY;subst a1 a2 cF'
      have a3':(nm.length:Int)=0:=by omega
      go_upto_region 10 with fail;clear x6 x7 x8 x9 a3 a3' REST;obtain ⟨x0,x1,x2,x3⟩:=zrp X.o
      by_cases e1:400 < ps.length+td.length
      ·have q:r=false:=by rw[FB.o,decide_eq_false (p:=ps.length+td.length≤400) (by omega)];rfl
       subst q;clear FB LR LJ X
       have e1':(400:Int) < (ps.length:Int)+(td.length:Int):=by omega
       go_wp2;go_ret;exact ⟨rfl,B.o⟩
      have e1':¬ (400:Int) < (ps.length:Int)+(td.length:Int):=by omega
      by_cases e2:400 < qs.length+td.length
      ·have q:r=false:=by rw[FB.o,decide_eq_false (p:=qs.length+td.length≤400) (by omega)];simp
       subst q;clear FB LR LJ X
       have e2':(400:Int) < (qs.length:Int)+(td.length:Int):=by omega
       go_wp2;go_ret;exact ⟨rfl,B.o⟩
      have e2':¬ (400:Int) < (qs.length:Int)+(td.length:Int):=by omega
      rw[decide_eq_true (p:=ps.length+td.length≤400) (by omega),decide_eq_true (p:=qs.length+td.length≤400) (by omega)] at FB;simp only[Bool.true_and] at FB
      by_cases e3:0 < td.length
      ·have q:r=true:=by rw[FB.o,decide_eq_true e3];rfl
       subst q;clear FB LR LJ X
       have e3':(0:Int) < (td.length:Int):=by omega
       go_wp2;go_ret;exact ⟨rfl,B.o⟩
      have e3':¬ (0:Int) < (td.length:Int):=by omega
      rw[decide_eq_false e3] at FB;simp only[Bool.false_or] at FB;go_wp2_with fail;refine (LR.o wr B.o).mono ?_;rintro e w2 ⟨ia,ib,ic,id,ie,ig,rfl,hb2⟩;have B2:=zaa (zab B.o hb2 B.o.size);have X2:=zaa (zag X.o hb2 z);have z2:w.heap.size < w2.heap.size:=Nat.lt_of_lt_of_le z hb2.size;clear hb2 x0 x1 x2 x3 x5 B X LR
      obtain ⟨w3,hw3⟩:∃ w3,w3=w2.alloc (.cells #[.slice ia ib ic,.slice id ie ig] 123):=⟨_,rfl⟩
      have hb3:Below w2.heap.size w2 w3:=by rw[hw3];exact (Below.refl _ _).alloc (Nat.le_refl _) _
      have B3:=zaa (zab B2.o hb3 B2.o.size);have X3:=zaa (zag X2.o hb3 z2);go_upto_region 15 with fail;rw[← hw3];clear hw3 hb3 B2 X2;obtain ⟨x0,x1,x2,x3⟩:=zrp X3.o
      by_cases f1:rc=0
      ·subst f1
       by_cases f2:ps.length=0
       ·have f2':(ps.length:Int)=0:=by omega
        by_cases f3:qs.length=0
        ·have f3':(qs.length:Int)=0:=by omega
         have q:r=decide (jc=0):=by rw[FB.o,decide_eq_true f2,decide_eq_true f3];rfl
         clear FB f2 f3;go_wp2_with fail;refine (LJ.o (by simp) w3 B3.o).mono ?_;rintro e w4 ⟨rfl,hb4⟩;have B4:=zaa (zab B3.o hb4 B3.o.size);clear hb4 B3 X3 x0 x1 x2 x3 LJ;subst q;go_wp2;go_ret;exact ⟨rfl,B4.o⟩
        ·have q:r=false:=by rw[FB.o,decide_eq_false f3];simp
         subst q
         have f3':¬ (qs.length:Int)=0:=by omega
         clear FB LJ X3;go_wp2;go_ret;exact ⟨rfl,B3.o⟩
       ·have q:r=false:=by rw[FB.o,decide_eq_false f2];simp
        subst q
        have f2':¬ (ps.length:Int)=0:=by omega
        clear FB LJ X3;go_wp2;go_ret;exact ⟨rfl,B3.o⟩
      ·have q:r=false:=by rw[FB.o,decide_eq_false f1];rfl
       subst q;clear FB LJ X3;go_wp2;go_ret;exact ⟨rfl,B3.o⟩
     ·obtain rfl:=PX.o cF (fun q=>a3 q.2.2);subst a1 a2 cF'
      have a3':¬ (nm.length:Int)=0:=by omega
      clear PX PY LR LJ X;go_wp2;go_ret;exact ⟨rfl,B.o⟩
    ·obtain rfl:=PX.o cF (fun q=>a2 q.2.1);subst a1 cF';clear PX PY LR LJ X;go_wp2;go_ret;exact ⟨rfl,B.o⟩
   ·obtain rfl:=PX.o cF (fun q=>a1 q.1);subst cF';clear PX PY LR LJ X;go_wp2;go_ret;exact ⟨rfl,B.o⟩
theorem zqo {ws:List Int} {ps:List St} {es:List Int} {qs:List Se} (h:dvB ws ps es qs=true):pmB ws ps=true∧zir es qs=true∧dvN ws ps es qs=zaz (zbk ws ps) 16∧dvD ws ps es qs=zbc (zbk ws ps) 24∧zew (zaz (zbk ws ps) 16) (zbc (zbk ws ps) 24)=true:=by
 have q:=h;unfold dvB at q;rw[Bool.and_eq_true,Bool.and_eq_true] at q;obtain ⟨⟨a,b⟩,r⟩:=q;unfold riB at r;rw[Bool.and_eq_true,Bool.and_eq_true] at r;exact ⟨a,b,by unfold dvN;rw[if_pos h],by unfold dvD;rw[if_pos h],r.2.2⟩
end Go.Proofs.YtbohndgbfbfldaaGreatDoor
