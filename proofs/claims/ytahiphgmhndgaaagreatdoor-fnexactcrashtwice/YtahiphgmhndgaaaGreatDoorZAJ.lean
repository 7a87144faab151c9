/- Several texts laid together: ImB, UpL, ImD, ImH, ImE, ImF, ImJ, PiA, PiB. -/
import Derived.Test.YtahiphgmhndgaaaGreatDoorZAI
import Derived.Test.YtahiphgmhndgaaaGreatDoorZAB
import Derived.Deep.RegionHeld3
import Derived.Laws.OwnMore
import Derived.Deep.RegionWith
import Derived.Test.YtahiphgmhndgaaaGreatDoorZAA
import Derived.Test.YtahiphgmhndgaaaGreatDoorZAC
set_option maxRecDepth 100000
set_option maxHeartbeats 2000000
namespace Go.Proofs.YtahiphgmhndgaaaGreatDoor
open Go.RowKit
def entB (i:Nat) (z size:Int):Bool:=zjk z && (z == 0 || decide ((i:Int) < size))
def yair (zs:List Int) (size:Int) (k:Nat):Prop:=∀ i,i < k→entB i (zs.getD i 0) size=true
def mapB (zs:List Int) (size:Int):Bool:=(List.range 8).all fun i=>entB i (zs.getD i 0) size
theorem yaju {zs:List Int} {size:Int} (h:yair zs size 8):mapB zs size=true:=by
 unfold mapB;rw[List.all_eq_true];intro i hi;exact h i (List.mem_range.1 hi)
theorem ztu {zs:List Int} {size:Int} (h:mapB zs size=true):yair zs size 8:=by
 unfold mapB at h;rw[List.all_eq_true] at h;intro i hi;exact h i (List.mem_range.2 hi)
theorem yaqh {zs:List Int} {size:Int} {k:Nat} (hk:k < 8) (h:entB k (zs.getD k 0) size=false):mapB zs size=false:=by
 rw[Bool.eq_false_iff];intro e;rw[ztu e k hk] at h;exact absurd h (by decide)
theorem yagu {zs:List Int} {size:Int} {k:Nat} (h:yair zs size k) (g:entB k (zs.getD k 0) size=true):yair zs size (k+1):=by
 intro i hi
 by_cases e:i=k
 ·rw[e];exact g
 ·exact h i (by omega)
def zlh (x:Ino):Bool:=if x.kind=0 then decide (x.size=0∧x.links=0∧x.map=[0,0,0,0,0,0,0,0]) else if x.kind=2 then x.size == 0 && x.links == 1 else decide (0 < x.links)
def zit (x:Ino):Bool:=decide (0≤x.kind∧x.kind≤2) && (decide (0≤x.size∧x.size≤8) && (decide (0≤x.links∧x.links≤24) && (mapB x.map x.size && zlh x)))
def Ino.R (x:Ino):Prop:=∀ z∈x.map,-9223372036854775808≤z∧z≤9223372036854775807
theorem Ino.len (x:Ino):x.map.length=8:=rfl
theorem Ino.at (x:Ino) (k:Nat) (hk:k < 8):x.cs[3+k]?=some (.int .i64 (x.map.getD k 0)):=by
 rcases (show k=0∨k=1∨k=2∨k=3∨k=4∨k=5∨k=6∨k=7 by omega) with rfl | rfl | rfl | rfl | rfl | rfl | rfl | rfl <;> rfl
theorem Ino.R.at {x:Ino} (h:x.R) (k:Nat) (hk:k < 8):-9223372036854775808≤x.map.getD k 0∧x.map.getD k 0≤9223372036854775807:=by
 have e:x.map.getD k 0=x.map[k]'(by rw[x.len];exact hk):=by rw[List.getD_eq_getElem?_getD,List.getElem?_eq_getElem (by rw[x.len];exact hk)];rfl
 rw[e];exact h _ (List.getElem_mem _)
@[go_sem] theorem yawd (m0 m1 m2 m3 m4 m5 m6 m7:Int) (w:World):(Op.equalIn 9999 185 (.agg #[.int .i64 m0,.int .i64 m1,.int .i64 m2,.int .i64 m3,.int .i64 m4,.int .i64 m5,.int .i64 m6,.int .i64 m7]) (.agg #[.int .i64 0,.int .i64 0,.int .i64 0,.int .i64 0,.int .i64 0,.int .i64 0,.int .i64 0,.int .i64 0])).run Tryz.prog w=.ok (decide ([m0,m1,m2,m3,m4,m5,m6,m7]=[0,0,0,0,0,0,0,0])) w:=by
 have u3:=Tryz.underlying3;have a3:=Tryz.isAgg3;have z3:=Tryz.sizeOf3;rw[show (9999:Nat)=9998+1 from rfl,Op.equalIn];simp only[Sem.run_bind,run_underlying Tryz.underlying185,Result.andThen_ok];simp only[Std.Legacy.Range.forIn_eq_forIn_range',Std.Legacy.Range.size,Nat.sub_zero,Nat.add_sub_cancel,Nat.div_one,List.range'_succ,List.range'_zero,List.forIn_cons,List.forIn_nil];go_simp
 by_cases h0:m0=0
 case neg=>simp[h0]
 by_cases h1:m1=0
 case neg=>simp[h0,h1]
 by_cases h2:m2=0
 case neg=>simp[h0,h1,h2]
 by_cases h3:m3=0
 case neg=>simp[h0,h1,h2,h3]
 by_cases h4:m4=0
 case neg=>simp[h0,h1,h2,h3,h4]
 by_cases h5:m5=0
 case neg=>simp[h0,h1,h2,h3,h4,h5]
 by_cases h6:m6=0
 case neg=>simp[h0,h1,h2,h3,h4,h5,h6]
 by_cases h7:m7=0
 case neg=>simp[h0,h1,h2,h3,h4,h5,h6,h7]
 simp[h0,h1,h2,h3,h4,h5,h6,h7]
theorem zyl (x:Ino) (w:World) (hr:x.R):Calls Tryz.prog 155 #[x.v] w fun e w'=>e=.returned (.bool (zit x))∧Below w.heap.size w w':=by
 have hv:x.v=.agg x.cs.toArray:=rfl;have c0:(w.alloc (.cells x.cs.toArray 187)).cell? ⟨w.heap.size,0,none⟩=some (.int .i64 x.kind):=(zbe (xs:=x.cs) (zag rfl) 0).1;have c1:(w.alloc (.cells x.cs.toArray 187)).cell? ⟨w.heap.size,1,none⟩=some (.int .i64 x.size):=(zbe (xs:=x.cs) (zag rfl) 1).1;have c2:(w.alloc (.cells x.cs.toArray 187)).cell? ⟨w.heap.size,2,none⟩=some (.int .i64 x.links):=(zbe (xs:=x.cs) (zag rfl) 2).1;have CM:=zaa (show ∀ k,k < 8→(w.alloc (.cells x.cs.toArray 187)).cell? ⟨w.heap.size,3+k,none⟩=some (.int .i64 (x.map.getD k 0)) from fun k hk=>((zbe (xs:=x.cs) (zag rfl) (3+k)).1).trans (x.at k hk));have B:=zaa ((Below.refl w.heap.size w).alloc (Nat.le_refl _) (.cells x.cs.toArray 187));rw[hv]
 by_cases h0:0≤x.kind∧x.kind≤2
 ·by_cases h1:0≤x.size∧x.size≤8
  ·by_cases h2:0≤x.links∧x.links≤24
   ·have E:=zaa (show zit x=(mapB x.map x.size && zlh x) by unfold zit;rw[decide_eq_true h0,decide_eq_true h1,decide_eq_true h2];rfl);have H:=zaa (And.intro h0 (And.intro h1 h2));clear h0 h1 h2;go_enter Tryz.func155,Tryz.ntmps155;go_wp2_with fail;refine (zaz _ _ _ _ H.o.1).mono ?_;rintro e w' ⟨rfl,rfl⟩;go_wp2_with fail;refine (zaz _ _ _ _ H.o.2.1).mono ?_;rintro e w' ⟨rfl,rfl⟩;go_wp2_with fail;refine (zaz _ _ _ _ H.o.2.2).mono ?_;rintro e w' ⟨rfl,rfl⟩;go_wp2
    obtain ⟨wa,hwa⟩:∃ wa,wa=w.alloc (.cells x.cs.toArray 187):=⟨_,rfl⟩
    rw[← hwa] at c0 c1 c2 CM B ⊢;have CA:=zaa (show ∀ j,wa.cell? ⟨w.heap.size,j,none⟩=x.cs[j]? by rw[hwa];exact fun j=>(zbe (xs:=x.cs) (zag rfl) j).1);clear hwa
    go_loopw [3] (fun i wr=>∃ k:Nat,k≤8∧i=.int .i64 k∧wr=wa∧Hid (yair x.map x.size k)) (fun i _=>8 - (intOf i).toNat)
    case atStart=>exact ⟨0,by omega,rfl,rfl,fun i hi=>absurd hi (by omega)⟩
    case round =>
     obtain ⟨k,hk,rfl,rfl,M⟩:=hrel
     by_cases hlt:k < 8
     ·have c3:=CM.o k hlt;obtain ⟨r0,r1⟩:=hr.at k hlt
      have k0:(0:Int)≤(k:Int):=by omega
      have k1:(k:Int) < 8:=by omega
      have MN:=zaa (fun e=>yaqh (zs:=x.map) (size:=x.size) hlt e);have MS:=zaa (fun e=>yagu (k:=k) M.o e);generalize x.map.getD k 0=z at c3 r0 r1 MN MS;clear CM CA M
      cases ht:zjk z with
      | false =>
       have F:=zaa (show zit x=false by rw[E.o,MN.o (by unfold entB;rw[ht];rfl),Bool.false_and]);have T:=zaa ht;clear ht MN MS E;go_wp2_with fail;refine (zen _ _ r0 r1).mono ?_;rintro e w' ⟨rfl,rfl⟩;rw[T.o];go_wp2;go_ret;exact ⟨zae F.o.symm,B.o⟩
      | true =>
       by_cases hz:z=0
       ·have q:(z != 0)=false:=by rw[hz];rfl
        have G:=zaa (MS.o (by unfold entB;rw[ht,hz];rfl));have T:=zaa ht;clear ht MN MS hz;go_wp2_with fail;refine (zen _ _ r0 r1).mono ?_;rintro e w' ⟨rfl,rfl⟩;rw[T.o];go_wp2
        go_roundw
        case rel=>exact ⟨k+1,by omega,by go_num,trivial,G⟩
        case measure=>simp[intOf];omega
       ·have q:(z != 0)=true:=by rw[bne_iff_ne];exact hz
        have qz:(z == 0)=false:=by rw[beq_eq_false_iff_ne];exact hz
        by_cases hs:(k:Int) < x.size
        ·have q2:¬ x.size≤(k:Int):=by omega
         have G:=zaa (MS.o (by unfold entB;rw[ht,qz,decide_eq_true hs];rfl));have T:=zaa ht;clear ht MN MS hz hs qz;go_wp2_with fail;refine (zen _ _ r0 r1).mono ?_;rintro e w' ⟨rfl,rfl⟩;rw[T.o];go_wp2
         go_roundw
         case rel=>exact ⟨k+1,by omega,by go_num,trivial,G⟩
         case measure=>simp[intOf];omega
        ·have q2:x.size≤(k:Int):=by omega
         have F:=zaa (show zit x=false by rw[E.o,MN.o (by unfold entB;rw[ht,qz,decide_eq_false hs];rfl),Bool.false_and]);have T:=zaa ht;clear ht MN MS hz hs qz E;go_wp2_with fail;refine (zen _ _ r0 r1).mono ?_;rintro e w' ⟨rfl,rfl⟩;rw[T.o];go_wp2;go_ret;exact ⟨zae F.o.symm,B.o⟩
     ·obtain rfl:k=8:=by omega
      have F:=zaa (show zit x=zlh x by rw[E.o,yaju M.o,Bool.true_and]);clear E M CM
      rcases (show x.kind=0∨x.kind=1∨x.kind=2 by have:=H.o;omega) with hz | hz | hz
      ·have K:=zaa (show zlh x=decide (x.size=0∧x.links=0∧x.map=[0,0,0,0,0,0,0,0]) by unfold zlh;rw[if_pos hz]);rw[hz] at c0;have c3:wr.cell? ⟨w.heap.size,3,none⟩=some (.int .i64 x.m0):=CA.o 3;have c4:wr.cell? ⟨w.heap.size,4,none⟩=some (.int .i64 x.m1):=CA.o 4;have c5:wr.cell? ⟨w.heap.size,5,none⟩=some (.int .i64 x.m2):=CA.o 5;have c6:wr.cell? ⟨w.heap.size,6,none⟩=some (.int .i64 x.m3):=CA.o 6;have c7:wr.cell? ⟨w.heap.size,7,none⟩=some (.int .i64 x.m4):=CA.o 7;have c8:wr.cell? ⟨w.heap.size,8,none⟩=some (.int .i64 x.m5):=CA.o 8;have c9:wr.cell? ⟨w.heap.size,9,none⟩=some (.int .i64 x.m6):=CA.o 9;have c10:wr.cell? ⟨w.heap.size,10,none⟩=some (.int .i64 x.m7):=CA.o 10;clear CA;go_wp2
       all_goals
        go_ret;refine ⟨zae ?_,B.o⟩;rw[F.o,K.o,eq_comm];clear c0 c1 c2 c3 c4 c5 c6 c7 c8 c9 c10;rename_i h9
        simp_all [Ino.map]
      ·have K:=zaa (show zlh x=decide (0 < x.links) by unfold zlh;rw[if_neg (by omega),if_neg (by omega)]);rw[hz] at c0;clear CA;go_wp2;go_ret;exact ⟨zae (by rw[F.o,K.o]),B.o⟩
      ·have K:=zaa (show zlh x=(x.size == 0 && x.links == 1) by unfold zlh;rw[if_neg (by omega),if_pos hz]);rw[hz] at c0;clear CA
       cases hq:(x.size == 0)
       all_goals
        rw[hq] at K;go_wp2;go_ret;exact ⟨zae (by rw[F.o,K.o];rfl),B.o⟩
   ·have E:=zaa (show zit x=false by unfold zit;rw[decide_eq_false h2,Bool.false_and,Bool.and_false,Bool.and_false]);go_enter Tryz.func155,Tryz.ntmps155;go_wp2_with fail;refine (zaz _ _ _ _ h0).mono ?_;rintro e w' ⟨rfl,rfl⟩;go_wp2_with fail;refine (zaz _ _ _ _ h1).mono ?_;rintro e w' ⟨rfl,rfl⟩;go_wp2_with fail;refine (zeb _ _ _ _ h2).mono ?_;rintro e w' ⟨rfl,rfl⟩;go_wp2;go_ret;exact ⟨zae E.o.symm,B.o⟩
  ·have E:=zaa (show zit x=false by unfold zit;rw[decide_eq_false h1,Bool.false_and,Bool.and_false]);go_enter Tryz.func155,Tryz.ntmps155;go_wp2_with fail;refine (zaz _ _ _ _ h0).mono ?_;rintro e w' ⟨rfl,rfl⟩;go_wp2_with fail;refine (zeb _ _ _ _ h1).mono ?_;rintro e w' ⟨rfl,rfl⟩;go_wp2;go_ret;exact ⟨zae E.o.symm,B.o⟩
 ·have E:=zaa (show zit x=false by unfold zit;rw[decide_eq_false h0,Bool.false_and]);go_enter Tryz.func155,Tryz.ntmps155;go_wp2_with fail;refine (zeb _ _ _ _ h0).mono ?_;rintro e w' ⟨rfl,rfl⟩;go_wp2;go_ret;exact ⟨zae E.o.symm,B.o⟩
theorem yaqw:(Tryz.prog.info? 156).map (fun i=>(i.zero,i.size,i.bytes))=some (some (.agg #[.int .i64 0,.int .i64 0]),2,16):=by kernel_rfl
theorem Ino.all {x:Ino} {w':World} {b:Nat} (h:∀ j,w'.cell? ⟨b,j,none⟩=x.cs[j]?):w'.cell? ⟨b,0,none⟩=some (.int .i64 x.kind)∧w'.cell? ⟨b,1,none⟩=some (.int .i64 x.size)∧w'.cell? ⟨b,2,none⟩=some (.int .i64 x.links)∧w'.cell? ⟨b,3,none⟩=some (.int .i64 x.m0)∧w'.cell? ⟨b,4,none⟩=some (.int .i64 x.m1)∧w'.cell? ⟨b,5,none⟩=some (.int .i64 x.m2)∧w'.cell? ⟨b,6,none⟩=some (.int .i64 x.m3)∧w'.cell? ⟨b,7,none⟩=some (.int .i64 x.m4)∧w'.cell? ⟨b,8,none⟩=some (.int .i64 x.m5)∧w'.cell? ⟨b,9,none⟩=some (.int .i64 x.m6)∧w'.cell? ⟨b,10,none⟩=some (.int .i64 x.m7):=⟨h 0,h 1,h 2,h 3,h 4,h 5,h 6,h 7,h 8,h 9,h 10⟩
def inos (ps:List Ino):List Value:=ps.flatMap Ino.cs
theorem Ino.cs_len (x:Ino):x.cs.length=11:=rfl
theorem zfo (ps:List Ino) (k i:Nat) (h:k < ps.length) (hi:i < 11):(inos ps)[k*11+i]?=ps[k].cs[i]?:=(zbl _ 11 Ino.cs_len ps k i h hi).trans (by rw[List.getElem?_eq_getElem (show i < ps[k].cs.length by rw[Ino.cs_len];exact hi)])
def RdN (w:World) (v:Value) (ps:List Ino):Prop:=Rd w 11 v ps.length (inos ps)
theorem RdN.shape {w:World} {v:Value} {ps:List Ino} (h:RdN w v ps):∃ ao cap,v=.slice ao ps.length cap∧ps.length≤cap∧(0 < ps.length→∃ b o,ao=some ⟨b,o,none⟩∧b < w.heap.size ∧
  ∀ k (h:k < ps.length),w.cell? ⟨b,o+k*11,none⟩=some (.int .i64 ps[k].kind)∧w.cell? ⟨b,o+k*11+1,none⟩=some (.int .i64 ps[k].size)∧w.cell? ⟨b,o+k*11+2,none⟩=some (.int .i64 ps[k].links)∧w.cell? ⟨b,o+k*11+3,none⟩=some (.int .i64 ps[k].m0)∧w.cell? ⟨b,o+k*11+4,none⟩=some (.int .i64 ps[k].m1)∧w.cell? ⟨b,o+k*11+5,none⟩=some (.int .i64 ps[k].m2)∧w.cell? ⟨b,o+k*11+6,none⟩=some (.int .i64 ps[k].m3)∧w.cell? ⟨b,o+k*11+7,none⟩=some (.int .i64 ps[k].m4)∧w.cell? ⟨b,o+k*11+8,none⟩=some (.int .i64 ps[k].m5)∧w.cell? ⟨b,o+k*11+9,none⟩=some (.int .i64 ps[k].m6)∧w.cell? ⟨b,o+k*11+10,none⟩=some (.int .i64 ps[k].m7)):=by
 obtain ⟨_,ao,cap,rfl,h2,h3⟩:=h;refine ⟨ao,cap,rfl,h2.1,fun hn=>?_⟩;obtain ⟨b,o,rfl,hb,hc⟩:=h3 hn;exact ⟨b,o,rfl,hb,fun k hk=>⟨(hc (k*11) (by omega)).trans (zfo ps k 0 hk (by omega)),(hc (k*11+1) (by omega)).trans (zfo ps k 1 hk (by omega)),(hc (k*11+2) (by omega)).trans (zfo ps k 2 hk (by omega)),(hc (k*11+3) (by omega)).trans (zfo ps k 3 hk (by omega)),(hc (k*11+4) (by omega)).trans (zfo ps k 4 hk (by omega)),(hc (k*11+5) (by omega)).trans (zfo ps k 5 hk (by omega)),(hc (k*11+6) (by omega)).trans (zfo ps k 6 hk (by omega)),(hc (k*11+7) (by omega)).trans (zfo ps k 7 hk (by omega)),(hc (k*11+8) (by omega)).trans (zfo ps k 8 hk (by omega)),(hc (k*11+9) (by omega)).trans (zfo ps k 9 hk (by omega)),(hc (k*11+10) (by omega)).trans (zfo ps k 10 hk (by omega))⟩⟩
theorem yalu:(Tryz.prog.info? 187).map (fun i=>(i.zero,i.size,i.bytes))=some (some (.agg #[.int .i64 0,.int .i64 0,.int .i64 0,.int .i64 0,.int .i64 0,.int .i64 0,.int .i64 0,.int .i64 0,.int .i64 0,.int .i64 0,.int .i64 0]),11,88):=by kernel_rfl
structure Den where
 dir:Int
 name:ByteArray
 child:Int
def Den.v (x:Den):Value:=.agg #[.int .i64 x.dir,.string x.name,.int .i64 x.child]
def Den.freeB (x:Den):Bool:=x.dir == 0 && (x.name.size == 0 && x.child == -1)
def Den.okB (x:Den):Bool:=x.freeB || (decide (1≤x.child∧x.child≤15) && (decide (0≤x.dir∧x.dir≤15) && nmB x.name))
theorem yaia (s:ByteArray):s.toList=[]↔s.size=0:=by
 rw[ByteArray.toList_eq];obtain ⟨⟨x⟩⟩:=s
 show x=[]↔x.length=0
 exact List.length_eq_zero_iff.symm
def Den.cells (s:Den):List Value:=[.int .i64 s.dir,.string s.name,.int .i64 s.child]
def zhh (ps:List Den):List Value:=ps.flatMap Den.cells
theorem Den.cells_len (s:Den):s.cells.length=3:=rfl
theorem yacp (ps:List Den):(zhh ps).length=ps.length*3:=zgt _ 3 Den.cells_len ps
theorem yamp (ps:List Den) (k:Nat) (h:k < ps.length):(zhh ps)[k*3]?=some (.int .i64 ps[k].dir):=zbl _ 3 Den.cells_len ps k 0 h (by omega)
theorem yanl (ps:List Den) (k:Nat) (h:k < ps.length):(zhh ps)[k*3+1]?=some (.string ps[k].name):=zbl _ 3 Den.cells_len ps k 1 h (by omega)
theorem yane (ps:List Den) (k:Nat) (h:k < ps.length):(zhh ps)[k*3+2]?=some (.int .i64 ps[k].child):=zbl _ 3 Den.cells_len ps k 2 h (by omega)
def RdD (w:World) (v:Value) (ps:List Den):Prop:=Rd w 3 v ps.length (zhh ps)
theorem RdD.shape {w:World} {v:Value} {ps:List Den} (h:RdD w v ps):∃ ao cap,v=.slice ao ps.length cap∧ps.length≤cap∧(0 < ps.length→∃ b o,ao=some ⟨b,o,none⟩∧b < w.heap.size ∧
  ∀ k (h:k < ps.length),w.cell? ⟨b,o+k*3,none⟩=some (.int .i64 ps[k].dir)∧w.cell? ⟨b,o+k*3+1,none⟩=some (.string ps[k].name)∧w.cell? ⟨b,o+k*3+2,none⟩=some (.int .i64 ps[k].child)):=by
 obtain ⟨_,ao,cap,rfl,h2,h3⟩:=h;refine ⟨ao,cap,rfl,h2.1,fun hn=>?_⟩;obtain ⟨b,o,rfl,hb,hc⟩:=h3 hn;exact ⟨b,o,rfl,hb,fun k hk=>⟨(hc (k*3) (by omega)).trans (yamp ps k hk),(hc (k*3+1) (by omega)).trans (yanl ps k hk),(hc (k*3+2) (by omega)).trans (yane ps k hk)⟩⟩
theorem zoo:(Tryz.prog.info? 189).map (fun i=>(i.zero,i.size,i.bytes))=some (some (.agg #[.int .i64 0,.string ⟨#[]⟩,.int .i64 0]),3,32):=by kernel_rfl
def RdIm (w:World) (v:Value) (ws:List Ino) (ps:List Den):Prop:=∃ vW vP,v=.agg #[vW,vP]∧RdN w vW ws∧RdD w vP ps
def RowIm (w:World) (lo hi:Nat) (v:Value) (ws:List Ino) (ps:List Den):Prop:=∃ vW vP,v=.agg #[vW,vP]∧Row w 187 11 lo hi vW ws.length (inos ws)∧Row w 189 3 lo hi vP ps.length (zhh ps)
theorem RowIm.rd {w:World} {lo hi:Nat} {v:Value} {ws:List Ino} {ps:List Den} (h:RowIm w lo hi v ws ps):RdIm w v ws ps:=by
 obtain ⟨vW,vP,rfl,h1,h2⟩:=h;exact ⟨vW,vP,rfl,h1.rd,h2.rd⟩
theorem RdIm.below {w w':World} {v:Value} {ws:List Ino} {ps:List Den} (h:RdIm w v ws ps) (hb:Below w.heap.size w w'):RdIm w' v ws ps:=by
 obtain ⟨vW,vP,rfl,h1,h2⟩:=h;exact ⟨vW,vP,rfl,Rd.below h1 hb,Rd.below h2 hb⟩
theorem RowIm.below {w w':World} {lo hi:Nat} {v:Value} {ws:List Ino} {ps:List Den} (h:RowIm w lo hi v ws ps) {B:Nat} (hb:Below B w w') (hB:hi≤B):RowIm w' lo hi v ws ps:=by
 obtain ⟨vW,vP,rfl,h1,h2⟩:=h;exact ⟨vW,vP,rfl,h1.below hb hB,h2.below hb hB⟩
def Ino.ns (x:Ino):List Int:=[x.kind,x.size,x.links,x.m0,x.m1,x.m2,x.m3,x.m4,x.m5,x.m6,x.m7]
def yabv (zs:List Int):Bool:=decide (∀ k (h:k < zs.length),zjk zs[k]=true)
def yaep (zs:List Int):Bool:=decide (∀ k (h:k < zs.length),(zs[k] == 0)=true)
def zjo (x:Ino):Bool:=decide (x.kind=1) && (decide (1≤x.links∧x.links≤24) && (decide (0≤x.size∧x.size < 9) && (yabv (x.map.take x.size.toNat) && yaep (x.map.drop x.size.toNat))))
theorem yahp:zjk 0=true:=by decide
theorem yamg {x:Ino} (h:x.ns=[0,0,0,0,0,0,0,0,0,0,0]):zit x=true:=by
 obtain ⟨k,s,l,m0,m1,m2,m3,m4,m5,m6,m7⟩:=x;simp only[Ino.ns,List.cons.injEq,and_true] at h;obtain ⟨rfl,rfl,rfl,rfl,rfl,rfl,rfl,rfl,rfl,rfl,rfl⟩:=h;decide
theorem yarn {x:Ino} (h:x.ns=[2,0,1,0,0,0,0,0,0,0,0]):zit x=true:=by
 obtain ⟨k,s,l,m0,m1,m2,m3,m4,m5,m6,m7⟩:=x;simp only[Ino.ns,List.cons.injEq,and_true] at h;obtain ⟨rfl,rfl,rfl,rfl,rfl,rfl,rfl,rfl,rfl,rfl,rfl⟩:=h;decide
theorem yajg {x:Ino} (h0:0≤x.size) (h8:x.size≤8):mapB x.map x.size=(yabv (x.map.take x.size.toNat) && yaep (x.map.drop x.size.toNat)):=by
 rw[Bool.eq_iff_iff,Bool.and_eq_true];have hl:x.map.length=8:=rfl
 have hg:∀ i (h:i < 8),x.map.getD i 0=x.map[i]'(by rw[hl];exact h):=fun i h=>by
  rw[List.getD_eq_getElem?_getD,List.getElem?_eq_getElem (by rw[hl];exact h)];rfl
 constructor
 ·intro h;have h:=ztu h;refine ⟨decide_eq_true fun k hk=>?_,decide_eq_true fun k hk=>?_⟩
  ·rw[List.length_take,hl] at hk;have:=h k (by omega);rw[hg k (by omega)] at this;rw[List.getElem_take];unfold entB at this;exact (Bool.and_eq_true _ _ ▸ this:_∧_).1
  ·rw[List.length_drop,hl] at hk;have:=h (x.size.toNat+k) (by omega);rw[hg _ (by omega)] at this;rw[List.getElem_drop];unfold entB at this;have:=(Bool.and_eq_true _ _ ▸ this:_∧_).2;rw[Bool.or_eq_true] at this
   rcases this with h1 | h1
   ·exact h1
   ·have:=of_decide_eq_true h1;omega
 ·rintro ⟨h1,h2⟩;have h1:=of_decide_eq_true h1;have h2:=of_decide_eq_true h2
  refine yaju fun i hi=>?_
  rw[hg i hi];unfold entB;rw[Bool.and_eq_true,Bool.or_eq_true]
  by_cases hs:i < x.size.toNat
  ·have:=h1 i (by rw[List.length_take,hl];omega);rw[List.getElem_take] at this;exact ⟨this,.inr (decide_eq_true (by omega))⟩
  ·have:=h2 (i - x.size.toNat) (by rw[List.length_drop,hl];omega);rw[List.getElem_drop] at this
   have e:x.size.toNat+(i - x.size.toNat)=i:=by omega
   simp only[e] at this;exact ⟨by rw[eq_of_beq this];exact yahp,.inl this⟩
theorem yagv {x:Ino} (h0:x.size=0) (h:mapB x.map x.size=true):x.map=[0,0,0,0,0,0,0,0]:=by
 have h:=ztu h
 have g:∀ i,i < 8→x.map.getD i 0=0:=fun i hi=>by
  have:=h i hi;unfold entB at this;have:=(Bool.and_eq_true _ _ ▸ this:_∧_).2;rw[Bool.or_eq_true] at this
  rcases this with h1 | h1
  ·exact eq_of_beq h1
  ·have:=of_decide_eq_true h1;omega
 have a0:=g 0 (by omega);have a1:=g 1 (by omega);have a2:=g 2 (by omega);have a3:=g 3 (by omega);have a4:=g 4 (by omega);have a5:=g 5 (by omega);have a6:=g 6 (by omega);have a7:=g 7 (by omega);simp[Ino.map] at *;exact ⟨a0,a1,a2,a3,a4,a5,a6,a7⟩
theorem yapg {x:Ino} (h0:¬ x.ns=[0,0,0,0,0,0,0,0,0,0,0]) (h1:¬ x.ns=[2,0,1,0,0,0,0,0,0,0,0]):zjo x=zit x:=by
 by_cases hk:x.kind=1
 ·unfold zjo zit;rw[decide_eq_true hk,decide_eq_true (show 0≤x.kind∧x.kind≤2 by omega)];simp only[Bool.true_and]
  by_cases hs:0≤x.size∧x.size≤8
  ·rw[decide_eq_true hs,decide_eq_true (show 0≤x.size∧x.size < 9 by omega),← yajg hs.1 hs.2]
   have e:zlh x=decide (0 < x.links):=by unfold zlh;rw[if_neg (by omega),if_neg (by omega)]
   rw[e]
   by_cases hl:1≤x.links∧x.links≤24
   ·rw[decide_eq_true hl,decide_eq_true (show 0≤x.links∧x.links≤24 by omega),decide_eq_true (show 0 < x.links by omega)];simp
   ·rw[decide_eq_false hl]
    by_cases h3:0 < x.links
    ·rw[decide_eq_false (show ¬ (0≤x.links∧x.links≤24) by omega)];simp
    ·rw[decide_eq_false h3];simp
  ·rw[decide_eq_false hs,decide_eq_false (show ¬ (0≤x.size∧x.size < 9) by omega)];simp
 ·have e1:zjo x=false:=by unfold zjo;rw[decide_eq_false hk];rfl
  rw[e1,eq_comm,Bool.eq_false_iff];intro e;unfold zit at e;simp only[Bool.and_eq_true,decide_eq_true_eq] at e;obtain ⟨a,b,c,d,f⟩:=e;unfold zlh at f
  by_cases k0:x.kind=0
  ·rw[if_pos k0] at f;obtain ⟨f1,f2,f3⟩:=of_decide_eq_true f;apply h0;simp only[Ino.map,List.cons.injEq,and_true] at f3;simp[Ino.ns,k0,f1,f2,f3]
  ·rw[if_neg k0,if_pos (by omega)] at f;simp only[Bool.and_eq_true,beq_iff_eq] at f;have f3:=yagv f.1 d;apply h1;simp only[Ino.map,List.cons.injEq,and_true] at f3
   have k2:x.kind=2:=by omega
   simp[Ino.ns,k2,f.1,f.2,f3]
def ED (w:World):Prop:=∃ t fr,w.heap[3]?=some (.cells #[.int .i64 2,.int .i64 0,.int .i64 1,.int .i64 0,.int .i64 0,.int .i64 0,.int .i64 0,.int .i64 0,.int .i64 0,.int .i64 0,.int .i64 0] t fr)
theorem ED.lt {w:World} (h:ED w):3 < w.heap.size:=by
 obtain ⟨t,fr,h⟩:=h;exact (Array.getElem?_eq_some_iff.1 h).1
theorem ED.below {w w':World} (h:ED w) (hb:Below w.heap.size w w'):ED w':=by
 have hl:=h.lt;obtain ⟨t,fr,h⟩:=h;exact ⟨t,fr,(hb.block _ hl).trans h⟩
theorem ED.cells {w:World} (h:ED w):w.cell? ⟨3,0,none⟩=some (.int .i64 2)∧w.cell? ⟨3,1,none⟩=some (.int .i64 0)∧w.cell? ⟨3,2,none⟩=some (.int .i64 1)∧w.cell? ⟨3,3,none⟩=some (.int .i64 0)∧w.cell? ⟨3,4,none⟩=some (.int .i64 0)∧w.cell? ⟨3,5,none⟩=some (.int .i64 0)∧w.cell? ⟨3,6,none⟩=some (.int .i64 0)∧w.cell? ⟨3,7,none⟩=some (.int .i64 0)∧w.cell? ⟨3,8,none⟩=some (.int .i64 0)∧w.cell? ⟨3,9,none⟩=some (.int .i64 0)∧w.cell? ⟨3,10,none⟩=some (.int .i64 0):=by
 obtain ⟨t,fr,h⟩:=h;simp[World.cell?,h]
theorem zpq (n:Int) (w:World) (hT:TS w) (h0:-9223372036854775808≤n) (h1:n≤9223372036854775807):Calls Tryz.prog 216 #[.int .i64 n] w fun e w'=>e=.returned (.bool (zjk n))∧w'=w:=by
 have T:=zaa hT;clear hT
 cases c:zjk n with
 | true =>
  have E:=zaa (yaqk c).2.2;clear c;go_enter Tryz.func216,Tryz.ntmps216;go_wp2_with (go_at_call 220;refine (zjb _ _ T.o h0 h1).mono ?_;rw[E.o];rintro e w' ⟨rfl,rfl⟩);go_ret;exact ⟨rfl,rfl⟩
 | false =>
  have E:=zaa (zzz c).2.2;clear c;go_enter Tryz.func216,Tryz.ntmps216;go_wp2_with (go_at_call 220;refine (zjb _ _ T.o h0 h1).mono ?_;rw[E.o];rintro e w' ⟨rfl,rfl⟩);go_ret;exact ⟨rfl,rfl⟩
theorem zlc (n:Int) (w:World):Calls Tryz.prog 217 #[.int .i64 n] w fun e w'=>e=.returned (.bool (n == 0))∧w'=w:=by
 go_enter Tryz.func217,Tryz.ntmps217;go_wp2;go_ret;exact ⟨rfl,rfl⟩
theorem yamx {zs:List Int} (h:∀ k (h:k < zs.length),zjk zs[k]=true):yabv zs=true:=decide_eq_true h
theorem yajc {zs:List Int} {k:Nat} (hk:k < zs.length) (h:zjk zs[k]=false):yabv zs=false:=decide_eq_false (fun x=>by have:=x k hk;rw[h] at this;cases this)
theorem yanq {zs:List Int} (h:∀ k (h:k < zs.length),(zs[k] == 0)=true):yaep zs=true:=decide_eq_true h
theorem yakn {zs:List Int} {k:Nat} (hk:k < zs.length) (h:(zs[k] == 0)=false):yaep zs=false:=decide_eq_false (fun x=>by have:=x k hk;rw[h] at this;cases this)
theorem ziz (v:Value) (zs:List Int) (w:World) (h:RdI w v zs) (hn:zs.length≤2147483648) (hT:TS w) (hr:∀ k (h:k < zs.length),-9223372036854775808≤zs[k]∧zs[k]≤9223372036854775807) :
  Calls Tryz.prog 131 #[v,.func (.func 216) #[] #[]] w fun e w'=>e=.returned (.bool (yabv zs))∧w'=w:=by
 have T:=zaa hT;have HR:=zaa hr;clear hT hr;obtain ⟨ao,cap,rfl,_,hc⟩:=h.shape;clear h;go_enter Tryz.func131,Tryz.ntmps131;go_wp2
 go_loop [6,9] (fun _ i=>∃ k:Nat,k≤zs.length∧i=.int .i64 k∧Hid (∀ j (h:j < zs.length),j < k→zjk zs[j]=true)) (fun _ i=>zs.length - (intOf i).toNat)
 case atStart=>exact ⟨0,by omega,rfl,fun j h a=>absurd a (by omega)⟩
 case round =>
  obtain ⟨k,hk,rfl,H⟩:=hrel
  by_cases hlt:k < zs.length
  ·obtain ⟨b,o,rfl,hbl,hcell⟩:=hc (by omega);have hck:=hcell k hlt;obtain ⟨r0,r1⟩:=HR.o k hlt;clear hcell hc
   by_cases q:zjk zs[k]=true
   ·go_wp2_with (go_at_call 216;refine (zpq _ _ T.o r0 r1).mono ?_;rintro e w' ⟨rfl,rfl⟩)
    go_round
    case rel =>
     refine ⟨k+1,by omega,by go_num,fun j h a=>?_⟩
     by_cases e:j=k
     ·subst e;exact q
     ·exact H.o j h (by omega)
    case measure=>simp[intOf];omega
   ·have q':zjk zs[k]=false:=by simpa using q
    have E:=zaa (yajc hlt q');go_wp2_with (go_at_call 216;refine (zpq _ _ T.o r0 r1).mono ?_;rintro e w' ⟨rfl,rfl⟩);go_ret;exact ⟨zae E.o.symm,rfl⟩
  ·have E:=zaa (yamx (fun j h=>H.o j h (by omega)));clear H;go_wp2;go_ret;exact ⟨zae E.o.symm,rfl⟩
theorem znd (v:Value) (zs:List Int) (w:World) (h:RdI w v zs) (hn:zs.length≤2147483648) :
  Calls Tryz.prog 131 #[v,.func (.func 217) #[] #[]] w fun e w'=>e=.returned (.bool (yaep zs))∧w'=w:=by
 obtain ⟨ao,cap,rfl,_,hc⟩:=h.shape;clear h;go_enter Tryz.func131,Tryz.ntmps131;go_wp2
 go_loop [6,9] (fun _ i=>∃ k:Nat,k≤zs.length∧i=.int .i64 k∧Hid (∀ j (h:j < zs.length),j < k→(zs[j] == 0)=true)) (fun _ i=>zs.length - (intOf i).toNat)
 case atStart=>exact ⟨0,by omega,rfl,fun j h a=>absurd a (by omega)⟩
 case round =>
  obtain ⟨k,hk,rfl,H⟩:=hrel
  by_cases hlt:k < zs.length
  ·obtain ⟨b,o,rfl,hbl,hcell⟩:=hc (by omega);have hck:=hcell k hlt;clear hcell hc
   by_cases q:(zs[k] == 0)=true
   ·go_wp2_with (go_at_call 217;refine (zlc _ _).mono ?_;rintro e w' ⟨rfl,rfl⟩)
    go_round
    case rel =>
     refine ⟨k+1,by omega,by go_num,fun j h a=>?_⟩
     by_cases e:j=k
     ·subst e;exact q
     ·exact H.o j h (by omega)
    case measure=>simp[intOf];omega
   ·have q':(zs[k] == 0)=false:=by simpa using q
    have E:=zaa (yakn hlt q');go_wp2_with (go_at_call 217;refine (zlc _ _).mono ?_;rintro e w' ⟨rfl,rfl⟩);go_ret;exact ⟨zae E.o.symm,rfl⟩
  ·have E:=zaa (yanq (fun j h=>H.o j h (by omega)));clear H;go_wp2;go_ret;exact ⟨zae E.o.symm,rfl⟩
theorem yaso (w:World) (b n:Nat) (hn:n≤8):(Instr.sliceAt 185 (.pointer (some ⟨b,3,none⟩)) none (some (.int .i64 (n:Int))) none).run Tryz.prog w=.ok (.slice (some ⟨b,3,none⟩) n 8) w:=by
 have al:Tryz.prog.arrayLen 185=8:=by kernel_rfl
 rw[run_sliceAt_array_h w 185 ⟨b,3,none⟩ (by kernel_rfl) .i64 (n:Int) (by omega) (by rw[al];omega),al]
 have sz:(sizeOf (Tryz.prog.elem 185)).run Tryz.prog w=.ok 1 w:=by kernel_rfl
 rw[sz];simp[Result.andThen,slicedAt,Addr.add]
theorem yati (w:World) (b n:Nat) (hn:n≤8):(Instr.sliceAt 185 (.pointer (some ⟨b,3,none⟩)) (some (.int .i64 (n:Int))) none none).run Tryz.prog w=.ok (.slice (some (if n=8 then ⟨b,3,none⟩ else ⟨b,3+n,none⟩)) (8 - n) (8 - n)) w:=by
 have al:Tryz.prog.arrayLen 185=8:=by kernel_rfl
 rw[run_sliceAt_array_l w 185 ⟨b,3,none⟩ (by kernel_rfl) .i64 (n:Int) (by omega) (by rw[al];omega),al]
 have sz:(sizeOf (Tryz.prog.elem 185)).run Tryz.prog w=.ok 1 w:=by kernel_rfl
 rw[sz]
 by_cases h:n=8
 ·subst h;simp[Result.andThen,slicedAt]
 ·have h':¬ 8=n:=by omega
  simp only[Result.andThen,slicedAt];rw[if_neg (by omega),if_neg h];simp[Addr.add]
theorem Ino.cs_map (x:Ino) (k:Nat) (hk:k < 8):x.cs[3+k]?=some (.int .i64 (x.map[k]'(by rw[x.len];exact hk))):=by
 rcases (show k=0∨k=1∨k=2∨k=3∨k=4∨k=5∨k=6∨k=7 by omega) with rfl | rfl | rfl | rfl | rfl | rfl | rfl | rfl <;> rfl
theorem yapd {x:Ino} {w:World} {b n:Nat} (hn:n≤8) (hb:b < w.heap.size) (h:∀ j,w.cell? ⟨b,j,none⟩=x.cs[j]?):RdI w (.slice (some ⟨b,3,none⟩) n 8) (x.map.take n):=by
 have hl:(x.map.take n).length=n:=by rw[List.length_take,x.len];omega
 refine ⟨by rw[zdg,Nat.mul_one],some ⟨b,3,none⟩,8,by rw[hl],⟨by omega,fun e=>by cases e⟩,fun _=>⟨b,3,rfl,hb,fun j hj=>?_⟩⟩;rw[hl,Nat.mul_one] at hj;rw[h,x.cs_map j (by omega),zay _ _ (by omega),List.getElem_take]
theorem yapm {x:Ino} {w:World} {b n:Nat} (hn:n≤8) (hb:b < w.heap.size) (h:∀ j,w.cell? ⟨b,j,none⟩=x.cs[j]?):RdI w (.slice (some (if n=8 then ⟨b,3,none⟩ else ⟨b,3+n,none⟩)) (8 - n) (8 - n)) (x.map.drop n):=by
 have hl:(x.map.drop n).length=8 - n:=by rw[List.length_drop,x.len]
 refine ⟨by rw[zdg,Nat.mul_one],some (if n=8 then ⟨b,3,none⟩ else ⟨b,3+n,none⟩),8 - n,by rw[hl],⟨by omega,fun e=>by cases e⟩,fun hp=>?_⟩;rw[hl] at hp;refine ⟨b,3+n,by rw[if_neg (by omega)],hb,fun j hj=>?_⟩;rw[hl,Nat.mul_one] at hj;rw[h,Nat.add_assoc,x.cs_map (n+j) (by omega),zay _ _ (by omega),List.getElem_drop]
theorem Ino.R.at' {x:Ino} (h:x.R) (k:Nat) (hk:k < x.map.length):-9223372036854775808≤x.map[k]∧x.map[k]≤9223372036854775807:=h _ (List.getElem_mem _)
theorem yagr (x:Ino) (w:World) (hT:TS w) (hr:x.R):Calls Tryz.prog 211 #[x.v] w fun e w'=>e=.returned (.bool (zjo x))∧Below w.heap.size w w':=by
 have hv:x.v=.agg x.cs.toArray:=rfl
 obtain ⟨W,hW⟩:∃ W,W=w.alloc (.cells x.cs.toArray 187):=⟨_,rfl⟩
 have CA:Hid (∀ j,W.cell? ⟨w.heap.size,j,none⟩=x.cs[j]?):=fun j=>by rw[hW];exact (zbe (xs:=x.cs) (zag rfl) j).1
 have BW:Hid (Below w.heap.size w W):=by rw[hW];exact (Below.refl _ _).alloc (Nat.le_refl _) _
 have T:Hid (TS W):=hT.below BW.o
 have hWz:w.heap.size < W.heap.size:=by rw[hW];simp
 have c0:W.cell? ⟨w.heap.size,0,none⟩=some (.int .i64 x.kind):=CA.o 0;have c1:W.cell? ⟨w.heap.size,1,none⟩=some (.int .i64 x.size):=CA.o 1;have c2:W.cell? ⟨w.heap.size,2,none⟩=some (.int .i64 x.links):=CA.o 2;have HR:=zaa hr;subst hW;rw[hv];clear hT hr
 by_cases h0:x.kind=1
 case neg =>
  have E:=zaa (show zjo x=false by unfold zjo;rw[decide_eq_false h0];rfl)
  have q:(x.kind != 1)=true:=by rw[bne_iff_ne];exact h0
  go_enter Tryz.func211,Tryz.ntmps211;go_wp2;go_ret;exact ⟨zae E.o.symm,BW.o⟩
 have q:(x.kind != 1)=false:=by rw[h0];rfl
 by_cases h1:1≤x.links
 case neg =>
  have E:=zaa (show zjo x=false by unfold zjo;rw[decide_eq_true h0,decide_eq_false (show ¬ (1≤x.links∧x.links≤24) by omega)];rfl)
  have q2:x.links < 1:=by omega
  go_enter Tryz.func211,Tryz.ntmps211;go_wp2;go_ret;exact ⟨zae E.o.symm,BW.o⟩
 have q2:¬ x.links < 1:=by omega
 by_cases h2:x.links≤24
 case neg =>
  have E:=zaa (show zjo x=false by unfold zjo;rw[decide_eq_true h0,decide_eq_false (show ¬ (1≤x.links∧x.links≤24) by omega)];rfl)
  have q3:24 < x.links:=by omega
  go_enter Tryz.func211,Tryz.ntmps211;go_wp2;go_ret;exact ⟨zae E.o.symm,BW.o⟩
 have q3:¬ 24 < x.links:=by omega
 by_cases h3:0≤x.size∧x.size < 9
 case neg =>
  have E:=zaa (show zjo x=false by unfold zjo;rw[decide_eq_true h0,decide_eq_true (show 1≤x.links∧x.links≤24 by omega),decide_eq_false h3];rfl);have H3:=zaa h3;clear h3;go_enter Tryz.func211,Tryz.ntmps211;go_wp2_with (go_at_call 48;refine (zbc _ _ _ H3.o).mono ?_;rintro e w' ⟨rfl,rfl⟩);go_ret;exact ⟨zae E.o.symm,BW.o⟩
 have E:=zaa (show zjo x=(yabv (x.map.take x.size.toNat) && yaep (x.map.drop x.size.toNat)) by unfold zjo;rw[decide_eq_true h0,decide_eq_true (show 1≤x.links∧x.links≤24 by omega),decide_eq_true h3];rfl)
 obtain ⟨n,hn⟩:∃ n:Nat,x.size=(n:Int):=⟨x.size.toNat,by omega⟩
 have hn8:n≤8:=by omega
 rw[show x.size.toNat=n by omega] at E;rw[hn] at c1 h3;have R1:=zaa (yapd (x:=x) hn8 hWz CA.o);have R2:=zaa (yapm (x:=x) hn8 hWz CA.o);have s1:=yaso (w.alloc (.cells x.cs.toArray 187)) w.heap.size n hn8;have s2:=yati (w.alloc (.cells x.cs.toArray 187)) w.heap.size n hn8;have L1:=zaa (show (x.map.take n).length≤2147483648 by rw[List.length_take];omega);have L2:=zaa (show (x.map.drop n).length≤2147483648 by rw[List.length_drop,x.len];omega);have RR:=zaa (show ∀ k (h:k < (x.map.take n).length),-9223372036854775808≤(x.map.take n)[k]∧(x.map.take n)[k]≤9223372036854775807 from fun k h=>by rw[List.getElem_take];exact HR.o.at' k _);have H3:=zaa h3;generalize (if n=8 then (⟨w.heap.size,3,none⟩:Addr) else ⟨w.heap.size,3+n,none⟩)=aT at s2 R2
 cases hq:yabv (x.map.take n) with
 | false =>
  have TQ:=zaa hq;rw[hq] at E;clear h3 hn hq;go_enter Tryz.func211,Tryz.ntmps211;go_wp2_with fail;refine (zaq _ _ _ H3.o).mono ?_;rintro e w' ⟨rfl,rfl⟩;go_wp2_with fail;refine (ziz _ _ _ R1.o L1.o T.o RR.o).mono ?_;rw[TQ.o];rintro e w' ⟨rfl,rfl⟩;go_wp2;go_ret;exact ⟨zae (by rw[E.o];rfl),BW.o⟩
 | true =>
  have TQ:=zaa hq;rw[hq] at E;clear h3 hn hq;go_enter Tryz.func211,Tryz.ntmps211;go_wp2_with fail;refine (zaq _ _ _ H3.o).mono ?_;rintro e w' ⟨rfl,rfl⟩;go_wp2_with fail;refine (ziz _ _ _ R1.o L1.o T.o RR.o).mono ?_;rw[TQ.o];rintro e w' ⟨rfl,rfl⟩;go_wp2_with fail;refine (znd _ _ _ R2.o L2.o).mono ?_;rintro e w' ⟨rfl,rfl⟩;go_wp2;go_ret;exact ⟨zae (by rw[E.o];rfl),BW.o⟩
end Go.Proofs.YtahiphgmhndgaaaGreatDoor
