/- An inode that is right, by the model. -/
import Derived.Test.YtfagbapgnocjiaaGreatDoorZAC
set_option maxRecDepth 100000
set_option maxHeartbeats 2000000
namespace Go.Proofs.YtfagbapgnocjiaaGreatDoor
open Go.RowKit
def zpz(i:Nat)(z size:Int):Bool:=zel z&&(z == 0||decide ((i:Int)<size))
def yaic(zs:List Int)(size:Int)(k:Nat):Prop:=∀ i,i<k->zpz i (zs.getD i 0) size=true
def mapB(zs:List Int)(size:Int):Bool:=(List.range 8).all fun i=>zpz i (zs.getD i 0) size
theorem zsb{zs:List Int}{size:Int}(h:yaic zs size 8):mapB zs size=true:=by
 unfold mapB;rw[List.all_eq_true];intro i hi;exact h i (List.mem_range.1 hi)
theorem zib{zs:List Int}{size:Int}(h:mapB zs size=true):yaic zs size 8:=by
 unfold mapB at h;rw[List.all_eq_true]at h;intro i hi;exact h i (List.mem_range.2 hi)
theorem yakp{zs:List Int}{size:Int}{k:Nat}(hk:k<8)(h:zpz k (zs.getD k 0) size=false):mapB zs size=false:=by
 rw[Bool.eq_false_iff];intro e;rw[zib e k hk]at h;exact absurd h (by decide)
theorem yabx{zs:List Int}{size:Int}{k:Nat}(h:yaic zs size k)(g:zpz k (zs.getD k 0) size=true):yaic zs size (k+1):=by
 intro i hi
 by_cases e:i=k
 ·rw[e];exact g
 ·exact h i (by omega)
def zek(x:Ino):Bool:=if x.kind=0 then decide (x.size=0/\x.links=0/\x.map=[0,0,0,0,0,0,0,0])else if x.kind=2 then x.size == 0&&x.links == 1 else decide (0<x.links)
def zdp(x:Ino):Bool:=decide (0<=x.kind/\x.kind<=2)&&(decide (0<=x.size/\x.size<=8)&&(decide (0<=x.links/\x.links<=24)&&(mapB x.map x.size&&zek x)))
def Ino.R(x:Ino):Prop:=∀ z∈x.map,-9223372036854775808<=z/\z<=9223372036854775807
theorem Ino.len(x:Ino):x.map.length=8:=rfl
theorem Ino.at(x:Ino)(k:Nat)(hk:k<8):x.cs[3+k]?=some (.I (x.map.getD k 0)):=by
 rcases(show k=0\/k=1\/k=2\/k=3\/k=4\/k=5\/k=6\/k=7 by omega)with rfl|rfl|rfl|rfl|rfl|rfl|rfl|rfl<;>rfl
theorem Ino.R.at{x:Ino}(h:x.R)(k:Nat)(hk:k<8):-9223372036854775808<=x.map.getD k 0/\x.map.getD k 0<=9223372036854775807:=by
 have e:x.map.getD k 0=x.map[k]'(by rw[x.len];exact hk):=by rw[List.getD_eq_getElem?_getD,List.getElem?_eq_getElem (by rw[x.len];exact hk)];rfl
 rw[e];exact h _ (List.getElem_mem _)
@[go_sem] theorem yatf(m0 m1 m2 m3 m4 m5 m6 m7:Int)(w:World):(Op.equalIn 9999 39 (.agg #[.I m0,.I m1,.I m2,.I m3,.I m4,.I m5,.I m6,.I m7]) (.agg #[.I 0,.I 0,.I 0,.I 0,.I 0,.I 0,.I 0,.I 0])).run Tryz.prog w=.ok (decide ([m0,m1,m2,m3,m4,m5,m6,m7]=[0,0,0,0,0,0,0,0])) w:=by
 have u3:=Tryz.underlying3;have a3:=Tryz.isAgg3;have z3:=Tryz.sizeOf3;rw[show(9999:Nat)=9998+1 from rfl,Op.equalIn];simp only[Sem.run_bind,run_underlying Tryz.underlying39,Result.andThen_ok];simp only[Std.Legacy.Range.forIn_eq_forIn_range',Std.Legacy.Range.size,Nat.sub_zero,Nat.add_sub_cancel,Nat.div_one,List.range'_succ,List.range'_zero,List.forIn_cons,List.forIn_nil];go_simp
 by_cases h0:m0=0
 case neg=>simp[h0]
 by_cases h1:m1=0
 case neg=>simp[h0,h1]
 by_cases h2:m2=0
 case neg=>simp[h0,h1,h2]
 by_cases h3:m3=0
 case neg=>simp[h0,h1,h2,h3]
 by_cases h4:m4=0
 case neg=>simp[h0,h1,h2,h3,h4]
 by_cases h5:m5=0
 case neg=>simp[h0,h1,h2,h3,h4,h5]
 by_cases h6:m6=0
 case neg=>simp[h0,h1,h2,h3,h4,h5,h6]
 by_cases h7:m7=0
 case neg=>simp[h0,h1,h2,h3,h4,h5,h6,h7]
 simp[h0,h1,h2,h3,h4,h5,h6,h7]
theorem zvr(x:Ino)(w:World)(hr:x.R):zC 45 #[x.v] w fun e w'=>e=.returned (.bool (zdp x))/\zB w w':=by
 have hv:x.v=.agg x.cs.toArray:=rfl;have c0:(w.alloc (.cells x.cs.toArray 41)).cell? ⟨w.heap.size,0,none⟩=some (.I x.kind):=(zat (xs:=x.cs) (zai rfl) 0).1;have c1:(w.alloc (.cells x.cs.toArray 41)).cell? ⟨w.heap.size,1,none⟩=some (.I x.size):=(zat (xs:=x.cs) (zai rfl) 1).1;have c2:(w.alloc (.cells x.cs.toArray 41)).cell? ⟨w.heap.size,2,none⟩=some (.I x.links):=(zat (xs:=x.cs) (zai rfl) 2).1;have CM:=zaa (show ∀ k,k<8->(w.alloc (.cells x.cs.toArray 41)).cell? ⟨w.heap.size,3+k,none⟩=some (.I (x.map.getD k 0))from fun k hk=>((zat (xs:=x.cs) (zai rfl) (3+k)).1).trans (x.at k hk));have B:=zaa ((Below.refl w.heap.size w).alloc zL (.cells x.cs.toArray 41));rw[hv]
 by_cases h0:0<=x.kind/\x.kind<=2
 ·by_cases h1:0<=x.size/\x.size<=8
  ·by_cases h2:0<=x.links/\x.links<=24
   ·have E:=zaa (show zdp x=(mapB x.map x.size&&zek x) by unfold zdp;rw[decide_eq_true h0,decide_eq_true h1,decide_eq_true h2];rfl);have H:=zaa (And.intro h0 (And.intro h1 h2));clear h0 h1 h2;go_enter Tryz.func45,Tryz.ntmps45;go_wp2_with fail;refine(zbi _ _ _ _ H.o.1).mono ?_;rintro e w' ⟨rfl,rfl⟩;go_wp2_with fail;refine(zbi _ _ _ _ H.o.2.1).mono ?_;rintro e w' ⟨rfl,rfl⟩;go_wp2_with fail;refine(zbi _ _ _ _ H.o.2.2).mono ?_;rintro e w' ⟨rfl,rfl⟩;go_wp2
    obtain⟨wa,hwa⟩:=zE (w.alloc (.cells x.cs.toArray 41))
    rw[<- hwa]at c0 c1 c2 CM B ⊢;have CA:=zaa (show ∀ j,wa.cell? ⟨w.heap.size,j,none⟩=x.cs[j]? by rw[hwa];exact fun j=>(zat (xs:=x.cs) (zai rfl) j).1);clear hwa
    go_loopw [3] (fun i wr=>∃ k:Nat,k<=8/\i=.I k/\wr=wa/\Hid (yaic x.map x.size k)) (fun i _=>8-(intOf i).toNat)
    case atStart=>exact⟨0,by omega,rfl,rfl,fun i hi=>absurd hi (by omega)⟩
    case round =>
     obtain⟨k,hk,rfl,rfl,M⟩:=hrel
     by_cases hlt:k<8
     ·have c3:=CM.o k hlt;obtain⟨r0,r1⟩:=hr.at k hlt
      have k0:(0:Int)<=(k:Int):=by omega
      have k1:(k:Int)<8:=by omega
      have MN:=zaa (fun e=>yakp (zs:=x.map) (size:=x.size) hlt e);have MS:=zaa (fun e=>yabx (k:=k) M.o e);generalize x.map.getD k 0=z at c3 r0 r1 MN MS;clear CM CA M
      cases ht:zel z with
      | false =>
       have F:=zaa (show zdp x=false by rw[E.o,MN.o (by unfold zpz;rw[ht];rfl),Bool.false_and]);have T:=zaa ht;clear ht MN MS E;go_wp2_with fail;refine(zeg _ _ r0 r1).mono ?_;rintro e w' ⟨rfl,rfl⟩;rw[T.o];go_wp2;go_ret;exact⟨zah F.o.symm,B.o⟩
      | true =>
       by_cases hz:z=0
       ·have q:(z != 0)=false:=by rw[hz];rfl
        have G:=zaa (MS.o (by unfold zpz;rw[ht,hz];rfl));have T:=zaa ht;clear ht MN MS hz;go_wp2_with fail;refine(zeg _ _ r0 r1).mono ?_;rintro e w' ⟨rfl,rfl⟩;rw[T.o];go_wp2
        go_roundw
        case rel=>exact⟨k+1,by omega,by go_num,trivial,G⟩
        case measure=>simp[intOf];omega
       ·have q:(z != 0)=true:=by rw[bne_iff_ne];exact hz
        have qz:(z == 0)=false:=by rw[beq_eq_false_iff_ne];exact hz
        by_cases hs:(k:Int)<x.size
        ·have q2:¬ x.size<=(k:Int):=by omega
         have G:=zaa (MS.o (by unfold zpz;rw[ht,qz,decide_eq_true hs];rfl));have T:=zaa ht;clear ht MN MS hz hs qz;go_wp2_with fail;refine(zeg _ _ r0 r1).mono ?_;rintro e w' ⟨rfl,rfl⟩;rw[T.o];go_wp2
         go_roundw
         case rel=>exact⟨k+1,by omega,by go_num,trivial,G⟩
         case measure=>simp[intOf];omega
        ·have q2:x.size<=(k:Int):=by omega
         have F:=zaa (show zdp x=false by rw[E.o,MN.o (by unfold zpz;rw[ht,qz,decide_eq_false hs];rfl),Bool.false_and]);have T:=zaa ht;clear ht MN MS hz hs qz E;go_wp2_with fail;refine(zeg _ _ r0 r1).mono ?_;rintro e w' ⟨rfl,rfl⟩;rw[T.o];go_wp2;go_ret;exact⟨zah F.o.symm,B.o⟩
     ·obtain rfl:k=8:=by omega
      have F:=zaa (show zdp x=zek x by rw[E.o,zsb M.o,Bool.true_and]);clear E M CM
      rcases(show x.kind=0\/x.kind=1\/x.kind=2 by have:=H.o;omega)with hz | hz | hz
      ·have K:=zaa (show zek x=decide (x.size=0/\x.links=0/\x.map=[0,0,0,0,0,0,0,0]) by unfold zek;rw[if_pos hz]);rw[hz]at c0;have c3:wr.cell? ⟨w.heap.size,3,none⟩=some (.I x.m0):=CA.o 3;have c4:wr.cell? ⟨w.heap.size,4,none⟩=some (.I x.m1):=CA.o 4;have c5:wr.cell? ⟨w.heap.size,5,none⟩=some (.I x.m2):=CA.o 5;have c6:wr.cell? ⟨w.heap.size,6,none⟩=some (.I x.m3):=CA.o 6;have c7:wr.cell? ⟨w.heap.size,7,none⟩=some (.I x.m4):=CA.o 7;have c8:wr.cell? ⟨w.heap.size,8,none⟩=some (.I x.m5):=CA.o 8;have c9:wr.cell? ⟨w.heap.size,9,none⟩=some (.I x.m6):=CA.o 9;have c10:wr.cell? ⟨w.heap.size,10,none⟩=some (.I x.m7):=CA.o 10;clear CA;go_wp2
       all_goals
        go_ret;refine⟨zah ?_,B.o⟩;rw[F.o,K.o,eq_comm];clear c0 c1 c2 c3 c4 c5 c6 c7 c8 c9 c10;rename_i h9
        simp_all [Ino.map]
      ·have K:=zaa (show zek x=decide (0<x.links) by unfold zek;rw[if_neg (by omega),if_neg (by omega)]);rw[hz]at c0;clear CA;go_wp2;go_ret;exact⟨zah (by rw[F.o,K.o]),B.o⟩
      ·have K:=zaa (show zek x=(x.size == 0&&x.links == 1) by unfold zek;rw[if_neg (by omega),if_pos hz]);rw[hz]at c0;clear CA
       cases hq:(x.size == 0)
       all_goals
        rw[hq]at K;go_wp2;go_ret;exact⟨zah (by rw[F.o,K.o];rfl),B.o⟩
   ·have E:=zaa (show zdp x=false by unfold zdp;rw[decide_eq_false h2,Bool.false_and,Bool.and_false,Bool.and_false]);go_enter Tryz.func45,Tryz.ntmps45;go_wp2_with fail;refine(zbi _ _ _ _ h0).mono ?_;rintro e w' ⟨rfl,rfl⟩;go_wp2_with fail;refine(zbi _ _ _ _ h1).mono ?_;rintro e w' ⟨rfl,rfl⟩;go_wp2_with fail;refine(zfi _ _ _ _ h2).mono ?_;rintro e w' ⟨rfl,rfl⟩;go_wp2;go_ret;exact⟨zah E.o.symm,B.o⟩
  ·have E:=zaa (show zdp x=false by unfold zdp;rw[decide_eq_false h1,Bool.false_and,Bool.and_false]);go_enter Tryz.func45,Tryz.ntmps45;go_wp2_with fail;refine(zbi _ _ _ _ h0).mono ?_;rintro e w' ⟨rfl,rfl⟩;go_wp2_with fail;refine(zfi _ _ _ _ h1).mono ?_;rintro e w' ⟨rfl,rfl⟩;go_wp2;go_ret;exact⟨zah E.o.symm,B.o⟩
 ·have E:=zaa (show zdp x=false by unfold zdp;rw[decide_eq_false h0,Bool.false_and]);go_enter Tryz.func45,Tryz.ntmps45;go_wp2_with fail;refine(zfi _ _ _ _ h0).mono ?_;rintro e w' ⟨rfl,rfl⟩;go_wp2;go_ret;exact⟨zah E.o.symm,B.o⟩
end Go.Proofs.YtfagbapgnocjiaaGreatDoor
