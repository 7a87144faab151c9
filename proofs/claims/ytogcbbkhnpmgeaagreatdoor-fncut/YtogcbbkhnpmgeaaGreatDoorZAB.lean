import Derived.Test.YtogcbbkhnpmgeaaGreatDoorZAA
import Derived.Deep.RegionWith
import Derived.Deep.RegionHeld3
import Derived.Laws.OwnMore
set_option maxRecDepth 100000
set_option maxHeartbeats 2000000
namespace Go.Proofs.YtogcbbkhnpmgeaaGreatDoor
open Go.RowKit
def TS(w:World):Prop:=∃ t fr,w.heap[3]?=some (.cells #[.I 1,.I 24,.I 32] t fr)
theorem TS.lt{w:World}(h:TS w):3<w.heap.size:=by
 obtain⟨t,fr,h⟩:=h;exact(Array.getElem?_eq_some_iff.1 h).1
theorem TS.below{w w':World}(h:TS w)(hb:zB w w'):TS w':=by
 have hl:=h.lt;obtain⟨t,fr,h⟩:=h;exact⟨t,fr,(hb.block _ hl).trans h⟩
theorem TS.cells{w:World}(h:TS w):w.cell? ⟨3,0,none⟩=some (.I 1)/\w.cell? ⟨3,1,none⟩=some (.I 24)/\w.cell? ⟨3,2,none⟩=some (.I 32):=by
 obtain⟨t,fr,h⟩:=h;simp[World.cell?,h]
def zgp(t a:Int):Bool:=decide ((t=0/\a=0)\/(t=1/\0<=a/\a<24)\/(t=2/\0<=a/\a<32))
theorem zzp{t a:Int}(h:(t=0/\a=0)\/(t=1/\0<=a/\a<24)\/(t=2/\0<=a/\a<32)):zgp t a=true:=decide_eq_true h
theorem zjz{t a:Int}(h:¬ ((t=0/\a=0)\/(t=1/\0<=a/\a<24)\/(t=2/\0<=a/\a<32))):zgp t a=false:=decide_eq_false h
theorem yace{t a:Int}(h:zgp t a=true):(t=0/\a=0)\/(t=1/\0<=a/\a<24)\/(t=2/\0<=a/\a<32):=of_decide_eq_true h
def zef(e:Int):Bool:=decide (0<=e)&&zgp (e%4) (e/4)
def tieT(e:Int):Int:=if zef e=true then e%4 else 0
def tieA(e:Int):Int:=if zef e=true then e/4 else 0
def tieC(e:Int):Int:=if zef e=true then 0 else 3
theorem ztq{e:Int}(h:zef e=true):tieT e=e%4/\tieA e=e/4/\tieC e=0:=by unfold tieT tieA tieC;rw[if_pos h,if_pos h,if_pos h];exact⟨rfl,rfl,rfl⟩
theorem zyt{e:Int}(h:zef e=false):tieT e=0/\tieA e=0/\tieC e=3:=by unfold tieT tieA tieC;rw[h];exact⟨rfl,rfl,rfl⟩
theorem yaha{n:Int}(h:n<0):zgp (n.tmod 4) (n.tdiv 4)=false:=by
 apply zjz
 obtain⟨m,rfl⟩:∃ m:Int,n=-m:=⟨-n,by omega⟩
 rw[Int.neg_tmod,Int.neg_tdiv,Int.tmod_eq_emod_of_nonneg (by omega),Int.tdiv_eq_ediv_of_nonneg (by omega)];omega
theorem zns{a b c d e f:Int}(h:a=b)(k:c=d)(l:e=f):Ending.returned (.tuple #[.I a,.I c,.I e])=.returned (.tuple #[.I b,.I d,.I f]):=by rw[h,k,l]
theorem zsl(t a:Int)(w:World)(hT:TS w)(h:zgp t a=true):zC 172 #[.I t,.I a] w fun e w'=>e=.returned (.bool true)/\w'=w:=by
 obtain⟨x0,x1,x2⟩:=hT.cells;clear hT
 rcases yace h with ⟨rfl,rfl⟩ | ⟨rfl,h1,h2⟩ | ⟨rfl,h1,h2⟩
 all_goals
  clear h;go_enter Tryz.func172,Tryz.ntmps172;go_wp2_with (go_at_call 39;refine(zbw _ _ _ (by omega)).mono ?_;rintro e w' ⟨rfl,rfl⟩);go_ret;exact⟨rfl,rfl⟩
theorem zlo(t a:Int)(w:World)(hT:TS w)(h:zgp t a=false):zC 172 #[.I t,.I a] w fun e w'=>e=.returned (.bool false)/\w'=w:=by
 obtain⟨x0,x1,x2⟩:=hT.cells;have h':¬ ((t=0/\a=0)\/(t=1/\0<=a/\a<24)\/(t=2/\0<=a/\a<32)):=of_decide_eq_false h;clear hT h
 rcases(show(t=0/\¬ (0<=a/\a<1))\/(t=1/\¬ (0<=a/\a<24))\/(t=2/\¬ (0<=a/\a<32))\/¬ (0<=t/\t<3) by omega)with ⟨rfl,ha⟩ | ⟨rfl,ha⟩ | ⟨rfl,ha⟩ | ha
 all_goals
  have H:=zaa ha;clear h' ha;go_enter Tryz.func172,Tryz.ntmps172;go_wp2_with (first | (go_at_call 39;refine(zbw _ _ _ (by omega)).mono ?_;rintro e w' ⟨rfl,rfl⟩) | (go_at_call 39;refine(zdm _ _ _ H.o).mono ?_;rintro e w' ⟨rfl,rfl⟩));go_ret;exact⟨rfl,rfl⟩
theorem zfq(n:Int)(w:World)(hT:TS w)(h0:-9223372036854775808<=n)(h1:n<=9223372036854775807):zC 120 #[.I n] w fun e w'=>e=.returned (.tuple #[.I (tieT n),.I (tieA n),.I (tieC n)])/\w'=w:=by
 have T:=zaa hT;clear hT
 by_cases c0:0<=n
 ·by_cases c:zgp (n%4) (n/4)=true
  ·have E:=zaa (ztq (e:=n) (by unfold zef;rw[c,decide_eq_true c0];rfl));have C:=zaa c;clear c;go_enter Tryz.func120,Tryz.ntmps120;go_wp2_with (go_at_call 172;refine(zsl _ _ _ T.o C.o).mono ?_;rintro e w' ⟨rfl,rfl⟩);go_ret3;exact⟨zns (by rw[E.o.1]) (by rw[E.o.2.1]) E.o.2.2.symm,rfl⟩
  ·have c':zgp (n%4) (n/4)=false:=by simpa using c
   have E:=zaa (zyt (e:=n) (by unfold zef;rw[c'];simp));have C:=zaa c';clear c c';go_enter Tryz.func120,Tryz.ntmps120;go_wp2_with (go_at_call 172;refine(zlo _ _ _ T.o C.o).mono ?_;rintro e w' ⟨rfl,rfl⟩);go_ret3;exact⟨zns E.o.1.symm E.o.2.1.symm E.o.2.2.symm,rfl⟩
 ·have E:=zaa (zyt (e:=n) (by unfold zef;rw[decide_eq_false c0];rfl));go_enter Tryz.func120,Tryz.ntmps120;go_wp2_with (go_at_call 172;refine(zlo _ _ _ T.o (yaha (by omega))).mono ?_;rintro e w' ⟨rfl,rfl⟩);go_ret3;exact⟨zns E.o.1.symm E.o.2.1.symm E.o.2.2.symm,rfl⟩
theorem zfn(t a:Int)(w:World)(h:0<=t/\t<3)(k:0<=a/\a<32):zC 144 #[.I t,.I a] w fun e w'=>e=.returned (.I (4*a+t))/\w'=w:=by
 go_enter Tryz.func144,Tryz.ntmps144;go_wp2;go_ret;exact⟨rfl,rfl⟩
theorem zeb(n:Int)(w:World)(h0:0<=n)(h1:n<=9223372036854775807):zC 195 #[.I n] w fun e w'=>e=.returned (.tuple #[.I (n%4),.I (n/4)])/\w'=w:=by
 go_enter Tryz.func195,Tryz.ntmps195;go_wp2;go_ret2;exact⟨rfl,rfl⟩
theorem zye(n:Int)(w:World)(h0:n<0)(h1:-9223372036854775808<=n):zC 195 #[.I n] w fun e w'=>(∃ x y:Int,e=.returned (.tuple #[.I x,.I y]))/\w'=w:=by
 go_enter Tryz.func195,Tryz.ntmps195;go_wp2;go_ret2;exact⟨⟨_,_,rfl⟩,rfl⟩
theorem zeg(n:Int)(w:World)(h0:-9223372036854775808<=n)(h1:n<=9223372036854775807):zC 154 #[.I n] w fun e w'=>e=.returned (.bool (zef n))/\w'=w:=by
 rcases(show n<0\/n=0\/0<n by omega)with c | rfl | c
 ·have E:=zaa (show zef n=false by unfold zef;rw[decide_eq_false (by omega)];rfl)
  have q0:(n == 0)=false:=by rw[beq_eq_false_iff_ne];omega
  have q1:¬ 0<n:=by omega
  go_enter Tryz.func154,Tryz.ntmps154;go_wp2_with fail;refine(zye _ _ c h0).mono ?_;rintro e w' ⟨⟨x,y,rfl⟩,rfl⟩;go_wp2;go_ret;exact⟨zag E.o.symm,rfl⟩
 ·go_enter Tryz.func154,Tryz.ntmps154;go_wp2;go_ret;exact⟨zag (by decide),rfl⟩
 ·have q0:(n == 0)=false:=by rw[beq_eq_false_iff_ne];omega
  have E:=zaa (show zef n=zgp (n%4) (n/4) by unfold zef;rw[decide_eq_true (by omega)];rfl)
  rcases(show(n%4=1/\n/4<24)\/(n%4=1/\¬ n/4<24)\/(n%4=2/\n/4<32)\/(n%4=2/\¬ n/4<32)\/(¬ n%4=1/\¬ n%4=2) by omega)with ⟨r,q⟩ | ⟨r,q⟩ | ⟨r,q⟩ | ⟨r,q⟩ | ⟨r,q⟩
  ·have A:=zaa (zzp (t:=n%4) (a:=n/4) (by omega))
   have r1:(n%4 == 1)=true:=by rw[beq_iff_eq];exact r
   clear r;go_enter Tryz.func154,Tryz.ntmps154;go_wp2_with fail;refine(zeb _ _ (by omega) h1).mono ?_;rintro e w' ⟨rfl,rfl⟩;go_wp2;go_ret;exact⟨zag (by rw[E.o,A.o];first | done | exact decide_eq_false (by omega)),rfl⟩
  ·have A:=zaa (zjz (t:=n%4) (a:=n/4) (by omega))
   have r1:(n%4 == 1)=true:=by rw[beq_iff_eq];exact r
   have r2:(n%4 == 2)=false:=by rw[beq_eq_false_iff_ne];omega
   clear r;go_enter Tryz.func154,Tryz.ntmps154;go_wp2_with fail;refine(zeb _ _ (by omega) h1).mono ?_;rintro e w' ⟨rfl,rfl⟩;go_wp2;go_ret;exact⟨zag (by rw[E.o,A.o];first | done | exact decide_eq_false (by omega)),rfl⟩
  ·have A:=zaa (zzp (t:=n%4) (a:=n/4) (by omega))
   have r1:(n%4 == 1)=false:=by rw[beq_eq_false_iff_ne];omega
   have r2:(n%4 == 2)=true:=by rw[beq_iff_eq];exact r
   clear r;go_enter Tryz.func154,Tryz.ntmps154;go_wp2_with fail;refine(zeb _ _ (by omega) h1).mono ?_;rintro e w' ⟨rfl,rfl⟩;go_wp2;go_ret;exact⟨zag (by rw[E.o,A.o];first | done | exact decide_eq_false (by omega)),rfl⟩
  ·have A:=zaa (zjz (t:=n%4) (a:=n/4) (by omega))
   have r1:(n%4 == 1)=false:=by rw[beq_eq_false_iff_ne];omega
   have r2:(n%4 == 2)=true:=by rw[beq_iff_eq];exact r
   clear r;go_enter Tryz.func154,Tryz.ntmps154;go_wp2_with fail;refine(zeb _ _ (by omega) h1).mono ?_;rintro e w' ⟨rfl,rfl⟩;go_wp2;go_ret;exact⟨zag (by rw[E.o,A.o];first | done | exact decide_eq_false (by omega)),rfl⟩
  ·have A:=zaa (zjz (t:=n%4) (a:=n/4) (by omega))
   have r1:(n%4 == 1)=false:=by rw[beq_eq_false_iff_ne];exact r
   have r2:(n%4 == 2)=false:=by rw[beq_eq_false_iff_ne];exact q
   clear r q;go_enter Tryz.func154,Tryz.ntmps154;go_wp2_with fail;refine(zeb _ _ (by omega) h1).mono ?_;rintro e w' ⟨rfl,rfl⟩;go_wp2;go_ret;exact⟨zag (by rw[E.o,A.o];first | done | exact decide_eq_false (by omega)),rfl⟩
def zpp(i:Nat)(z size:Int):Bool:=zef z&&(z == 0||decide ((i:Int)<size))
def yaee(zs:List Int)(size:Int)(k:Nat):Prop:=∀ i,i<k->zpp i (zs.getD i 0) size=true
def mapB(zs:List Int)(size:Int):Bool:=(List.range 8).all fun i=>zpp i (zs.getD i 0) size
theorem zro{zs:List Int}{size:Int}(h:yaee zs size 8):mapB zs size=true:=by
 unfold mapB;rw[List.all_eq_true];intro i hi;exact h i (List.mem_range.1 hi)
theorem zhb{zs:List Int}{size:Int}(h:mapB zs size=true):yaee zs size 8:=by
 unfold mapB at h;rw[List.all_eq_true]at h;intro i hi;exact h i (List.mem_range.2 hi)
theorem yamz{zs:List Int}{size:Int}{k:Nat}(hk:k<8)(h:zpp k (zs.getD k 0) size=false):mapB zs size=false:=by
 rw[Bool.eq_false_iff];intro e;rw[zhb e k hk]at h;exact absurd h (by decide)
theorem yabn{zs:List Int}{size:Int}{k:Nat}(h:yaee zs size k)(g:zpp k (zs.getD k 0) size=true):yaee zs size (k+1):=by
 intro i hi
 by_cases e:i=k
 ·rw[e];exact g
 ·exact h i (by omega)
def zex(x:Ino):Bool:=if x.kind=0 then decide (x.size=0/\x.links=0/\x.map=[0,0,0,0,0,0,0,0])else if x.kind=2 then x.size == 0&&x.links == 1 else decide (0<x.links)
def zdp(x:Ino):Bool:=decide (0<=x.kind/\x.kind<=2)&&(decide (0<=x.size/\x.size<=8)&&(decide (0<=x.links/\x.links<=24)&&(mapB x.map x.size&&zex x)))
def Ino.R(x:Ino):Prop:=∀ z∈x.map,-9223372036854775808<=z/\z<=9223372036854775807
theorem Ino.len(x:Ino):x.map.length=8:=rfl
theorem Ino.at(x:Ino)(k:Nat)(hk:k<8):x.cs[3+k]?=some (.I (x.map.getD k 0)):=by
 rcases(show k=0\/k=1\/k=2\/k=3\/k=4\/k=5\/k=6\/k=7 by omega)with rfl|rfl|rfl|rfl|rfl|rfl|rfl|rfl<;>rfl
theorem Ino.R.at{x:Ino}(h:x.R)(k:Nat)(hk:k<8):-9223372036854775808<=x.map.getD k 0/\x.map.getD k 0<=9223372036854775807:=by
 have e:x.map.getD k 0=x.map[k]'(by rw[x.len];exact hk):=by rw[List.getD_eq_getElem?_getD,List.getElem?_eq_getElem (by rw[x.len];exact hk)];rfl
 rw[e];exact h _ (List.getElem_mem _)
@[go_sem] theorem yavs(m0 m1 m2 m3 m4 m5 m6 m7:Int)(w:World):(Op.equalIn 9999 85 (.agg #[.I m0,.I m1,.I m2,.I m3,.I m4,.I m5,.I m6,.I m7]) (.agg #[.I 0,.I 0,.I 0,.I 0,.I 0,.I 0,.I 0,.I 0])).run Tryz.prog w=.ok (decide ([m0,m1,m2,m3,m4,m5,m6,m7]=[0,0,0,0,0,0,0,0])) w:=by
 have u3:=Tryz.underlying3;have a3:=Tryz.isAgg3;have z3:=Tryz.sizeOf3;rw[show(9999:Nat)=9998+1 from rfl,Op.equalIn];simp only[Sem.run_bind,run_underlying Tryz.underlying85,Result.andThen_ok];simp only[Std.Legacy.Range.forIn_eq_forIn_range',Std.Legacy.Range.size,Nat.sub_zero,Nat.add_sub_cancel,Nat.div_one,List.range'_succ,List.range'_zero,List.forIn_cons,List.forIn_nil];go_simp
 by_cases h0:m0=0
 case neg=>simp[h0]
 by_cases h1:m1=0
 case neg=>simp[h0,h1]
 by_cases h2:m2=0
 case neg=>simp[h0,h1,h2]
 by_cases h3:m3=0
 case neg=>simp[h0,h1,h2,h3]
 by_cases h4:m4=0
 case neg=>simp[h0,h1,h2,h3,h4]
 by_cases h5:m5=0
 case neg=>simp[h0,h1,h2,h3,h4,h5]
 by_cases h6:m6=0
 case neg=>simp[h0,h1,h2,h3,h4,h5,h6]
 by_cases h7:m7=0
 case neg=>simp[h0,h1,h2,h3,h4,h5,h6,h7]
 simp[h0,h1,h2,h3,h4,h5,h6,h7]
theorem zwj(x:Ino)(w:World)(hr:x.R):zC 88 #[x.v] w fun e w'=>e=.returned (.bool (zdp x))/\zB w w':=by
 have hv:x.v=.agg x.cs.toArray:=rfl;have c0:(w.alloc (.cells x.cs.toArray 87)).cell? ⟨w.heap.size,0,none⟩=some (.I x.kind):=(zak (xs:=x.cs) (zah rfl) 0).1;have c1:(w.alloc (.cells x.cs.toArray 87)).cell? ⟨w.heap.size,1,none⟩=some (.I x.size):=(zak (xs:=x.cs) (zah rfl) 1).1;have c2:(w.alloc (.cells x.cs.toArray 87)).cell? ⟨w.heap.size,2,none⟩=some (.I x.links):=(zak (xs:=x.cs) (zah rfl) 2).1;have CM:=zaa (show ∀ k,k<8->(w.alloc (.cells x.cs.toArray 87)).cell? ⟨w.heap.size,3+k,none⟩=some (.I (x.map.getD k 0))from fun k hk=>((zak (xs:=x.cs) (zah rfl) (3+k)).1).trans (x.at k hk));have B:=zaa ((Below.refl w.heap.size w).alloc zL (.cells x.cs.toArray 87));rw[hv]
 by_cases h0:0<=x.kind/\x.kind<=2
 ·by_cases h1:0<=x.size/\x.size<=8
  ·by_cases h2:0<=x.links/\x.links<=24
   ·have E:=zaa (show zdp x=(mapB x.map x.size&&zex x) by unfold zdp;rw[decide_eq_true h0,decide_eq_true h1,decide_eq_true h2];rfl);have H:=zaa (And.intro h0 (And.intro h1 h2));clear h0 h1 h2;go_enter Tryz.func88,Tryz.ntmps88;go_wp2_with fail;refine(zbg _ _ _ _ H.o.1).mono ?_;rintro e w' ⟨rfl,rfl⟩;go_wp2_with fail;refine(zbg _ _ _ _ H.o.2.1).mono ?_;rintro e w' ⟨rfl,rfl⟩;go_wp2_with fail;refine(zbg _ _ _ _ H.o.2.2).mono ?_;rintro e w' ⟨rfl,rfl⟩;go_wp2
    obtain⟨wa,hwa⟩:=zE (w.alloc (.cells x.cs.toArray 87))
    rw[<- hwa]at c0 c1 c2 CM B ⊢;have CA:=zaa (show ∀ j,wa.cell? ⟨w.heap.size,j,none⟩=x.cs[j]? by rw[hwa];exact fun j=>(zak (xs:=x.cs) (zah rfl) j).1);clear hwa
    go_loopw [3] (fun i wr=>∃ k:Nat,k<=8/\i=.I k/\wr=wa/\Hid (yaee x.map x.size k)) (fun i _=>8-(intOf i).toNat)
    case atStart=>exact⟨0,by omega,rfl,rfl,fun i hi=>absurd hi (by omega)⟩
    case round =>
     obtain⟨k,hk,rfl,rfl,M⟩:=hrel
     by_cases hlt:k<8
     ·have c3:=CM.o k hlt;obtain⟨r0,r1⟩:=hr.at k hlt
      have k0:(0:Int)<=(k:Int):=by omega
      have k1:(k:Int)<8:=by omega
      have MN:=zaa (fun e=>yamz (zs:=x.map) (size:=x.size) hlt e);have MS:=zaa (fun e=>yabn (k:=k) M.o e);generalize x.map.getD k 0=z at c3 r0 r1 MN MS;clear CM CA M
      cases ht:zef z with
      | false =>
       have F:=zaa (show zdp x=false by rw[E.o,MN.o (by unfold zpp;rw[ht];rfl),Bool.false_and]);have T:=zaa ht;clear ht MN MS E;go_wp2_with fail;refine(zeg _ _ r0 r1).mono ?_;rintro e w' ⟨rfl,rfl⟩;rw[T.o];go_wp2;go_ret;exact⟨zag F.o.symm,B.o⟩
      | true =>
       by_cases hz:z=0
       ·have q:(z != 0)=false:=by rw[hz];rfl
        have G:=zaa (MS.o (by unfold zpp;rw[ht,hz];rfl));have T:=zaa ht;clear ht MN MS hz;go_wp2_with fail;refine(zeg _ _ r0 r1).mono ?_;rintro e w' ⟨rfl,rfl⟩;rw[T.o];go_wp2
        go_roundw
        case rel=>exact⟨k+1,by omega,by go_num,trivial,G⟩
        case measure=>simp[intOf];omega
       ·have q:(z != 0)=true:=by rw[bne_iff_ne];exact hz
        have qz:(z == 0)=false:=by rw[beq_eq_false_iff_ne];exact hz
        by_cases hs:(k:Int)<x.size
        ·have q2:¬ x.size<=(k:Int):=by omega
         have G:=zaa (MS.o (by unfold zpp;rw[ht,qz,decide_eq_true hs];rfl));have T:=zaa ht;clear ht MN MS hz hs qz;go_wp2_with fail;refine(zeg _ _ r0 r1).mono ?_;rintro e w' ⟨rfl,rfl⟩;rw[T.o];go_wp2
         go_roundw
         case rel=>exact⟨k+1,by omega,by go_num,trivial,G⟩
         case measure=>simp[intOf];omega
        ·have q2:x.size<=(k:Int):=by omega
         have F:=zaa (show zdp x=false by rw[E.o,MN.o (by unfold zpp;rw[ht,qz,decide_eq_false hs];rfl),Bool.false_and]);have T:=zaa ht;clear ht MN MS hz hs qz E;go_wp2_with fail;refine(zeg _ _ r0 r1).mono ?_;rintro e w' ⟨rfl,rfl⟩;rw[T.o];go_wp2;go_ret;exact⟨zag F.o.symm,B.o⟩
     ·obtain rfl:k=8:=by omega
      have F:=zaa (show zdp x=zex x by rw[E.o,zro M.o,Bool.true_and]);clear E M CM
      rcases(show x.kind=0\/x.kind=1\/x.kind=2 by have:=H.o;omega)with hz | hz | hz
      ·have K:=zaa (show zex x=decide (x.size=0/\x.links=0/\x.map=[0,0,0,0,0,0,0,0]) by unfold zex;rw[if_pos hz]);rw[hz]at c0;have c3:wr.cell? ⟨w.heap.size,3,none⟩=some (.I x.m0):=CA.o 3;have c4:wr.cell? ⟨w.heap.size,4,none⟩=some (.I x.m1):=CA.o 4;have c5:wr.cell? ⟨w.heap.size,5,none⟩=some (.I x.m2):=CA.o 5;have c6:wr.cell? ⟨w.heap.size,6,none⟩=some (.I x.m3):=CA.o 6;have c7:wr.cell? ⟨w.heap.size,7,none⟩=some (.I x.m4):=CA.o 7;have c8:wr.cell? ⟨w.heap.size,8,none⟩=some (.I x.m5):=CA.o 8;have c9:wr.cell? ⟨w.heap.size,9,none⟩=some (.I x.m6):=CA.o 9;have c10:wr.cell? ⟨w.heap.size,10,none⟩=some (.I x.m7):=CA.o 10;clear CA;go_wp2
       all_goals
        go_ret;refine⟨zag ?_,B.o⟩;rw[F.o,K.o,eq_comm];clear c0 c1 c2 c3 c4 c5 c6 c7 c8 c9 c10;rename_i h9
        simp_all [Ino.map]
      ·have K:=zaa (show zex x=decide (0<x.links) by unfold zex;rw[if_neg (by omega),if_neg (by omega)]);rw[hz]at c0;clear CA;go_wp2;go_ret;exact⟨zag (by rw[F.o,K.o]),B.o⟩
      ·have K:=zaa (show zex x=(x.size == 0&&x.links == 1) by unfold zex;rw[if_neg (by omega),if_pos hz]);rw[hz]at c0;clear CA
       cases hq:(x.size == 0)
       all_goals
        rw[hq]at K;go_wp2;go_ret;exact⟨zag (by rw[F.o,K.o];rfl),B.o⟩
   ·have E:=zaa (show zdp x=false by unfold zdp;rw[decide_eq_false h2,Bool.false_and,Bool.and_false,Bool.and_false]);go_enter Tryz.func88,Tryz.ntmps88;go_wp2_with fail;refine(zbg _ _ _ _ h0).mono ?_;rintro e w' ⟨rfl,rfl⟩;go_wp2_with fail;refine(zbg _ _ _ _ h1).mono ?_;rintro e w' ⟨rfl,rfl⟩;go_wp2_with fail;refine(zfl _ _ _ _ h2).mono ?_;rintro e w' ⟨rfl,rfl⟩;go_wp2;go_ret;exact⟨zag E.o.symm,B.o⟩
  ·have E:=zaa (show zdp x=false by unfold zdp;rw[decide_eq_false h1,Bool.false_and,Bool.and_false]);go_enter Tryz.func88,Tryz.ntmps88;go_wp2_with fail;refine(zbg _ _ _ _ h0).mono ?_;rintro e w' ⟨rfl,rfl⟩;go_wp2_with fail;refine(zfl _ _ _ _ h1).mono ?_;rintro e w' ⟨rfl,rfl⟩;go_wp2;go_ret;exact⟨zag E.o.symm,B.o⟩
 ·have E:=zaa (show zdp x=false by unfold zdp;rw[decide_eq_false h0,Bool.false_and]);go_enter Tryz.func88,Tryz.ntmps88;go_wp2_with fail;refine(zfl _ _ _ _ h0).mono ?_;rintro e w' ⟨rfl,rfl⟩;go_wp2;go_ret;exact⟨zag E.o.symm,B.o⟩
structure Se where
 at_:Int
 val:Int
deriving DecidableEq
def Se.cells(s:Se):List Value:=[.I s.at_,.I s.val]
def ses(ps:List Se):List Value:=ps.flatMap Se.cells
theorem Se.cells_len(s:Se):s.cells.length=2:=rfl
theorem zsh(ps:List Se)(k:Nat)(h:k<ps.length):(ses ps)[k*2]?=some (.I ps[k].at_):=zbh _ 2 Se.cells_len ps k 0 h (by omega)
theorem yafk(ps:List Se)(k:Nat)(h:k<ps.length):(ses ps)[k*2+1]?=some (.I ps[k].val):=zbh _ 2 Se.cells_len ps k 1 h (by omega)
def RdE(w:World)(v:Value)(ps:List Se):Prop:=Rd w 2 v ps.length (ses ps)
theorem RdE.shape{w:World}{v:Value}{ps:List Se}(h:RdE w v ps):∃ ao cap,v=.slice ao ps.length cap/\ps.length<=cap/\(0<ps.length->∃ b o,ao=some ⟨b,o,none⟩/\b<w.heap.size /\
  ∀ k (h:k<ps.length),w.cell? ⟨b,o+k*2,none⟩=some (.I ps[k].at_)/\w.cell? ⟨b,o+k*2+1,none⟩=some (.I ps[k].val)):=by
 obtain⟨_,ao,cap,rfl,h2,h3⟩:=h;refine⟨ao,cap,rfl,h2.1,fun hn=>?_⟩;obtain⟨b,o,rfl,hb,hc⟩:=h3 hn;exact⟨b,o,rfl,hb,fun k hk=>⟨(hc (k*2) (by omega)).trans (zsh ps k hk),(hc (k*2+1) (by omega)).trans (yafk ps k hk)⟩⟩
theorem zxh:(Tryz.prog.info? 160).map (fun i=>(i.zero,i.size,i.bytes))=some (some (.agg #[.I 0,.I 0]),2,16):=by kernel_rfl
theorem zkb:(Tryz.prog.info? 104).map (fun i=>(i.zero,i.size,i.bytes))=some (some (.agg #[.I 0,.I 0]),2,16):=by kernel_rfl
theorem zig(w1:World)(x y:Int):Rd (w1.alloc (.cells #[.I x,.I y] 104)) 2 (.slice (some ⟨w1.heap.size,0,none⟩) 1 1) 1 (ses [⟨x,y⟩]):=by
 refine⟨rfl,_,_,rfl,⟨Nat.le_refl _,fun e=>by cases e⟩,fun _=>⟨w1.heap.size,0,rfl,by simp,fun j hj=>?_⟩⟩;obtain⟨e0,e1,_,_⟩:=zac (zah (w:=w1) (o:=.cells #[.I x,.I y] 104) rfl)
 rcases(show j=0\/j=1 by omega)with rfl|rfl
 ·exact e0
 ·exact e1
theorem zev(l:List Se):∀ u∈ses l,u.oneCell'=true:=by
 intro u hu;simp only[ses,List.mem_flatMap]at hu;obtain⟨m,_,hm⟩:=hu;simp[Se.cells]at hm
 rcases hm with rfl|rfl<;>rfl
theorem yahm(l l':List Se):ses (l++l')=ses l++ses l':=by simp[ses]
structure UpI(W w:World)(vL:Value)(ls:List Se):Prop where
 l:w.ownsRow W.heap.size 104 2 vL ls.length (ses ls)
 b:zB W w
theorem UpI.z{W w:World}{vL:Value}{ls:List Se}(h:UpI W w vL ls):W.heap.size<=w.heap.size:=h.b.size
theorem UpI.below{W w w':World}{vL:Value}{ls:List Se}(h:UpI W w vL ls)(hb:zB w w'):UpI W w' vL ls :=
 ⟨((zad h.l).below hb zL).1,zab h.b hb h.z⟩
theorem UpI.grow{W w w':World}{vL v':Value}{ls:List Se}(h:UpI W w vL ls)(ms:List Se)(ho:w'.ownsRow W.heap.size 104 2 v' (ls.length+ms.length) (ses ls++ses ms))(hg:w.grownBy w' vL.ownBlock):UpI W w' v' (ls++ms) :=
 ⟨by rw[yahm,List.length_append];exact ho,h.b.grown hg h.z (fun q hq=>(h.l.lt q hq).1)⟩
def wrL(i:Int)(x:Ino)(k:Nat):List Se:=[⟨48+12*i,x.kind⟩,⟨48+12*i+1,x.size⟩,⟨48+12*i+2,x.links⟩]++(List.range k).map (fun j=>⟨48+12*i+(3+(j:Int)),x.map.getD j 0⟩)
theorem zwy(i:Int)(x:Ino)(k:Nat):(wrL i x k).length=3+k:=by simp[wrL];omega
theorem yana(i:Int)(x:Ino)(k:Nat):wrL i x (k+1)=wrL i x k++[⟨48+12*i+(3+(k:Int)),x.map.getD k 0⟩]:=by
 unfold wrL;rw[List.range_succ,List.map_append,List.append_assoc];rfl
theorem zti(i:Int)(x:Ino)(w:World)(hi:0<=i/\i<16) :
  zC 203 #[.I i,x.v] w fun e w'=>∃ v',e=.returned v'/\Row w' 104 2 w.heap.size w'.heap.size v' (wrL i x 8).length (ses (wrL i x 8))/\zB w w':=by
 have hv:x.v=.agg x.cs.toArray:=rfl
 obtain⟨W,hW⟩:=zE (w.alloc (.cells x.cs.toArray 87))
 have CA:Hid (∀ w',zB W w'->∀ j,w'.cell? ⟨w.heap.size,j,none⟩=x.cs[j]?):=fun w' hb j=>by
  have:w'.heap[w.heap.size]?=some (.cells x.cs.toArray 87 (0,0)):=(hb.block _ (by rw[hW];simp)).trans (by rw[hW];exact zah rfl);exact(zak (xs:=x.cs) this j).1
 have BW:Hid (zB w W):=by rw[hW];exact zR.alloc zL _
 have c0:W.cell? ⟨w.heap.size,0,none⟩=some (.I x.kind):=CA.o W zR 0;have c1:W.cell? ⟨w.heap.size,1,none⟩=some (.I x.size):=CA.o W zR 1;have c2:W.cell? ⟨w.heap.size,2,none⟩=some (.I x.links):=CA.o W zR 2
 have hWz:w.heap.size<W.heap.size:=by rw[hW];simp
 rw[hv];go_enter Tryz.func203,Tryz.ntmps203
 have SK:Hid (∀ w',zB W w'->w'.cell? ⟨w.heap.size,0,none⟩=some (.I x.kind)/\w'.cell? ⟨w.heap.size,1,none⟩=some (.I x.size)/\w'.cell? ⟨w.heap.size,2,none⟩=some (.I x.links)):=fun w' hb=>⟨CA.o w' hb 0,CA.o w' hb 1,CA.o w' hb 2⟩
 go_wp2_with fail;rw[<- hW];clear hW c0 c1 c2
 go_region_held3 (fun w'=>w'.cell? ⟨w.heap.size,0,none⟩=some (.I x.kind)/\w'.cell? ⟨w.heap.size,1,none⟩=some (.I x.size)/\w'.cell? ⟨w.heap.size,2,none⟩=some (.I x.links))
  (exact SK.o _ (by repeat (first | exact zR | refine Below.drew ?_ | refine Below.alloc ?_ (by simp) _)))
  (first | (go_at_call 93;refine(zay _ _ _ hi (by omega)).mono ?_;rintro e w' ⟨rfl,hw'⟩;subst w'))
 have START:Hid (UpI W (W.alloc (.cells #[.I (48+12*i),.I x.kind,.I (48+12*i+1),.I x.size,.I (48+12*i+2),.I x.links] 104)).drew (.slice (some ⟨W.heap.size,0,none⟩) 3 3) (wrL i x 0)) :=
  UpI.below (w:=W.alloc (.cells #[.I (48+12*i),.I x.kind,.I (48+12*i+1),.I x.size,.I (48+12*i+2),.I x.links] 104)) ⟨World.ownsRow_lit W _ 3 zL (by simp[maxLen]) rfl,zR.alloc zL _⟩ (zR.drew)
 clear SK;go_wp2
 go_loopw [5,6] (fun vL i' wr=>∃ m:Nat,m<=8/\i'=.I m/\Hid (UpI W wr vL (wrL i x m))) (fun _ i' _=>8-(intOf i').toNat)
 case atStart=>exact⟨0,by omega,rfl,START⟩
 case round =>
  obtain⟨m,hm,rfl,J⟩:=hrel;clear START
  have m0:(0:Int)<=(m:Int):=by omega
  by_cases hlt:m<8
  ·have m1:(m:Int)<8:=by omega
   have SK:Hid (∀ w',zB W w'->w'.cell? ⟨w.heap.size,3+m,none⟩=some (.I (x.map.getD m 0))):=fun w' hb=>(CA.o w' hb (3+m)).trans (x.at m hlt)
   have x1:=SK.o wr J.o.b;have EM:=zaa (yana i x m);have l1:=zwy i x m
   have l2:(wrL i x m).length<=11:=by omega
   have li:=hi.1;have lj:=hi.2
   have wp1:IntKind.i64.wrap (3+(m:Int))=3+(m:Int):=by rw[IntKind.wrap_i64];omega
   generalize x.map.getD m 0=y at *;have J4:=zaa (J.o.below (zR.alloc zL (.cells #[.I (48+12*i+(3+(m:Int))),.I y] 104)));have J4d:=zaa ((J.o.below ((Below.refl wr.heap.size wr).drew)).below (zR.alloc zL (.cells #[.I (48+12*i+(3+(m:Int))),.I y] 104)));have HRD:=zaa (zig wr (48+12*i+(3+(m:Int))) y);have HRDd:=zaa (zig wr.drew (48+12*i+(3+(m:Int))) y);clear l1;go_wp2_with fail
   go_region_held3 (fun w'=>w'.cell? ⟨w.heap.size,3+m,none⟩=some (.I y))
    (first | exact SK.o _ G.o.b | exact SK.o _ J.o.b | exact SK.o _ J.o.b.drew | exact SK.o _ J4.o.b | exact SK.o _ J4d.o.b)
    (first
     | (go_at_call 93;refine(zay _ _ _ hi (by omega)).mono ?_;rintro e w' ⟨rfl,hw'⟩;subst w')
     | (refine zan rfl (.tmp 27) (.tmp 37) 58 rfl W.heap.size 104 (.agg #[.I 0,.I 0]) 2 16 Tryz.underlying58 zkb rfl (by decide) _ (wrL i x m).length (ses (wrL i x m)) rfl (by first | exact J4.o.l | exact J4d.o.l) _ 1 (ses [⟨48+12*i+(3+(m:Int)),y⟩]) rfl (by first | exact HRD.o | exact HRDd.o) (zev _) (by simp[maxLen];omega) (by omega) (by first | exact J4.o.z | exact J4d.o.z) ?_;intro vN wN hownN hgrN;have G:=(by first | exact zaa (J4.o.grow [⟨48+12*i+(3+(m:Int)),y⟩] hownN hgrN) | exact zaa (J4d.o.grow [⟨48+12*i+(3+(m:Int)),y⟩] hownN hgrN):Hid (UpI W wN vN (wrL i x m++[⟨48+12*i+(3+(m:Int)),y⟩])));clear hownN hgrN))
   all_goals
    rw[<- EM.o]at G;clear J J4 J4d HRD HRDd x1 SK;go_wp2
    go_roundw
    case rel=>exact⟨m+1,by omega,by go_num,G⟩
    case measure=>simp[intOf];omega
  ·obtain rfl:m=8:=by omega
   obtain⟨-,aL,cL,hvL,-⟩:=(zad J.o.l).rd;subst hvL;go_wp2;go_ret;exact⟨_,rfl,(zad J.o.l).wide (by omega) zL,zab BW.o (J.o.b) (by omega)⟩
end Go.Proofs.YtogcbbkhnpmgeaaGreatDoor
