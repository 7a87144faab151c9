import Derived.Test.YtdiaiejmoocpmaaGreatDoorZAA
import Derived.Deep.RegionWith
import Derived.Deep.RegionHeld3
import Derived.Laws.OwnMore
set_option maxRecDepth 100000
set_option maxHeartbeats 2000000
namespace Go.Proofs.YtdiaiejmoocpmaaGreatDoor
open Go.RowKit
def zsv(i:Nat)(z size:Int):Bool:=zeo z&&(z == 0||decide ((i:Int)<size))
def yala(zs:List Int)(size:Int)(k:Nat):Prop:=∀ i,i<k->zsv i (zs.getD i 0) size=true
def mapB(zs:List Int)(size:Int):Bool:=(List.range 8).all fun i=>zsv i (zs.getD i 0) size
theorem zwm{zs:List Int}{size:Int}(h:yala zs size 8):mapB zs size=true:=by
 unfold mapB;rw[List.all_eq_true];intro i hi;exact h i (List.mem_range.1 hi)
theorem zhp{zs:List Int}{size:Int}(h:mapB zs size=true):yala zs size 8:=by
 unfold mapB at h;rw[List.all_eq_true]at h;intro i hi;exact h i (List.mem_range.2 hi)
theorem yatc{zs:List Int}{size:Int}{k:Nat}(hk:k<8)(h:zsv k (zs.getD k 0) size=false):mapB zs size=false:=by
 rw[Bool.eq_false_iff];intro e;rw[zhp e k hk]at h;exact absurd h (by decide)
theorem yahs{zs:List Int}{size:Int}{k:Nat}(h:yala zs size k)(g:zsv k (zs.getD k 0) size=true):yala zs size (k+1):=by
 intro i hi
 by_cases e:i=k
 ·rw[e];exact g
 ·exact h i (by omega)
def zfy(x:Ino):Bool:=if x.kind=0 then decide (x.size=0/\x.links=0/\x.map=[0,0,0,0,0,0,0,0])else if x.kind=2 then x.size == 0&&x.links == 1 else decide (0<x.links)
def zer(x:Ino):Bool:=decide (0<=x.kind/\x.kind<=2)&&(decide (0<=x.size/\x.size<=8)&&(decide (0<=x.links/\x.links<=24)&&(mapB x.map x.size&&zfy x)))
def Ino.R(x:Ino):Prop:=∀ z∈x.map,-9223372036854775808<=z/\z<=9223372036854775807
theorem Ino.len(x:Ino):x.map.length=8:=rfl
theorem Ino.at(x:Ino)(k:Nat)(hk:k<8):x.cs[3+k]?=some (.I (x.map.getD k 0)):=by
 rcases(show k=0\/k=1\/k=2\/k=3\/k=4\/k=5\/k=6\/k=7 by omega)with rfl|rfl|rfl|rfl|rfl|rfl|rfl|rfl<;>rfl
theorem Ino.R.at{x:Ino}(h:x.R)(k:Nat)(hk:k<8):-9223372036854775808<=x.map.getD k 0/\x.map.getD k 0<=9223372036854775807:=by
 have e:x.map.getD k 0=x.map[k]'(by rw[x.len];exact hk):=by rw[List.getD_eq_getElem?_getD,List.getElem?_eq_getElem (by rw[x.len];exact hk)];rfl
 rw[e];exact h _ (List.getElem_mem _)
@[go_sem] theorem ybbw(m0 m1 m2 m3 m4 m5 m6 m7:Int)(w:World):(Op.equalIn 9999 57 (.agg #[.I m0,.I m1,.I m2,.I m3,.I m4,.I m5,.I m6,.I m7]) (.agg #[.I 0,.I 0,.I 0,.I 0,.I 0,.I 0,.I 0,.I 0])).run Tryz.prog w=.ok (decide ([m0,m1,m2,m3,m4,m5,m6,m7]=[0,0,0,0,0,0,0,0])) w:=by
 have u3:=Tryz.underlying3;have a3:=Tryz.isAgg3;have z3:=Tryz.sizeOf3;rw[show(9999:Nat)=9998+1 from rfl,Op.equalIn];simp only[Sem.run_bind,run_underlying Tryz.underlying57,Result.andThen_ok];simp only[Std.Legacy.Range.forIn_eq_forIn_range',Std.Legacy.Range.size,Nat.sub_zero,Nat.add_sub_cancel,Nat.div_one,List.range'_succ,List.range'_zero,List.forIn_cons,List.forIn_nil];go_simp
 by_cases h0:m0=0
 case neg=>simp[h0]
 by_cases h1:m1=0
 case neg=>simp[h0,h1]
 by_cases h2:m2=0
 case neg=>simp[h0,h1,h2]
 by_cases h3:m3=0
 case neg=>simp[h0,h1,h2,h3]
 by_cases h4:m4=0
 case neg=>simp[h0,h1,h2,h3,h4]
 by_cases h5:m5=0
 case neg=>simp[h0,h1,h2,h3,h4,h5]
 by_cases h6:m6=0
 case neg=>simp[h0,h1,h2,h3,h4,h5,h6]
 by_cases h7:m7=0
 case neg=>simp[h0,h1,h2,h3,h4,h5,h6,h7]
 simp[h0,h1,h2,h3,h4,h5,h6,h7]
theorem zzd(x:Ino)(w:World)(hr:x.R):zC 150 #[x.v] w fun e w'=>e=.returned (.bool (zer x))/\zB w w':=by
 have hv:x.v=.agg x.cs.toArray:=rfl;have c0:(w.alloc (.cells x.cs.toArray 59)).cell? ⟨w.heap.size,0,none⟩=some (.I x.kind):=(zak (xs:=x.cs) (zaf rfl) 0).1;have c1:(w.alloc (.cells x.cs.toArray 59)).cell? ⟨w.heap.size,1,none⟩=some (.I x.size):=(zak (xs:=x.cs) (zaf rfl) 1).1;have c2:(w.alloc (.cells x.cs.toArray 59)).cell? ⟨w.heap.size,2,none⟩=some (.I x.links):=(zak (xs:=x.cs) (zaf rfl) 2).1;have CM:=zaa (show ∀ k,k<8->(w.alloc (.cells x.cs.toArray 59)).cell? ⟨w.heap.size,3+k,none⟩=some (.I (x.map.getD k 0))from fun k hk=>((zak (xs:=x.cs) (zaf rfl) (3+k)).1).trans (x.at k hk));have B:=zaa ((Below.refl w.heap.size w).alloc zL (.cells x.cs.toArray 59));rw[hv]
 by_cases h0:0<=x.kind/\x.kind<=2
 ·by_cases h1:0<=x.size/\x.size<=8
  ·by_cases h2:0<=x.links/\x.links<=24
   ·have E:=zaa (show zer x=(mapB x.map x.size&&zfy x) by unfold zer;rw[decide_eq_true h0,decide_eq_true h1,decide_eq_true h2];rfl);have H:=zaa (And.intro h0 (And.intro h1 h2));clear h0 h1 h2;go_enter Tryz.func150,Tryz.ntmps150;go_wp2_with fail;refine(zbr _ _ _ _ H.o.1).mono ?_;rintro e w' ⟨rfl,rfl⟩;go_wp2_with fail;refine(zbr _ _ _ _ H.o.2.1).mono ?_;rintro e w' ⟨rfl,rfl⟩;go_wp2_with fail;refine(zbr _ _ _ _ H.o.2.2).mono ?_;rintro e w' ⟨rfl,rfl⟩;go_wp2
    obtain⟨wa,hwa⟩:=zE (w.alloc (.cells x.cs.toArray 59))
    rw[<- hwa]at c0 c1 c2 CM B ⊢;have CA:=zaa (show ∀ j,wa.cell? ⟨w.heap.size,j,none⟩=x.cs[j]? by rw[hwa];exact fun j=>(zak (xs:=x.cs) (zaf rfl) j).1);clear hwa
    go_loopw [3] (fun i wr=>∃ k:Nat,k<=8/\i=.I k/\wr=wa/\Hid (yala x.map x.size k)) (fun i _=>8-(intOf i).toNat)
    case atStart=>exact⟨0,by omega,rfl,rfl,fun i hi=>absurd hi (by omega)⟩
    case round =>
     obtain⟨k,hk,rfl,rfl,M⟩:=hrel
     by_cases hlt:k<8
     ·have c3:=CM.o k hlt;obtain⟨r0,r1⟩:=hr.at k hlt
      have k0:(0:Int)<=(k:Int):=by omega
      have k1:(k:Int)<8:=by omega
      have MN:=zaa (fun e=>yatc (zs:=x.map) (size:=x.size) hlt e);have MS:=zaa (fun e=>yahs (k:=k) M.o e);generalize x.map.getD k 0=z at c3 r0 r1 MN MS;clear CM CA M
      cases ht:zeo z with
      | false =>
       have F:=zaa (show zer x=false by rw[E.o,MN.o (by unfold zsv;rw[ht];rfl),Bool.false_and]);have T:=zaa ht;clear ht MN MS E;go_wp2_with fail;refine(zfk _ _ r0 r1).mono ?_;rintro e w' ⟨rfl,rfl⟩;rw[T.o];go_wp2;go_ret;exact⟨zag F.o.symm,B.o⟩
      | true =>
       by_cases hz:z=0
       ·have q:(z != 0)=false:=by rw[hz];rfl
        have G:=zaa (MS.o (by unfold zsv;rw[ht,hz];rfl));have T:=zaa ht;clear ht MN MS hz;go_wp2_with fail;refine(zfk _ _ r0 r1).mono ?_;rintro e w' ⟨rfl,rfl⟩;rw[T.o];go_wp2
        go_roundw
        case rel=>exact⟨k+1,by omega,by go_num,trivial,G⟩
        case measure=>simp[intOf];omega
       ·have q:(z != 0)=true:=by rw[bne_iff_ne];exact hz
        have qz:(z == 0)=false:=by rw[beq_eq_false_iff_ne];exact hz
        by_cases hs:(k:Int)<x.size
        ·have q2:¬ x.size<=(k:Int):=by omega
         have G:=zaa (MS.o (by unfold zsv;rw[ht,qz,decide_eq_true hs];rfl));have T:=zaa ht;clear ht MN MS hz hs qz;go_wp2_with fail;refine(zfk _ _ r0 r1).mono ?_;rintro e w' ⟨rfl,rfl⟩;rw[T.o];go_wp2
         go_roundw
         case rel=>exact⟨k+1,by omega,by go_num,trivial,G⟩
         case measure=>simp[intOf];omega
        ·have q2:x.size<=(k:Int):=by omega
         have F:=zaa (show zer x=false by rw[E.o,MN.o (by unfold zsv;rw[ht,qz,decide_eq_false hs];rfl),Bool.false_and]);have T:=zaa ht;clear ht MN MS hz hs qz E;go_wp2_with fail;refine(zfk _ _ r0 r1).mono ?_;rintro e w' ⟨rfl,rfl⟩;rw[T.o];go_wp2;go_ret;exact⟨zag F.o.symm,B.o⟩
     ·obtain rfl:k=8:=by omega
      have F:=zaa (show zer x=zfy x by rw[E.o,zwm M.o,Bool.true_and]);clear E M CM
      rcases(show x.kind=0\/x.kind=1\/x.kind=2 by have:=H.o;omega)with hz | hz | hz
      ·have K:=zaa (show zfy x=decide (x.size=0/\x.links=0/\x.map=[0,0,0,0,0,0,0,0]) by unfold zfy;rw[if_pos hz]);rw[hz]at c0;have c3:wr.cell? ⟨w.heap.size,3,none⟩=some (.I x.m0):=CA.o 3;have c4:wr.cell? ⟨w.heap.size,4,none⟩=some (.I x.m1):=CA.o 4;have c5:wr.cell? ⟨w.heap.size,5,none⟩=some (.I x.m2):=CA.o 5;have c6:wr.cell? ⟨w.heap.size,6,none⟩=some (.I x.m3):=CA.o 6;have c7:wr.cell? ⟨w.heap.size,7,none⟩=some (.I x.m4):=CA.o 7;have c8:wr.cell? ⟨w.heap.size,8,none⟩=some (.I x.m5):=CA.o 8;have c9:wr.cell? ⟨w.heap.size,9,none⟩=some (.I x.m6):=CA.o 9;have c10:wr.cell? ⟨w.heap.size,10,none⟩=some (.I x.m7):=CA.o 10;clear CA;go_wp2
       all_goals
        go_ret;refine⟨zag ?_,B.o⟩;rw[F.o,K.o,eq_comm];clear c0 c1 c2 c3 c4 c5 c6 c7 c8 c9 c10;rename_i h9
        simp_all [Ino.map]
      ·have K:=zaa (show zfy x=decide (0<x.links) by unfold zfy;rw[if_neg (by omega),if_neg (by omega)]);rw[hz]at c0;clear CA;go_wp2;go_ret;exact⟨zag (by rw[F.o,K.o]),B.o⟩
      ·have K:=zaa (show zfy x=(x.size == 0&&x.links == 1) by unfold zfy;rw[if_neg (by omega),if_pos hz]);rw[hz]at c0;clear CA
       cases hq:(x.size == 0)
       all_goals
        rw[hq]at K;go_wp2;go_ret;exact⟨zag (by rw[F.o,K.o];rfl),B.o⟩
   ·have E:=zaa (show zer x=false by unfold zer;rw[decide_eq_false h2,Bool.false_and,Bool.and_false,Bool.and_false]);go_enter Tryz.func150,Tryz.ntmps150;go_wp2_with fail;refine(zbr _ _ _ _ h0).mono ?_;rintro e w' ⟨rfl,rfl⟩;go_wp2_with fail;refine(zbr _ _ _ _ h1).mono ?_;rintro e w' ⟨rfl,rfl⟩;go_wp2_with fail;refine(zgs _ _ _ _ h2).mono ?_;rintro e w' ⟨rfl,rfl⟩;go_wp2;go_ret;exact⟨zag E.o.symm,B.o⟩
  ·have E:=zaa (show zer x=false by unfold zer;rw[decide_eq_false h1,Bool.false_and,Bool.and_false]);go_enter Tryz.func150,Tryz.ntmps150;go_wp2_with fail;refine(zbr _ _ _ _ h0).mono ?_;rintro e w' ⟨rfl,rfl⟩;go_wp2_with fail;refine(zgs _ _ _ _ h1).mono ?_;rintro e w' ⟨rfl,rfl⟩;go_wp2;go_ret;exact⟨zag E.o.symm,B.o⟩
 ·have E:=zaa (show zer x=false by unfold zer;rw[decide_eq_false h0,Bool.false_and]);go_enter Tryz.func150,Tryz.ntmps150;go_wp2_with fail;refine(zgs _ _ _ _ h0).mono ?_;rintro e w' ⟨rfl,rfl⟩;go_wp2;go_ret;exact⟨zag E.o.symm,B.o⟩
structure Se where
 at_:Int
 val:Int
deriving DecidableEq
def Se.cells(s:Se):List Value:=[.I s.at_,.I s.val]
def ses(ps:List Se):List Value:=ps.flatMap Se.cells
theorem Se.cells_len(s:Se):s.cells.length=2:=rfl
theorem zvc(ps:List Se)(k:Nat)(h:k<ps.length):(ses ps)[k*2]?=some (.I ps[k].at_):=zbt _ 2 Se.cells_len ps k 0 h (by omega)
theorem yalv(ps:List Se)(k:Nat)(h:k<ps.length):(ses ps)[k*2+1]?=some (.I ps[k].val):=zbt _ 2 Se.cells_len ps k 1 h (by omega)
def RdE(w:World)(v:Value)(ps:List Se):Prop:=Rd w 2 v ps.length (ses ps)
theorem RdE.shape{w:World}{v:Value}{ps:List Se}(h:RdE w v ps):∃ ao cap,v=.slice ao ps.length cap/\ps.length<=cap/\(0<ps.length->∃ b o,ao=some ⟨b,o,none⟩/\b<w.heap.size /\
  ∀ k (h:k<ps.length),w.cell? ⟨b,o+k*2,none⟩=some (.I ps[k].at_)/\w.cell? ⟨b,o+k*2+1,none⟩=some (.I ps[k].val)):=by
 obtain⟨_,ao,cap,rfl,h2,h3⟩:=h;refine⟨ao,cap,rfl,h2.1,fun hn=>?_⟩;obtain⟨b,o,rfl,hb,hc⟩:=h3 hn;exact⟨b,o,rfl,hb,fun k hk=>⟨(hc (k*2) (by omega)).trans (zvc ps k hk),(hc (k*2+1) (by omega)).trans (yalv ps k hk)⟩⟩
theorem zqn:(Tryz.prog.info? 153).map (fun i=>(i.zero,i.size,i.bytes))=some (some (.agg #[.I 0,.I 0]),2,16):=by kernel_rfl
theorem zmj:(Tryz.prog.info? 114).map (fun i=>(i.zero,i.size,i.bytes))=some (some (.agg #[.I 0,.I 0]),2,16):=by kernel_rfl
theorem zkk(w1:World)(x y:Int):Rd (w1.alloc (.cells #[.I x,.I y] 114)) 2 (.slice (some ⟨w1.heap.size,0,none⟩) 1 1) 1 (ses [⟨x,y⟩]):=by
 refine⟨rfl,_,_,rfl,⟨Nat.le_refl _,fun e=>by cases e⟩,fun _=>⟨w1.heap.size,0,rfl,by simp,fun j hj=>?_⟩⟩;obtain⟨e0,e1,_,_⟩:=zac (zaf (w:=w1) (o:=.cells #[.I x,.I y] 114) rfl)
 rcases(show j=0\/j=1 by omega)with rfl|rfl
 ·exact e0
 ·exact e1
theorem zgc(l:List Se):∀ u∈ses l,u.oneCell'=true:=by
 intro u hu;simp only[ses,List.mem_flatMap]at hu;obtain⟨m,_,hm⟩:=hu;simp[Se.cells]at hm
 rcases hm with rfl|rfl<;>rfl
theorem yanj(l l':List Se):ses (l++l')=ses l++ses l':=by simp[ses]
structure UpI(W w:World)(vL:Value)(ls:List Se):Prop where
 l:w.ownsRow W.heap.size 114 2 vL ls.length (ses ls)
 b:zB W w
theorem UpI.z{W w:World}{vL:Value}{ls:List Se}(h:UpI W w vL ls):W.heap.size<=w.heap.size:=h.b.size
theorem UpI.below{W w w':World}{vL:Value}{ls:List Se}(h:UpI W w vL ls)(hb:zB w w'):UpI W w' vL ls :=
 ⟨((zad h.l).below hb zL).1,zab h.b hb h.z⟩
theorem UpI.grow{W w w':World}{vL v':Value}{ls:List Se}(h:UpI W w vL ls)(ms:List Se)(ho:w'.ownsRow W.heap.size 114 2 v' (ls.length+ms.length) (ses ls++ses ms))(hg:w.grownBy w' vL.ownBlock):UpI W w' v' (ls++ms) :=
 ⟨by rw[yanj,List.length_append];exact ho,h.b.grown hg h.z (fun q hq=>(h.l.lt q hq).1)⟩
def wrL(i:Int)(x:Ino)(k:Nat):List Se:=[⟨48+12*i,x.kind⟩,⟨48+12*i+1,x.size⟩,⟨48+12*i+2,x.links⟩]++(List.range k).map (fun j=>⟨48+12*i+(3+(j:Int)),x.map.getD j 0⟩)
theorem yace(i:Int)(x:Ino)(k:Nat):(wrL i x k).length=3+k:=by simp[wrL];omega
theorem yarp(i:Int)(x:Ino)(k:Nat):wrL i x (k+1)=wrL i x k++[⟨48+12*i+(3+(k:Int)),x.map.getD k 0⟩]:=by
 unfold wrL;rw[List.range_succ,List.map_append,List.append_assoc];rfl
theorem zzi(i:Int)(x:Ino)(w:World)(hi:0<=i/\i<16) :
  zC 199 #[.I i,x.v] w fun e w'=>∃ v',e=.returned v'/\Row w' 114 2 w.heap.size w'.heap.size v' (wrL i x 8).length (ses (wrL i x 8))/\zB w w':=by
 have hv:x.v=.agg x.cs.toArray:=rfl
 obtain⟨W,hW⟩:=zE (w.alloc (.cells x.cs.toArray 59))
 have CA:Hid (∀ w',zB W w'->∀ j,w'.cell? ⟨w.heap.size,j,none⟩=x.cs[j]?):=fun w' hb j=>by
  have:w'.heap[w.heap.size]?=some (.cells x.cs.toArray 59 (0,0)):=(hb.block _ (by rw[hW];simp)).trans (by rw[hW];exact zaf rfl);exact(zak (xs:=x.cs) this j).1
 have BW:Hid (zB w W):=by rw[hW];exact zR.alloc zL _
 have c0:W.cell? ⟨w.heap.size,0,none⟩=some (.I x.kind):=CA.o W zR 0;have c1:W.cell? ⟨w.heap.size,1,none⟩=some (.I x.size):=CA.o W zR 1;have c2:W.cell? ⟨w.heap.size,2,none⟩=some (.I x.links):=CA.o W zR 2
 have hWz:w.heap.size<W.heap.size:=by rw[hW];simp
 rw[hv];go_enter Tryz.func199,Tryz.ntmps199
 have SK:Hid (∀ w',zB W w'->w'.cell? ⟨w.heap.size,0,none⟩=some (.I x.kind)/\w'.cell? ⟨w.heap.size,1,none⟩=some (.I x.size)/\w'.cell? ⟨w.heap.size,2,none⟩=some (.I x.links)):=fun w' hb=>⟨CA.o w' hb 0,CA.o w' hb 1,CA.o w' hb 2⟩
 go_wp2_with fail;rw[<- hW];clear hW c0 c1 c2
 go_region_held3 (fun w'=>w'.cell? ⟨w.heap.size,0,none⟩=some (.I x.kind)/\w'.cell? ⟨w.heap.size,1,none⟩=some (.I x.size)/\w'.cell? ⟨w.heap.size,2,none⟩=some (.I x.links))
  (exact SK.o _ (by repeat (first | exact zR | refine Below.drew ?_ | refine Below.alloc ?_ (by simp) _)))
  (first | (go_at_call 71;refine(zbf _ _ _ hi (by omega)).mono ?_;rintro e w' ⟨rfl,hw'⟩;subst w'))
 have START:Hid (UpI W (W.alloc (.cells #[.I (48+12*i),.I x.kind,.I (48+12*i+1),.I x.size,.I (48+12*i+2),.I x.links] 114)).drew (.slice (some ⟨W.heap.size,0,none⟩) 3 3) (wrL i x 0)) :=
  UpI.below (w:=W.alloc (.cells #[.I (48+12*i),.I x.kind,.I (48+12*i+1),.I x.size,.I (48+12*i+2),.I x.links] 114)) ⟨World.ownsRow_lit W _ 3 zL (by simp[maxLen]) rfl,zR.alloc zL _⟩ (zR.drew)
 clear SK;go_wp2
 go_loopw [5,6] (fun vL i' wr=>∃ m:Nat,m<=8/\i'=.I m/\Hid (UpI W wr vL (wrL i x m))) (fun _ i' _=>8-(intOf i').toNat)
 case atStart=>exact⟨0,by omega,rfl,START⟩
 case round =>
  obtain⟨m,hm,rfl,J⟩:=hrel;clear START
  have m0:(0:Int)<=(m:Int):=by omega
  by_cases hlt:m<8
  ·have m1:(m:Int)<8:=by omega
   have SK:Hid (∀ w',zB W w'->w'.cell? ⟨w.heap.size,3+m,none⟩=some (.I (x.map.getD m 0))):=fun w' hb=>(CA.o w' hb (3+m)).trans (x.at m hlt)
   have x1:=SK.o wr J.o.b;have EM:=zaa (yarp i x m);have l1:=yace i x m
   have l2:(wrL i x m).length<=11:=by omega
   have li:=hi.1;have lj:=hi.2
   have wp1:IntKind.i64.wrap (3+(m:Int))=3+(m:Int):=by rw[IntKind.wrap_i64];omega
   generalize x.map.getD m 0=y at *;have J4:=zaa (J.o.below (zR.alloc zL (.cells #[.I (48+12*i+(3+(m:Int))),.I y] 114)));have J4d:=zaa ((J.o.below ((Below.refl wr.heap.size wr).drew)).below (zR.alloc zL (.cells #[.I (48+12*i+(3+(m:Int))),.I y] 114)));have HRD:=zaa (zkk wr (48+12*i+(3+(m:Int))) y);have HRDd:=zaa (zkk wr.drew (48+12*i+(3+(m:Int))) y);clear l1;go_wp2_with fail
   go_region_held3 (fun w'=>w'.cell? ⟨w.heap.size,3+m,none⟩=some (.I y))
    (first | exact SK.o _ G.o.b | exact SK.o _ J.o.b | exact SK.o _ J.o.b.drew | exact SK.o _ J4.o.b | exact SK.o _ J4d.o.b)
    (first
     | (go_at_call 71;refine(zbf _ _ _ hi (by omega)).mono ?_;rintro e w' ⟨rfl,hw'⟩;subst w')
     | (refine zap rfl (.tmp 27) (.tmp 37) 77 rfl W.heap.size 114 (.agg #[.I 0,.I 0]) 2 16 Tryz.underlying77 zmj rfl (by decide) _ (wrL i x m).length (ses (wrL i x m)) rfl (by first | exact J4.o.l | exact J4d.o.l) _ 1 (ses [⟨48+12*i+(3+(m:Int)),y⟩]) rfl (by first | exact HRD.o | exact HRDd.o) (zgc _) (by simp[maxLen];omega) (by omega) (by first | exact J4.o.z | exact J4d.o.z) ?_;intro vN wN hownN hgrN;have G:=(by first | exact zaa (J4.o.grow [⟨48+12*i+(3+(m:Int)),y⟩] hownN hgrN) | exact zaa (J4d.o.grow [⟨48+12*i+(3+(m:Int)),y⟩] hownN hgrN):Hid (UpI W wN vN (wrL i x m++[⟨48+12*i+(3+(m:Int)),y⟩])));clear hownN hgrN))
   all_goals
    rw[<- EM.o]at G;clear J J4 J4d HRD HRDd x1 SK;go_wp2
    go_roundw
    case rel=>exact⟨m+1,by omega,by go_num,G⟩
    case measure=>simp[intOf];omega
  ·obtain rfl:m=8:=by omega
   obtain⟨-,aL,cL,hvL,-⟩:=(zad J.o.l).rd;subst hvL;go_wp2;go_ret;exact⟨_,rfl,(zad J.o.l).wide (by omega) zL,zab BW.o (J.o.b) (by omega)⟩
end Go.Proofs.YtdiaiejmoocpmaaGreatDoor

namespace Go.Proofs.YtdiaiejmoocpmaaGreatDoor
def zsu(n:Nat):List Nat:=if _h:n=0 then[]else zsu (n/27)++[n%27]
termination_by n
decreasing_by omega
theorem zmn:zsu 0=[]:=by rw[zsu];simp
theorem zjv{n:Nat}(h:0<n):zsu n=zsu (n/27)++[n%27]:=by rw[zsu];simp[show n≠0 by omega]
def val(ds:List Nat):Nat:=ds.foldl (fun a d=>27*a+d) 0
theorem zpk(ds:List Nat)(d:Nat):val (ds++[d])=27*val ds+d:=by simp[val]
theorem yajt{n:Nat}(h:0<n):1<=(zsu n).length:=by rw[zjv h];simp
theorem yagr{α:Type}{P:List α->Prop}(h0:P [])(h1:∀ l x,P l->P (l++[x])):∀ l,P l:=by
 intro l
 have:∀ n (l:List α),l.length=n->P l:=by
  intro n
  induction n with
  | zero=>intro l hl;rw[List.length_eq_zero_iff.1 hl];exact h0
  | succ n ih =>
   intro l hl
   have hne:l≠[]:=by intro h;subst h;simp at hl
   rw[<- List.dropLast_concat_getLast hne];exact h1 _ _ (ih _ (by simp[hl]))
 exact this _ l rfl
theorem yavx{ds:List Nat}(h:∀ d∈ds,1<=d/\d<27)(hn:ds≠[]):0<val ds:=by
 rw[<- List.dropLast_concat_getLast hn,zpk];have:=(h _ (List.getLast_mem hn)).1;omega
theorem yaud(ds:List Nat):(∀ d∈ds,1<=d/\d<27)->zsu (val ds)=ds:=by
 refine yagr (P:=fun ds=>(∀ d∈ds,1<=d/\d<27)->zsu (val ds)=ds) (fun _=>zmn) (fun l x ih h=>?_) ds;have hx:=h x (by simp);rw[zpk,zjv (by omega),show(27*val l+x)/27=val l by omega,show(27*val l+x)%27=x by omega,ih (fun d hd=>h d (by simp[hd]))]
theorem ybar(ds:List Nat):(∀ d∈ds,d<27)->val ds<27 ^ ds.length:=by
 refine yagr (P:=fun ds=>(∀ d∈ds,d<27)->val ds<27 ^ ds.length) (fun _=>by simp[val]) (fun l x ih h=>?_) ds;have hx:=h x (by simp);have:=ih (fun d hd=>h d (by simp[hd]));rw[zpk,List.length_append,List.length_singleton,Nat.pow_succ];omega
theorem yaty(k:Nat):∀ n,n<27 ^ k->(zsu n).length<=k:=by
 induction k with
 | zero =>
  intro n h
  have:n=0:=by simpa using h
  subst this;rw[zmn];simp
 | succ k ih =>
  intro n h
  by_cases h0:n=0
  ·subst h0;rw[zmn];simp
  ·rw[zjv (by omega),List.length_append,List.length_singleton];have:=ih (n/27) (by rw[Nat.pow_succ]at h;omega);omega
structure Dg(n m:Nat)(ds:List Nat):Prop where
 eq:zsu n=zsu m++ds
 ok:∀ d∈ds,1<=d/\d<27
theorem Dg.start(n:Nat):Dg n n []:=⟨by simp,fun d h=>by cases h⟩
theorem Dg.step{n m:Nat}{ds:List Nat}(h:Dg n m ds)(hm:0<m)(h1:m%27≠0):Dg n (m/27) (m%27::ds) :=
 ⟨by rw[h.eq,zjv hm];simp,fun d hd=>by
  rcases List.mem_cons.1 hd with rfl | hd
  ·omega
  ·exact h.ok d hd⟩
theorem Dg.zero{n m:Nat}{ds:List Nat}(h:Dg n m ds)(hm:0<m)(h0:m%27=0):¬ ∀ d∈zsu n,1<=d:=fun x=>by
 have:=x (m%27) (by rw[h.eq,zjv hm];simp);omega
theorem Dg.many{n m:Nat}{ds:List Nat}(h:Dg n m ds)(hm:0<m):ds.length<(zsu n).length:=by
 rw[h.eq,zjv hm];simp;omega
theorem Dg.len{n m:Nat}{ds:List Nat}(h:Dg n m ds):ds.length<=(zsu n).length:=by rw[h.eq];simp
theorem Dg.done{n:Nat}{ds:List Nat}(h:Dg n 0 ds):zsu n=ds:=by rw[h.eq,zmn];simp
def nmB(s:ByteArray):Bool:=decide (1<=s.size/\s.size<=6/\∀ j (h:j<s.size),97<=s[j].toNat/\s[j].toNat<=122)
theorem zye{s:ByteArray}(h:s.size<1):nmB s=false:=decide_eq_false (fun x=>by omega)
theorem zxa{s:ByteArray}(h:6<s.size):nmB s=false:=decide_eq_false (fun x=>by omega)
theorem zrh{s:ByteArray}{k:Nat}(h:k<s.size)(hb:¬ (97<=s[k].toNat/\s[k].toNat<=122)):nmB s=false:=decide_eq_false (fun x=>hb (x.2.2 k h))
theorem yacs{s:ByteArray}(h0:1<=s.size)(h6:s.size<=6)(h:∀ j (h:j<s.size),97<=s[j].toNat/\s[j].toNat<=122):nmB s=true:=decide_eq_true ⟨h0,h6,h⟩
theorem zfx{s:ByteArray}(h:nmB s=true):1<=s.size/\s.size<=6/\∀ j (h:j<s.size),97<=s[j].toNat/\s[j].toNat<=122:=of_decide_eq_true h
def letD(b:UInt8):Nat:=b.toNat-96
def ltrs(s:ByteArray):List Nat:=s.data.toList.map letD
def pk(s:ByteArray)(k:Nat):Nat:=val ((ltrs s).take k)
theorem zhq(s:ByteArray):(ltrs s).length=s.size:=by unfold ltrs;rw[List.length_map,Array.length_toList];rfl
theorem yabw(s:ByteArray)(j:Nat)(h:j<s.size):(ltrs s)[j]'(by rw[zhq];exact h)=s[j].toNat-96:=by
 simp only[ltrs,List.getElem_map,letD,Array.getElem_toList];rfl
theorem yadh(s:ByteArray):pk s 0=0:=by simp[pk,val]
theorem yajy(s:ByteArray)(k:Nat)(h:k<s.size):pk s (k+1)=27*pk s k+(s[k].toNat-96):=by
 unfold pk;rw[List.take_succ_eq_append_getElem (by rw[zhq];exact h),zpk,yabw s k h]
theorem yayp{s:ByteArray}(h:nmB s=true):∀ d∈ltrs s,1<=d/\d<27:=by
 intro d hd;obtain⟨i,hi,rfl⟩:=List.getElem_of_mem hd;rw[zhq]at hi;rw[yabw s i hi];have:=(zfx h).2.2 i hi;omega
theorem yazk{s:ByteArray}:pk s s.size=val (ltrs s):=by unfold pk;rw[<- zhq,List.take_length]
theorem yaxe{s:ByteArray}{k:Nat}(hl:∀ j (h:j<s.size),j<k->97<=s[j].toNat/\s[j].toNat<=122)(h6:k<=6):pk s k<387420489:=by
 have h1:pk s k<27 ^ ((ltrs s).take k).length:=by
  unfold pk;apply ybar;intro d hd;obtain⟨i,hi,rfl⟩:=List.getElem_of_mem hd;simp only[List.length_take,zhq]at hi;rw[List.getElem_take,yabw s i (by omega)];have:=hl i (by omega) (by omega);omega
 have h2:((ltrs s).take k).length<=6:=by simp only[List.length_take];omega
 have h3:27 ^ ((ltrs s).take k).length<=27 ^ 6:=Nat.pow_le_pow_right (by omega) h2;omega
def zct(ds:List Nat):ByteArray:=⟨(ds.map fun d=>UInt8.ofNat (96+d)).toArray⟩
theorem zco(ds:List Nat):(zct ds).size=ds.length:=by simp[zct,ByteArray.size]
theorem yahj(ds:List Nat)(j:Nat)(h:j<(zct ds).size)(hd:∀ d∈ds,d<27):(zct ds)[j].toNat=96+ds[j]'(by rw[zco]at h;exact h):=by
 have hj:j<ds.length:=by rw[zco]at h;exact h
 have:=hd _ (List.getElem_mem hj)
 have e:(zct ds)[j]=UInt8.ofNat (96+ds[j]):=by
  have e1:(zct ds)[j]=((ds.map fun d=>UInt8.ofNat (96+d)).toArray)[j]'(by simpa using hj):=rfl;rw[e1,List.getElem_toArray,List.getElem_map]
 rw[e,UInt8.toNat_ofNat'];omega
theorem zzc{s:ByteArray}(h:nmB s=true):zct (ltrs s)=s:=by
 obtain⟨⟨l⟩⟩:=s;simp only[zct,ltrs,List.map_map]
 congr 2
 have hh:=(zfx h).2.2;apply List.ext_getElem
 ·simp
 ·intro i h1 h2;simp only[List.getElem_map,Function.comp,letD];have:=hh i h2;have e:(ByteArray.mk ⟨l⟩)[i]'h2=l[i]'h2:=rfl;rw[e]at this
  have e2:96+(l[i].toNat-96)=l[i].toNat:=by omega
  rw[e2,UInt8.ofNat_toNat]
theorem zyy(d:Nat)(ds:List Nat):(⟨#[UInt8.ofNat (96+d)]⟩:ByteArray)++zct ds=zct (d::ds):=by
 apply ByteArray.ext;simp[zct]
theorem yads{ds:List Nat}(hd:∀ d∈ds,1<=d/\d<27)(h1:1<=ds.length)(h6:ds.length<=6):nmB (zct ds)=true:=by
 refine yacs (by rw[zco];exact h1) (by rw[zco];exact h6) (fun j h=>?_);rw[yahj ds j h (fun d x=>(hd d x).2)];have:=hd _ (List.getElem_mem (by rw[zco]at h;exact h));omega
def zgy(n:Int):Bool:=decide (0<n/\(∀ d∈zsu n.toNat,1<=d)/\(zsu n.toNat).length<=6)
def zxl(n:Int):ByteArray:=if zgy n=true then zct (zsu n.toNat) else⟨#[]⟩
def unpC(n:Int):Int:=if zgy n=true then 0 else 3
def zob(s:ByteArray):Int:=if nmB s=true then(pk s s.size:Nat)else 0
def ztc(s:ByteArray):Int:=if 65536<s.size then 2 else if nmB s=true then 0 else 12
theorem yadw{n:Int}(h:zgy n=false):zxl n=⟨#[]⟩/\unpC n=3:=by unfold zxl unpC;rw[h];exact⟨rfl,rfl⟩
theorem yacb{n:Int}(h:¬ 0<n):zgy n=false:=decide_eq_false (fun x=>h x.1)
theorem yagn{n:Nat}{m:Nat}{ds:List Nat}(h:Dg n m ds)(hm:0<m)(h0:m%27=0):zgy (n:Int)=false:=decide_eq_false (fun x=>h.zero hm h0 x.2.1)
theorem yasv{n:Nat}{m:Nat}{ds:List Nat}(h:Dg n m ds)(hm:0<m)(h6:6<=ds.length):zgy (n:Int)=false:=decide_eq_false (fun x=>by have:=h.many hm;have:=x.2.2;simp only[Int.toNat_natCast]at this;omega)
theorem yate{n:Nat}{ds:List Nat}(h:Dg n 0 ds)(hn:0<n)(h6:ds.length<=6):zxl (n:Int)=zct ds/\unpC (n:Int)=0:=by
 have g:zgy (n:Int)=true:=decide_eq_true ⟨by omega,by rw[Int.toNat_natCast,h.done];exact fun d x=>(h.ok d x).1,by rw[Int.toNat_natCast,h.done];exact h6⟩;unfold zxl unpC;rw[if_pos g,if_pos g,Int.toNat_natCast,h.done];exact⟨rfl,rfl⟩
theorem yasa{s:ByteArray}(h:nmB s=true):zgy (zob s)=true/\zxl (zob s)=s:=by
 have e:zob s=((val (ltrs s):Nat):Int):=by unfold zob;rw[if_pos h,yazk]
 have hl:=yayp h;have hd:zsu (val (ltrs s))=ltrs s:=yaud _ hl;have hn:=zfx h
 have hne:ltrs s≠[]:=by intro x;have:=zhq s;rw[x]at this;simp at this;omega
 have hp:=yavx hl hne
 have g:zgy (zob s)=true:=by
  rw[e];refine decide_eq_true ⟨by omega,?_,?_⟩
  ·rw[Int.toNat_natCast,hd];exact fun d x=>(hl d x).1
  ·rw[Int.toNat_natCast,hd,zhq];exact hn.2.1
 refine⟨g,?_⟩;unfold zxl;rw[if_pos g,e,Int.toNat_natCast,hd,zzc h]
end Go.Proofs.YtdiaiejmoocpmaaGreatDoor
