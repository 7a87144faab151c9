/- Several texts laid together: ImB, SecS. -/
import Derived.Test.YtbohndgbfbfldaaGreatDoorZAD
import Derived.Test.YtbohndgbfbfldaaGreatDoorZAB
set_option maxRecDepth 100000
set_option maxHeartbeats 2000000
namespace Go.Proofs.YtbohndgbfbfldaaGreatDoor
open Go.RowKit
def zsj (i:Nat) (z size:Int):Bool:=zet z && (z == 0 || decide ((i:Int) < size))
def zwi (zs:List Int) (size:Int) (k:Nat):Prop:=∀ i,i < k→zsj i (zs.getD i 0) size=true
def zxq (zs:List Int) (size:Int):Bool:=(List.range 8).all fun i=>zsj i (zs.getD i 0) size
theorem zuj {zs:List Int} {size:Int} (h:zwi zs size 8):zxq zs size=true:=by
 unfold zxq;rw[List.all_eq_true];intro i hi;exact h i (List.mem_range.1 hi)
theorem zlf {zs:List Int} {size:Int} (h:zxq zs size=true):zwi zs size 8:=by
 unfold zxq at h;rw[List.all_eq_true] at h;intro i hi;exact h i (List.mem_range.2 hi)
theorem zxs {zs:List Int} {size:Int} {k:Nat} (hk:k < 8) (h:zsj k (zs.getD k 0) size=false):zxq zs size=false:=by
 rw[Bool.eq_false_iff];intro e;rw[zlf e k hk] at h;exact absurd h (by decide)
theorem zrr {zs:List Int} {size:Int} {k:Nat} (h:zwi zs size k) (g:zsj k (zs.getD k 0) size=true):zwi zs size (k+1):=by
 intro i hi
 by_cases e:i=k
 ·rw[e];exact g
 ·exact h i (by omega)
def zfp (x:Ino):Bool:=if x.kind=0 then decide (x.size=0∧x.links=0∧x.map=[0,0,0,0,0,0,0,0]) else if x.kind=2 then x.size == 0 && x.links == 1 else decide (0 < x.links)
def zdt (x:Ino):Bool:=decide (0≤x.kind∧x.kind≤2) && (decide (0≤x.size∧x.size≤8) && (decide (0≤x.links∧x.links≤24) && (zxq x.map x.size && zfp x)))
def Ino.R (x:Ino):Prop:=∀ z∈x.map,-9223372036854775808≤z∧z≤9223372036854775807
theorem Ino.len (x:Ino):x.map.length=8:=rfl
theorem Ino.at (x:Ino) (k:Nat) (hk:k < 8):x.cs[3+k]?=some (.int .i64 (x.map.getD k 0)):=by
 rcases (show k=0∨k=1∨k=2∨k=3∨k=4∨k=5∨k=6∨k=7 by omega) with rfl | rfl | rfl | rfl | rfl | rfl | rfl | rfl <;> rfl
theorem Ino.R.at {x:Ino} (h:x.R) (k:Nat) (hk:k < 8):-9223372036854775808≤x.map.getD k 0∧x.map.getD k 0≤9223372036854775807:=by
 have e:x.map.getD k 0=x.map[k]'(by rw[x.len];exact hk):=by rw[List.getD_eq_getElem?_getD,List.getElem?_eq_getElem (by rw[x.len];exact hk)];rfl
 rw[e];exact h _ (List.getElem_mem _)
@[go_sem] theorem yaej (m0 m1 m2 m3 m4 m5 m6 m7:Int) (w:World):(Op.equalIn 9999 147 (.agg #[.int .i64 m0,.int .i64 m1,.int .i64 m2,.int .i64 m3,.int .i64 m4,.int .i64 m5,.int .i64 m6,.int .i64 m7]) (.agg #[.int .i64 0,.int .i64 0,.int .i64 0,.int .i64 0,.int .i64 0,.int .i64 0,.int .i64 0,.int .i64 0])).run Tryz.prog w=.ok (decide ([m0,m1,m2,m3,m4,m5,m6,m7]=[0,0,0,0,0,0,0,0])) w:=by
 have u3:=Tryz.underlying3;have a3:=Tryz.isAgg3;have z3:=Tryz.sizeOf3;rw[show (9999:Nat)=9998+1 from rfl,Op.equalIn];simp only[Sem.run_bind,run_underlying Tryz.underlying147,Result.andThen_ok];simp only[Std.Legacy.Range.forIn_eq_forIn_range',Std.Legacy.Range.size,Nat.sub_zero,Nat.add_sub_cancel,Nat.div_one,List.range'_succ,List.range'_zero,List.forIn_cons,List.forIn_nil];go_simp
 by_cases h0:m0=0
 case neg=>simp[h0]
 by_cases h1:m1=0
 case neg=>simp[h0,h1]
 by_cases h2:m2=0
 case neg=>simp[h0,h1,h2]
 by_cases h3:m3=0
 case neg=>simp[h0,h1,h2,h3]
 by_cases h4:m4=0
 case neg=>simp[h0,h1,h2,h3,h4]
 by_cases h5:m5=0
 case neg=>simp[h0,h1,h2,h3,h4,h5]
 by_cases h6:m6=0
 case neg=>simp[h0,h1,h2,h3,h4,h5,h6]
 by_cases h7:m7=0
 case neg=>simp[h0,h1,h2,h3,h4,h5,h6,h7]
 simp[h0,h1,h2,h3,h4,h5,h6,h7]
theorem zmv (x:Ino) (w:World) (hr:x.R):Calls Tryz.prog 125 #[x.v] w fun e w'=>e=.returned (.bool (zdt x))∧Below w.heap.size w w':=by
 have hv:x.v=.agg x.cs.toArray:=rfl;have c0:(w.alloc (.cells x.cs.toArray 149)).cell? ⟨w.heap.size,0,none⟩=some (.int .i64 x.kind):=(zat (xs:=x.cs) (zah rfl) 0).1;have c1:(w.alloc (.cells x.cs.toArray 149)).cell? ⟨w.heap.size,1,none⟩=some (.int .i64 x.size):=(zat (xs:=x.cs) (zah rfl) 1).1;have c2:(w.alloc (.cells x.cs.toArray 149)).cell? ⟨w.heap.size,2,none⟩=some (.int .i64 x.links):=(zat (xs:=x.cs) (zah rfl) 2).1;have CM:=zaa (show ∀ k,k < 8→(w.alloc (.cells x.cs.toArray 149)).cell? ⟨w.heap.size,3+k,none⟩=some (.int .i64 (x.map.getD k 0)) from fun k hk=>((zat (xs:=x.cs) (zah rfl) (3+k)).1).trans (x.at k hk));have B:=zaa ((Below.refl w.heap.size w).alloc (Nat.le_refl _) (.cells x.cs.toArray 149));rw[hv]
 by_cases h0:0≤x.kind∧x.kind≤2
 ·by_cases h1:0≤x.size∧x.size≤8
  ·by_cases h2:0≤x.links∧x.links≤24
   ·have E:=zaa (show zdt x=(zxq x.map x.size && zfp x) by unfold zdt;rw[decide_eq_true h0,decide_eq_true h1,decide_eq_true h2];rfl);have H:=zaa (And.intro h0 (And.intro h1 h2));clear h0 h1 h2;go_enter Tryz.func125,Tryz.ntmps125;go_wp2_with fail;refine (zak _ _ _ _ H.o.1).mono ?_;rintro e w' ⟨rfl,rfl⟩;go_wp2_with fail;refine (zak _ _ _ _ H.o.2.1).mono ?_;rintro e w' ⟨rfl,rfl⟩;go_wp2_with fail;refine (zak _ _ _ _ H.o.2.2).mono ?_;rintro e w' ⟨rfl,rfl⟩;go_wp2
    obtain ⟨wa,hwa⟩:∃ wa,wa=w.alloc (.cells x.cs.toArray 149):=⟨_,rfl⟩
    rw[← hwa] at c0 c1 c2 CM B ⊢;have CA:=zaa (show ∀ j,wa.cell? ⟨w.heap.size,j,none⟩=x.cs[j]? by rw[hwa];exact fun j=>(zat (xs:=x.cs) (zah rfl) j).1);clear hwa
    go_loopw [3] (fun i wr=>∃ k:Nat,k≤8∧i=.int .i64 k∧wr=wa∧Hid (zwi x.map x.size k)) (fun i _=>8 - (intOf i).toNat)
    case atStart=>exact ⟨0,by omega,rfl,rfl,fun i hi=>absurd hi (by omega)⟩
    case round =>
     obtain ⟨k,hk,rfl,rfl,M⟩:=hrel
     by_cases hlt:k < 8
     ·have c3:=CM.o k hlt;obtain ⟨r0,r1⟩:=hr.at k hlt
      have k0:(0:Int)≤(k:Int):=by omega
      have k1:(k:Int) < 8:=by omega
      have MN:=zaa (fun e=>zxs (zs:=x.map) (size:=x.size) hlt e);have MS:=zaa (fun e=>zrr (k:=k) M.o e);generalize x.map.getD k 0=z at c3 r0 r1 MN MS;clear CM CA M
      cases ht:zet z with
      | false =>
       have F:=zaa (show zdt x=false by rw[E.o,MN.o (by unfold zsj;rw[ht];rfl),Bool.false_and]);have T:=zaa ht;clear ht MN MS E;go_wp2_with fail;refine (zca _ _ r0 r1).mono ?_;rintro e w' ⟨rfl,rfl⟩;rw[T.o];go_wp2;go_ret;exact ⟨zac F.o.symm,B.o⟩
      | true =>
       by_cases hz:z=0
       ·have q:(z != 0)=false:=by rw[hz];rfl
        have G:=zaa (MS.o (by unfold zsj;rw[ht,hz];rfl));have T:=zaa ht;clear ht MN MS hz;go_wp2_with fail;refine (zca _ _ r0 r1).mono ?_;rintro e w' ⟨rfl,rfl⟩;rw[T.o];go_wp2
        go_roundw
        case rel=>exact ⟨k+1,by omega,by go_num,trivial,G⟩
        case measure=>simp[intOf];omega
       ·have q:(z != 0)=true:=by rw[bne_iff_ne];exact hz
        have qz:(z == 0)=false:=by rw[beq_eq_false_iff_ne];exact hz
        by_cases hs:(k:Int) < x.size
        ·have q2:¬ x.size≤(k:Int):=by omega
         have G:=zaa (MS.o (by unfold zsj;rw[ht,qz,decide_eq_true hs];rfl));have T:=zaa ht;clear ht MN MS hz hs qz;go_wp2_with fail;refine (zca _ _ r0 r1).mono ?_;rintro e w' ⟨rfl,rfl⟩;rw[T.o];go_wp2
         go_roundw
         case rel=>exact ⟨k+1,by omega,by go_num,trivial,G⟩
         case measure=>simp[intOf];omega
        ·have q2:x.size≤(k:Int):=by omega
         have F:=zaa (show zdt x=false by rw[E.o,MN.o (by unfold zsj;rw[ht,qz,decide_eq_false hs];rfl),Bool.false_and]);have T:=zaa ht;clear ht MN MS hz hs qz E;go_wp2_with fail;refine (zca _ _ r0 r1).mono ?_;rintro e w' ⟨rfl,rfl⟩;rw[T.o];go_wp2;go_ret;exact ⟨zac F.o.symm,B.o⟩
     ·obtain rfl:k=8:=by omega
      have F:=zaa (show zdt x=zfp x by rw[E.o,zuj M.o,Bool.true_and]);clear E M CM
      rcases (show x.kind=0∨x.kind=1∨x.kind=2 by have:=H.o;omega) with hz | hz | hz
      ·have K:=zaa (show zfp x=decide (x.size=0∧x.links=0∧x.map=[0,0,0,0,0,0,0,0]) by unfold zfp;rw[if_pos hz]);rw[hz] at c0;have c3:wr.cell? ⟨w.heap.size,3,none⟩=some (.int .i64 x.m0):=CA.o 3;have c4:wr.cell? ⟨w.heap.size,4,none⟩=some (.int .i64 x.m1):=CA.o 4;have c5:wr.cell? ⟨w.heap.size,5,none⟩=some (.int .i64 x.m2):=CA.o 5;have c6:wr.cell? ⟨w.heap.size,6,none⟩=some (.int .i64 x.m3):=CA.o 6;have c7:wr.cell? ⟨w.heap.size,7,none⟩=some (.int .i64 x.m4):=CA.o 7;have c8:wr.cell? ⟨w.heap.size,8,none⟩=some (.int .i64 x.m5):=CA.o 8;have c9:wr.cell? ⟨w.heap.size,9,none⟩=some (.int .i64 x.m6):=CA.o 9;have c10:wr.cell? ⟨w.heap.size,10,none⟩=some (.int .i64 x.m7):=CA.o 10;clear CA;go_wp2
       all_goals
        go_ret;refine ⟨zac ?_,B.o⟩;rw[F.o,K.o,eq_comm];clear c0 c1 c2 c3 c4 c5 c6 c7 c8 c9 c10;rename_i h9
        simp_all [Ino.map]
      ·have K:=zaa (show zfp x=decide (0 < x.links) by unfold zfp;rw[if_neg (by omega),if_neg (by omega)]);rw[hz] at c0;clear CA;go_wp2;go_ret;exact ⟨zac (by rw[F.o,K.o]),B.o⟩
      ·have K:=zaa (show zfp x=(x.size == 0 && x.links == 1) by unfold zfp;rw[if_neg (by omega),if_pos hz]);rw[hz] at c0;clear CA
       cases hq:(x.size == 0)
       all_goals
        rw[hq] at K;go_wp2;go_ret;exact ⟨zac (by rw[F.o,K.o];rfl),B.o⟩
   ·have E:=zaa (show zdt x=false by unfold zdt;rw[decide_eq_false h2,Bool.false_and,Bool.and_false,Bool.and_false]);go_enter Tryz.func125,Tryz.ntmps125;go_wp2_with fail;refine (zak _ _ _ _ h0).mono ?_;rintro e w' ⟨rfl,rfl⟩;go_wp2_with fail;refine (zak _ _ _ _ h1).mono ?_;rintro e w' ⟨rfl,rfl⟩;go_wp2_with fail;refine (zbg _ _ _ _ h2).mono ?_;rintro e w' ⟨rfl,rfl⟩;go_wp2;go_ret;exact ⟨zac E.o.symm,B.o⟩
  ·have E:=zaa (show zdt x=false by unfold zdt;rw[decide_eq_false h1,Bool.false_and,Bool.and_false]);go_enter Tryz.func125,Tryz.ntmps125;go_wp2_with fail;refine (zak _ _ _ _ h0).mono ?_;rintro e w' ⟨rfl,rfl⟩;go_wp2_with fail;refine (zbg _ _ _ _ h1).mono ?_;rintro e w' ⟨rfl,rfl⟩;go_wp2;go_ret;exact ⟨zac E.o.symm,B.o⟩
 ·have E:=zaa (show zdt x=false by unfold zdt;rw[decide_eq_false h0,Bool.false_and]);go_enter Tryz.func125,Tryz.ntmps125;go_wp2_with fail;refine (zbg _ _ _ _ h0).mono ?_;rintro e w' ⟨rfl,rfl⟩;go_wp2;go_ret;exact ⟨zac E.o.symm,B.o⟩
structure Se where
 at_:Int
 val:Int
deriving DecidableEq
def Se.cells (s:Se):List Value:=[.int .i64 s.at_,.int .i64 s.val]
def ses (ps:List Se):List Value:=ps.flatMap Se.cells
theorem Se.cells_len (s:Se):s.cells.length=2:=rfl
theorem zvt (ps:List Se):(ses ps).length=ps.length*2:=zby _ 2 Se.cells_len ps
theorem zot (ps:List Se) (k:Nat) (h:k < ps.length):(ses ps)[k*2]?=some (.int .i64 ps[k].at_):=zan _ 2 Se.cells_len ps k 0 h (by omega)
theorem zow (ps:List Se) (k:Nat) (h:k < ps.length):(ses ps)[k*2+1]?=some (.int .i64 ps[k].val):=zan _ 2 Se.cells_len ps k 1 h (by omega)
def RdE (w:World) (v:Value) (ps:List Se):Prop:=Rd w 2 v ps.length (ses ps)
theorem RdE.shape {w:World} {v:Value} {ps:List Se} (h:RdE w v ps):∃ ao cap,v=.slice ao ps.length cap∧ps.length≤cap∧(0 < ps.length→∃ b o,ao=some ⟨b,o,none⟩∧b < w.heap.size ∧
  ∀ k (h:k < ps.length),w.cell? ⟨b,o+k*2,none⟩=some (.int .i64 ps[k].at_)∧w.cell? ⟨b,o+k*2+1,none⟩=some (.int .i64 ps[k].val)):=by
 obtain ⟨_,ao,cap,rfl,h2,h3⟩:=h;refine ⟨ao,cap,rfl,h2.1,fun hn=>?_⟩;obtain ⟨b,o,rfl,hb,hc⟩:=h3 hn;exact ⟨b,o,rfl,hb,fun k hk=>⟨(hc (k*2) (by omega)).trans (zot ps k hk),(hc (k*2+1) (by omega)).trans (zow ps k hk)⟩⟩
theorem yabq:(Tryz.prog.info? 208).map (fun i=>(i.zero,i.size,i.bytes))=some (some (.agg #[.int .i64 0,.int .i64 0]),2,16):=by kernel_rfl
theorem zlv (a v:Int) (w:World):Calls Tryz.prog 203 #[.agg #[.int .i64 a,.int .i64 v]] w fun e w'=>e=.returned (.agg #[.int .i64 a,.int .i64 v])∧Below w.heap.size w w':=by
 go_enter Tryz.func203,Tryz.ntmps203;go_wp2;refine bodyPost_ret (v:=.agg #[.int .i64 a,.int .i64 v]) (by simp[results,Tryz.results203,go_sem]) rfl ⟨rfl,?_⟩
 repeat (refine Below.alloc ?_ (by simp <;> omega) _)
 exact Below.refl _ _
def put2 (ys:List Value) (k:Nat) (a b:Value):List Value:=(ys.set (k*2) a).set (k*2+1) b
theorem yaay {ys:List Value} {k:Nat} {a b:Value} {j:Nat} (hj:j < ys.length):(put2 ys k a b)[j]?=if j=k*2+1 then some b else if j=k*2 then some a else ys[j]?:=by
 unfold put2;rw[zhk (by simpa using hj),zhk hj]
theorem zvg {ys:List Value} {ps:List Se} {k:Nat} (hk:k < ps.length) (hl:ys.length=ps.length*2) (h:∀ j,j < k*2→ys[j]?=(ses ps)[j]?) :
  ∀ j,j < (k+1)*2→(put2 ys k (.int .i64 ps[k].at_) (.int .i64 ps[k].val))[j]?=(ses ps)[j]?:=by
 intro j hj;rw[yaay (by omega)]
 split
 ·rename_i e;rw[e,zow ps k hk]
 ·split
  ·rename_i e;rw[e,zot ps k hk]
  ·exact h j (by omega)
theorem yaav {ys:List Value} {ps:List Se} (hl:ys.length=ps.length*2) (h:∀ j,j < ps.length*2→ys[j]?=(ses ps)[j]?):ys=ses ps:=by
 apply List.ext_getElem?;intro j
 by_cases hj:j < ps.length*2
 ·exact h j hj
 ·rw[List.getElem?_eq_none (by omega),List.getElem?_eq_none (by rw[zvt];omega)]
theorem Row.put2 {w:World} {e:TypeId} {lo hi:Nat} {b n cap:Nat} {ys:List Value} (h:Row w e 2 lo hi (.slice (some ⟨b,0,none⟩) n cap) n ys) (k:Nat) (x y:Value) :
  Row ((w.setCell ⟨b,k*2,none⟩ x).setCell ⟨b,k*2+1,none⟩ y) e 2 lo hi (.slice (some ⟨b,0,none⟩) n cap) n (put2 ys k x y) :=
 (h.stored (k*2) x).stored (k*2+1) y
theorem zkq (v:Value) (ps:List Se) (w:World) (h:RdE w v ps) (hn:ps.length≤1048576) :
  Calls Tryz.prog 177 #[v] w fun e w'=>∃ v',e=.returned v'∧Row w' 208 2 w.heap.size w'.heap.size v' ps.length (ses ps)∧Below w.heap.size w w':=by
 obtain ⟨ao,cap,rfl,hcap,hc⟩:=h.shape;clear h;have hmk:=zbm (P:=Tryz.prog) 26 208 (.agg #[.int .i64 0,.int .i64 0]) 2 16 Tryz.underlying26 yabq .i64 .i64 ps.length (by omega) (by omega);go_enter Tryz.func177,Tryz.ntmps177;go_wp2
 go_loopw [4] (fun i wr=>∃ k:Nat,k≤ps.length∧i=.int .i64 k∧(∃ ys,Row wr 208 2 w.heap.size (w.heap.size+1) (.slice (some ⟨w.heap.size,0,none⟩) ps.length ps.length) ps.length ys∧∀ j,j < k*2→ys[j]?=(ses ps)[j]?)∧Below w.heap.size w wr∧w.heap.size+1≤wr.heap.size) (fun i _=>ps.length - (intOf i).toNat)
 case atStart =>
  refine ⟨0,by omega,rfl,⟨_,zdy w (.agg #[.int .i64 0,.int .i64 0]) 2 ps.length 208 (by simp[maxLen];omega),fun j hj=>absurd hj (by omega)⟩,(Below.refl _ _).alloc (Nat.le_refl _) _,by simp⟩
 case round =>
  obtain ⟨k,hk,rfl,⟨ys,hrow,hys⟩,hb,hz⟩:=hrel
  by_cases hlt:k < ps.length
  ·obtain ⟨b,o,rfl,hbl,hcell⟩:=hc (by omega);obtain ⟨c0,c1⟩:=hcell k hlt;have d0:=(hb.cell (p:=⟨b,o+k*2,none⟩) hbl).trans c0;have d1:=(hb.cell (p:=⟨b,o+k*2+1,none⟩) hbl).trans c1;have RH:=zaa hrow;have YH:=zaa hys;clear hcell hc c0 c1 hrow hys;go_wp2_with fail;refine (zlv _ _ _).mono ?_;rintro e w1 ⟨rfl,hb1⟩;have R1:=zaa (RH.o.below hb1 (by omega))
   obtain ⟨_,_,_,hsz,hfr,hcl⟩:=R1.o.at
   have hl:=RH.o.len;have f0:=hfr (k*2);have f1:=hfr (k*2+1)
   have e0:w1.cell? ⟨w.heap.size,k*2,none⟩=some (ys[k*2]'(by omega)):=by rw[hcl _ (by omega)];simp
   have e1:w1.cell? ⟨w.heap.size,k*2+1,none⟩=some (ys[k*2+1]'(by omega)):=by rw[hcl _ (by omega)];simp
   have BH:=zaa (hb.trans (hb1.mono (show w.heap.size≤wr.heap.size by omega)));have hz1:=hb1.size;clear hfr hcl hb1 hb d0 d1;have P1:=zaa (R1.o.put2 k (.int .i64 ps[k].at_) (.int .i64 ps[k].val));have B1:=zaa ((BH.o.setCell (p:=⟨w.heap.size,k*2,none⟩) (Nat.le_refl _) (.int .i64 ps[k].at_)).setCell (p:=⟨w.heap.size,k*2+1,none⟩) (Nat.le_refl _) (.int .i64 ps[k].val));go_wp2
   go_roundw
   case rel=>exact ⟨k+1,by omega,by go_num,⟨_,P1.o,zvg hlt hl YH.o⟩,B1.o,by simp;omega⟩
   case measure=>simp[intOf];omega
  ·have e:k=ps.length:=by omega
   subst e;have hl:=hrow.len;have RH:=zaa hrow;have YH:=zaa hys;clear hrow hys hc;go_wp2;go_ret;have e:=yaav hl YH.o;refine ⟨_,rfl,?_,hb⟩;rw[← e];exact RH.o.wide (Nat.le_refl _) hz
theorem zfb (ao:Option Addr) (n cap:Nat) (left:Int) (w:World) (hn:n≤maxLen) (h0:0≤left) (h1:left≤1048576) :
  Calls Tryz.prog 167 #[.slice ao n cap,.int .i64 left] w fun e w'=>e=.returned (.int .i64 (zcs left n))∧w'=w:=by
 unfold maxLen at hn
 by_cases h:left < n
 ·have e:zcs left n=-1:=by unfold zcs;rw[if_pos h]
  rw[e];clear e;go_enter Tryz.func167,Tryz.ntmps167;go_wp2;go_ret;exact ⟨rfl,rfl⟩
 ·have e:zcs left n=left - n:=by unfold zcs;rw[if_neg h]
  rw[e];clear e;go_enter Tryz.func167,Tryz.ntmps167;go_wp2;go_ret;exact ⟨rfl,rfl⟩
theorem zka (a v:Int) (w:World):Calls Tryz.prog 199 #[.agg #[.int .i64 a,.int .i64 v],.agg #[.int .i64 a,.int .i64 v]] w fun e w'=>e=.returned (.bool true)∧Below w.heap.size w w':=by
 go_enter Tryz.func199,Tryz.ntmps199;go_wp2;go_ret;refine ⟨rfl,?_⟩
 repeat (refine Below.alloc ?_ (by simp <;> omega) _)
 exact Below.refl _ _
end Go.Proofs.YtbohndgbfbfldaaGreatDoor
