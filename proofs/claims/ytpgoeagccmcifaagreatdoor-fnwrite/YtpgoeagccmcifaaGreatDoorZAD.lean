/- Several texts laid together: ImL, Word, PiA, PiB. -/
import Derived.Test.YtpgoeagccmcifaaGreatDoorZAC
import Derived.Test.YtpgoeagccmcifaaGreatDoorZAA
set_option maxRecDepth 100000
set_option maxHeartbeats 4000000
namespace Go.Proofs.YtpgoeagccmcifaaGreatDoor
open Go.RowKit
def zoj (ds:List Den) (c:Int) (k:Nat):Nat:=((ds.take k).filter fun x=>x.child == c).length
theorem yajf (ds:List Den) (c:Int):zoj ds c 0=0:=rfl
theorem zme {ds:List Den} {c:Int} {k:Nat} (h:k < ds.length):zoj ds c (k+1)=zoj ds c k+(if (ds[k].child == c)=true then 1 else 0):=by
 unfold zoj;rw[List.take_succ_eq_append_getElem h,List.filter_append,List.length_append]
 congr 1
 cases q:ds[k].child == c <;> simp[List.filter,q]
theorem yajm (ds:List Den) (c:Int) (k:Nat):zoj ds c k≤k:=by
 unfold zoj;exact Nat.le_trans (List.length_filter_le _ _) (by simp;omega)
def ziv (ps:List Den) (i:Nat) (x:Ino):Bool:=decide ((if i=0 then 1 else 0)+(zoj ps i ps.length:Int)=x.links) && (decide (¬ x.kind=2) || zeh ps 16 i)
def zhm (ws:List Ino) (ps:List Den):Bool:=decide (∀ i (h:i < ws.length),ziv ps i ws[i]=true)
theorem yaim {ws:List Ino} {ps:List Den} {i:Nat} (h:i < ws.length) (q:ziv ps i ws[i]=false):zhm ws ps=false:=decide_eq_false (fun e=>by rw[e i h] at q;cases q)
theorem yafr (w:World):Calls Tryz.prog 177 #[.bool true] w fun e w'=>e=.returned (.int .i64 1)∧w'=w:=zto true w
theorem yafs (w:World):Calls Tryz.prog 177 #[.bool false] w fun e w'=>e=.returned (.int .i64 0)∧w'=w:=zto false w
theorem zxj (v:Value) (ws:List Ino) (ps:List Den) (w:World) (h:RdIm w v ws ps) (hm:ws.length≤1048576) (hn:ps.length≤1048576) :
  Calls Tryz.prog 149 #[v] w fun e w'=>e=.returned (.bool (zhm ws ps))∧Below w.heap.size w w':=by
 have HR:=zaa h;obtain ⟨vW,vP,rfl,h1,h2⟩:=h;obtain ⟨aW,cW,rfl,_,hcW⟩:=h1.shape;obtain ⟨aP,cP,rfl,_,hcP⟩:=h2.shape;have HW:=zaa hcW;have HZ:=zaa hcP;clear h1 h2 hcP hcW
 obtain ⟨W,hW⟩:∃ W,W=w.alloc (.cells #[.slice aW ws.length cW,.slice aP ps.length cP] 67):=⟨_,rfl⟩
 have CA:Hid (∀ w',Below W.heap.size W w'→w'.cell? ⟨w.heap.size,0,none⟩=some (.slice aW ws.length cW)∧w'.cell? ⟨w.heap.size,1,none⟩=some (.slice aP ps.length cP)):=fun w' hb=>by
  have:w'.heap[w.heap.size]?=some (.cells #[.slice aW ws.length cW,.slice aP ps.length cP] 67 (0,0)):=(hb.block _ (by rw[hW];simp)).trans (by rw[hW];exact zag rfl);exact ⟨(zac this).1,(zac this).2.1⟩
 have BW:Hid (Below w.heap.size w W):=by rw[hW];exact (Below.refl _ _).alloc (Nat.le_refl _) _
 have hz:w.heap.size≤W.heap.size:=BW.o.size;have LH:=zaa (fun d w1 h=>yaan (.agg #[.slice aW ws.length cW,.slice aP ps.length cP]) ws ps d w1 h hn);go_enter Tryz.func149,Tryz.ntmps149;go_wp2;rw[← hW];clear hW
 go_loopw [3] (fun i wr=>∃ k:Nat,k≤ws.length∧i=.int .i64 k∧Hid (Below W.heap.size W wr∧∀ j (h:j < ws.length),j < k→ziv ps j ws[j]=true)) (fun i _=>ws.length - (intOf i).toNat)
 case atStart=>exact ⟨0,by omega,rfl,Below.refl _ _,fun j h a=>absurd a (by omega)⟩
 case round =>
  obtain ⟨i,hi,rfl,J⟩:=hrel;obtain ⟨x0,x1⟩:=CA.o wr J.o.1
  by_cases hlt:i < ws.length
  ·have i0:(0:Int)≤(i:Int):=by omega
   have i1:(i:Int) < (ws.length:Int):=by omega
   obtain ⟨b0,HB,b1,LB⟩:∃ b0:Int,Hid (b0=if i=0 then 1 else 0)∧(0≤b0∧b0≤1)∧Hid (∀ w1:World,Calls Tryz.prog 177 #[.bool ((i:Int) == 0)] w1 fun e w'=>e=.returned (.int .i64 b0)∧w'=w1):=by
    by_cases q:i=0
    ·refine ⟨1,zaa (by rw[if_pos q]),by omega,fun w1=>?_⟩;rw[show ((i:Int) == 0)=true by rw[beq_iff_eq];omega];exact yafr w1
    ·refine ⟨0,zaa (by rw[if_neg q]),by omega,fun w1=>?_⟩;rw[show ((i:Int) == 0)=false by rw[beq_eq_false_iff_ne];omega];exact yafs w1
   have START:Hid (Below W.heap.size W wr):=J.o.1;go_wp2_with (go_at_call 177;refine (LB.o _).mono ?_;rintro e w' ⟨rfl,hw'⟩;subst w')
   go_loopw [4,5] (fun n kk wq=>∃ k:Nat,k≤ps.length∧kk=.int .i64 k∧n=.int .i64 (b0+(zoj ps i k:Int))∧Hid (Below W.heap.size W wq)) (fun _ kk _=>ps.length - (intOf kk).toNat)
   case atStart=>exact ⟨0,by omega,rfl,by rw[yajf];simp,START⟩
   case round =>
    obtain ⟨k,hk,rfl,rfl,K⟩:=hrel;obtain ⟨y0,y1⟩:=CA.o wr K.o;have B:=zaa (zab BW.o K.o hz);have cl:=yajm ps i k
    have k0:(0:Int)≤(k:Int):=by omega
    clear x0 x1 START
    by_cases hlk:k < ps.length
    ·obtain ⟨b,o,rfl,hbl,hcell⟩:=HZ.o (by omega);obtain ⟨_,_,c2⟩:=hcell k hlk;have d2:=(B.o.cell (p:=⟨b,o+k*3+2,none⟩) hbl).trans c2
     have k1:(k:Int) < (ps.length:Int):=by omega
     obtain ⟨t,HT,t1,LT⟩:∃ t:Int,Hid ((zoj ps i (k+1):Int)=(zoj ps i k:Int)+t)∧(0≤t∧t≤1)∧Hid (∀ w1:World,Calls Tryz.prog 177 #[.bool (ps[k].child == (i:Int))] w1 fun e w'=>e=.returned (.int .i64 t)∧w'=w1):=by
      cases q:(ps[k].child == (i:Int))
      ·refine ⟨0,zaa (by rw[zme hlk,q];simp),by omega,fun w1=>?_⟩;exact yafs w1
      ·refine ⟨1,zaa (by rw[zme hlk,q];simp),by omega,fun w1=>?_⟩;exact yafr w1
     clear hcell c2;generalize ps[k].child=z at *
     have cc0:(0:Int)≤(zoj ps i k:Int)∧(zoj ps i k:Int)≤1048576:=by omega
     generalize (zoj ps i k:Int)=cc at *;go_wp2_with (go_at_call 177;refine (LT.o _).mono ?_;rintro e w' ⟨rfl,hw'⟩;subst w')
     go_roundw
     case rel=>exact ⟨k+1,by omega,by go_num,by rw[HT.o,Int.add_assoc],K⟩
     case measure=>simp[intOf];omega
    ·obtain rfl:k=ps.length:=by omega
     obtain ⟨b,o,rfl,hbl,hcell⟩:=HW.o (by omega);obtain ⟨c0,_,c2,_⟩:=hcell i hlt;have d0:=(B.o.cell (p:=⟨b,o+i*11,none⟩) hbl).trans c0;have d2:=(B.o.cell (p:=⟨b,o+i*11+2,none⟩) hbl).trans c2;have EL:=zaa (show ziv ps i ws[i]=(decide (b0+(zoj ps i ps.length:Int)=ws[i].links) && (decide (¬ ws[i].kind=2) || zeh ps 16 i)) by unfold ziv;rw[HB.o]);have NO:=zaa (fun e=>yaim (ps:=ps) hlt e)
     have YES:=zaa (fun (e:ziv ps i ws[i]=true) j (h:j < ws.length) (a:j < i+1)=>show ziv ps j ws[j]=true by
      by_cases q:j=i
      ·subst q;exact e
      ·exact J.o.2 j h (by omega))
     clear hcell c0 c2 J HB LB
     have cc0:(0:Int)≤(zoj ps i ps.length:Int)∧(zoj ps i ps.length:Int)≤1048576:=by omega
     generalize (zoj ps i ps.length:Int)=cc at *;generalize ziv ps i ws[i]=lb at EL NO YES;generalize ws[i].links=zl at *;generalize ws[i].kind=zk at *
     by_cases q:b0+cc=zl
     ·by_cases r:zk=2
      ·subst r
       cases hh:zeh ps 16 i with
       | true =>
        have E:=zaa (YES.o (by rw[EL.o,decide_eq_true q,hh];rfl));have HH:=zaa hh;have R:=zaa (HR.o.below B.o)
        have q1:(b0+cc != zl)=false:=by rw[q];simp
        clear hh EL NO YES q;go_wp2_with fail;refine (LH.o _ _ R.o).mono ?_;rw[HH.o];rintro e w1 ⟨rfl,hb1⟩;have B1:=zaa (zab K.o hb1 K.o.size);clear hb1;go_wp2
        go_roundw
        case rel=>exact ⟨i+1,by omega,by go_num,B1.o,E.o⟩
        case measure=>simp[intOf];omega
       | false =>
        have E:=zaa (NO.o (by rw[EL.o,hh];simp));have HH:=zaa hh;have R:=zaa (HR.o.below B.o)
        have q1:(b0+cc != zl)=false:=by rw[q];simp
        clear hh EL NO YES q;go_wp2_with fail;refine (LH.o _ _ R.o).mono ?_;rw[HH.o];rintro e w1 ⟨rfl,hb1⟩;have B1:=zaa (zab B.o hb1 B.o.size);clear hb1;go_wp2;go_ret;exact ⟨zaf E.o.symm,B1.o⟩
      ·have E:Hid (Below W.heap.size W wr∧∀ j (h:j < ws.length),j < i+1→ziv ps j ws[j]=true):=⟨K.o,YES.o (by rw[EL.o,decide_eq_true q,decide_eq_true r];rfl)⟩
       have r1:(zk == 2)=false:=beq_eq_false_iff_ne.2 r
       have q1:(b0+cc != zl)=false:=by rw[q];simp
       clear EL NO YES q r;go_wp2
       go_roundw
       case rel=>exact ⟨i+1,by omega,by go_num,E⟩
       case measure=>simp[intOf];omega
     ·have q1:(b0+cc != zl)=true:=by rw[bne_iff_ne];exact q
      have E:=zaa (NO.o (by rw[EL.o,decide_eq_false q];rfl));clear q EL NO YES;go_wp2;go_ret;exact ⟨zaf E.o.symm,B.o⟩
  ·obtain rfl:i=ws.length:=by omega
   have E:=zaa (show zhm ws ps=true from decide_eq_true (fun j h=>J.o.2 j h h));go_wp2;go_ret;exact ⟨zaf E.o.symm,zab BW.o J.o.1 hz⟩
def zau (n:Int):Bool:=decide (0≤n∧n < 1099511627776)
def zbn (n:Int):Bool:=decide (0≤n∧n < 336)
def zls (n:Int):Bool:=decide (0≤n∧n < 32)
theorem zrd {n:Int} (h:zls n=true):0≤n∧n < 32:=of_decide_eq_true h
theorem zgj {n:Int} (h:zbn n=true):0≤n∧n < 336:=of_decide_eq_true h
theorem zce (n:Int) (w:World):Calls Tryz.prog 22 #[.int .i64 n] w fun e w'=>e=.returned (.bool (zau n))∧w'=w:=by
 by_cases h0:0≤n
 ·by_cases h1:n < 1099511627776
  ·have e:zau n=true:=decide_eq_true ⟨h0,h1⟩;rw[e];clear e;go_enter Tryz.func22,Tryz.ntmps22;go_wp2;go_ret;exact ⟨rfl,rfl⟩
  ·have e:zau n=false:=decide_eq_false (fun h=>h1 h.2);rw[e];clear e;go_enter Tryz.func22,Tryz.ntmps22;go_wp2;go_ret;exact ⟨rfl,rfl⟩
 ·have e:zau n=false:=decide_eq_false (fun h=>h0 h.1);rw[e];clear e;go_enter Tryz.func22,Tryz.ntmps22;go_wp2;go_ret;exact ⟨rfl,rfl⟩
theorem zdh (n:Int) (w:World):Calls Tryz.prog 106 #[.int .i64 n] w fun e w'=>e=.returned (.bool (zbn n))∧w'=w:=by
 by_cases h0:0≤n
 ·by_cases h1:n < 336
  ·have e:zbn n=true:=decide_eq_true ⟨h0,h1⟩;rw[e];clear e;go_enter Tryz.func106,Tryz.ntmps106;go_wp2;go_ret;exact ⟨rfl,rfl⟩
  ·have e:zbn n=false:=decide_eq_false (fun h=>h1 h.2);rw[e];clear e;go_enter Tryz.func106,Tryz.ntmps106;go_wp2;go_ret;exact ⟨rfl,rfl⟩
 ·have e:zbn n=false:=decide_eq_false (fun h=>h0 h.1);rw[e];clear e;go_enter Tryz.func106,Tryz.ntmps106;go_wp2;go_ret;exact ⟨rfl,rfl⟩
theorem zfk (n:Int) (w:World):Calls Tryz.prog 133 #[.int .i64 n] w fun e w'=>e=.returned (.bool (zls n))∧w'=w:=by
 by_cases h0:0≤n
 ·by_cases h1:n < 32
  ·have e:zls n=true:=decide_eq_true ⟨h0,h1⟩;rw[e];clear e;go_enter Tryz.func133,Tryz.ntmps133;go_wp2;go_ret;exact ⟨rfl,rfl⟩
  ·have e:zls n=false:=decide_eq_false (fun h=>h1 h.2);rw[e];clear e;go_enter Tryz.func133,Tryz.ntmps133;go_wp2;go_ret;exact ⟨rfl,rfl⟩
 ·have e:zls n=false:=decide_eq_false (fun h=>h0 h.1);rw[e];clear e;go_enter Tryz.func133,Tryz.ntmps133;go_wp2;go_ret;exact ⟨rfl,rfl⟩
def inB (n lo hi:Int):Bool:=decide (lo≤n∧n≤hi)
theorem zrl (n lo hi:Int) (w:World):Calls Tryz.prog 65 #[.int .i64 n,.int .i64 lo,.int .i64 hi] w fun e w'=>e=.returned (.bool (inB n lo hi))∧w'=w:=by
 by_cases h0:lo≤n
 ·by_cases h1:n≤hi
  ·have e:inB n lo hi=true:=decide_eq_true ⟨h0,h1⟩;rw[e];clear e;go_enter Tryz.func65,Tryz.ntmps65;go_wp2;go_ret;exact ⟨rfl,rfl⟩
  ·have e:inB n lo hi=false:=decide_eq_false (fun h=>h1 h.2);rw[e];clear e;go_enter Tryz.func65,Tryz.ntmps65;go_wp2;go_ret;exact ⟨rfl,rfl⟩
 ·have e:inB n lo hi=false:=decide_eq_false (fun h=>h0 h.1);rw[e];clear e;go_enter Tryz.func65,Tryz.ntmps65;go_wp2;go_ret;exact ⟨rfl,rfl⟩
theorem yatl (n:Int):inB n 0 1099511627775=zau n:=by
 unfold inB zau;rw[decide_eq_decide];omega
theorem yapn (n:Int):inB n 0 335=zbn n:=by
 unfold inB zbn;rw[decide_eq_decide];omega
theorem yaxf (n:Int):inB n 0 31=zls n:=by
 unfold inB zls;rw[decide_eq_decide];omega
theorem zjf (n:Int) (w:World):Calls Tryz.prog 65 #[.int .i64 n,.int .i64 0,.int .i64 31] w fun e w'=>e=.returned (.bool (zls n))∧w'=w:=by
 rw[← yaxf];exact zrl n 0 31 w
theorem zgx (n:Int) (w:World):Calls Tryz.prog 65 #[.int .i64 n,.int .i64 0,.int .i64 335] w fun e w'=>e=.returned (.bool (zbn n))∧w'=w:=by
 rw[← yapn];exact zrl n 0 335 w
theorem zch (n:Int) (w:World):Calls Tryz.prog 66 #[.int .i64 n] w fun e w'=>e=.returned (.bool (zau n))∧w'=w:=by
 have E:=zaa (yatl n);go_enter Tryz.func66,Tryz.ntmps66;go_wp2_with fail;refine (zrl n 0 1099511627775 _).mono ?_;rw[E.o];rintro e w' ⟨rfl,rfl⟩;go_wp2;go_ret;exact ⟨rfl,rfl⟩
def zkj (zs:List Int):Bool:=decide (∀ k (h:k < zs.length),zau zs[k]=true)
theorem zrv {zs:List Int} (h:zkj zs=true):∀ k (h:k < zs.length),zau zs[k]=true:=of_decide_eq_true h
theorem zye {zs:List Int} (h:∀ k (h:k < zs.length),zau zs[k]=true):zkj zs=true:=decide_eq_true h
theorem yagx {zs:List Int} {k:Nat} (hk:k < zs.length) (h:zau zs[k]=false):zkj zs=false:=decide_eq_false (fun x=>by have:=x k hk;rw[h] at this;cases this)
theorem yaad {zs:List Int} (h:zkj zs=false):∃ k,∃ h:k < zs.length,zau zs[k]=false:=by
 apply Classical.byContradiction;intro hn
 have:zkj zs=true:=zye (fun k hk=>by
  cases e:zau zs[k] with
  | true=>rfl
  | false=>exact absurd ⟨k,hk,e⟩ hn)
 rw[h] at this
 cases this
def Ino.ns (x:Ino):List Int:=[x.kind,x.size,x.links,x.m0,x.m1,x.m2,x.m3,x.m4,x.m5,x.m6,x.m7]
def yacj (zs:List Int):Bool:=decide (∀ k (h:k < zs.length),zeo zs[k]=true)
def yaht (zs:List Int):Bool:=decide (∀ k (h:k < zs.length),(zs[k] == 0)=true)
def zks (x:Ino):Bool:=decide (x.kind=1) && (decide (1≤x.links∧x.links≤24) && (decide (0≤x.size∧x.size < 9) && (yacj (x.map.take x.size.toNat) && yaht (x.map.drop x.size.toNat))))
theorem yaau:zeo 0=true:=by decide
theorem yajo {x:Ino} (h:x.ns=[0,0,0,0,0,0,0,0,0,0,0]):zex x=true:=by
 obtain ⟨k,s,l,m0,m1,m2,m3,m4,m5,m6,m7⟩:=x;simp only[Ino.ns,List.cons.injEq,and_true] at h;obtain ⟨rfl,rfl,rfl,rfl,rfl,rfl,rfl,rfl,rfl,rfl,rfl⟩:=h;decide
theorem yayr {x:Ino} (h:x.ns=[2,0,1,0,0,0,0,0,0,0,0]):zex x=true:=by
 obtain ⟨k,s,l,m0,m1,m2,m3,m4,m5,m6,m7⟩:=x;simp only[Ino.ns,List.cons.injEq,and_true] at h;obtain ⟨rfl,rfl,rfl,rfl,rfl,rfl,rfl,rfl,rfl,rfl,rfl⟩:=h;decide
theorem yaow {x:Ino} (h0:0≤x.size) (h8:x.size≤8):mapB x.map x.size=(yacj (x.map.take x.size.toNat) && yaht (x.map.drop x.size.toNat)):=by
 rw[Bool.eq_iff_iff,Bool.and_eq_true];have hl:x.map.length=8:=rfl
 have hg:∀ i (h:i < 8),x.map.getD i 0=x.map[i]'(by rw[hl];exact h):=fun i h=>by
  rw[List.getD_eq_getElem?_getD,List.getElem?_eq_getElem (by rw[hl];exact h)];rfl
 constructor
 ·intro h;have h:=zhs h;refine ⟨decide_eq_true fun k hk=>?_,decide_eq_true fun k hk=>?_⟩
  ·rw[List.length_take,hl] at hk;have:=h k (by omega);rw[hg k (by omega)] at this;rw[List.getElem_take];unfold zst at this;exact (Bool.and_eq_true _ _ ▸ this:_∧_).1
  ·rw[List.length_drop,hl] at hk;have:=h (x.size.toNat+k) (by omega);rw[hg _ (by omega)] at this;rw[List.getElem_drop];unfold zst at this;have:=(Bool.and_eq_true _ _ ▸ this:_∧_).2;rw[Bool.or_eq_true] at this
   rcases this with h1 | h1
   ·exact h1
   ·have:=of_decide_eq_true h1;omega
 ·rintro ⟨h1,h2⟩;have h1:=of_decide_eq_true h1;have h2:=of_decide_eq_true h2
  refine zwm fun i hi=>?_
  rw[hg i hi];unfold zst;rw[Bool.and_eq_true,Bool.or_eq_true]
  by_cases hs:i < x.size.toNat
  ·have:=h1 i (by rw[List.length_take,hl];omega);rw[List.getElem_take] at this;exact ⟨this,.inr (decide_eq_true (by omega))⟩
  ·have:=h2 (i - x.size.toNat) (by rw[List.length_drop,hl];omega);rw[List.getElem_drop] at this
   have e:x.size.toNat+(i - x.size.toNat)=i:=by omega
   simp only[e] at this;exact ⟨by rw[eq_of_beq this];exact yaau,.inl this⟩
theorem yaif {x:Ino} (h0:x.size=0) (h:mapB x.map x.size=true):x.map=[0,0,0,0,0,0,0,0]:=by
 have h:=zhs h
 have g:∀ i,i < 8→x.map.getD i 0=0:=fun i hi=>by
  have:=h i hi;unfold zst at this;have:=(Bool.and_eq_true _ _ ▸ this:_∧_).2;rw[Bool.or_eq_true] at this
  rcases this with h1 | h1
  ·exact eq_of_beq h1
  ·have:=of_decide_eq_true h1;omega
 have a0:=g 0 (by omega);have a1:=g 1 (by omega);have a2:=g 2 (by omega);have a3:=g 3 (by omega);have a4:=g 4 (by omega);have a5:=g 5 (by omega);have a6:=g 6 (by omega);have a7:=g 7 (by omega);simp[Ino.map] at *;exact ⟨a0,a1,a2,a3,a4,a5,a6,a7⟩
theorem yato {x:Ino} (h0:¬ x.ns=[0,0,0,0,0,0,0,0,0,0,0]) (h1:¬ x.ns=[2,0,1,0,0,0,0,0,0,0,0]):zks x=zex x:=by
 by_cases hk:x.kind=1
 ·unfold zks zex;rw[decide_eq_true hk,decide_eq_true (show 0≤x.kind∧x.kind≤2 by omega)];simp only[Bool.true_and]
  by_cases hs:0≤x.size∧x.size≤8
  ·rw[decide_eq_true hs,decide_eq_true (show 0≤x.size∧x.size < 9 by omega),← yaow hs.1 hs.2]
   have e:zfy x=decide (0 < x.links):=by unfold zfy;rw[if_neg (by omega),if_neg (by omega)]
   rw[e]
   by_cases hl:1≤x.links∧x.links≤24
   ·rw[decide_eq_true hl,decide_eq_true (show 0≤x.links∧x.links≤24 by omega),decide_eq_true (show 0 < x.links by omega)];simp
   ·rw[decide_eq_false hl]
    by_cases h3:0 < x.links
    ·rw[decide_eq_false (show ¬ (0≤x.links∧x.links≤24) by omega)];simp
    ·rw[decide_eq_false h3];simp
  ·rw[decide_eq_false hs,decide_eq_false (show ¬ (0≤x.size∧x.size < 9) by omega)];simp
 ·have e1:zks x=false:=by unfold zks;rw[decide_eq_false hk];rfl
  rw[e1,eq_comm,Bool.eq_false_iff];intro e;unfold zex at e;simp only[Bool.and_eq_true,decide_eq_true_eq] at e;obtain ⟨a,b,c,d,f⟩:=e;unfold zfy at f
  by_cases k0:x.kind=0
  ·rw[if_pos k0] at f;obtain ⟨f1,f2,f3⟩:=of_decide_eq_true f;apply h0;simp only[Ino.map,List.cons.injEq,and_true] at f3;simp[Ino.ns,k0,f1,f2,f3]
  ·rw[if_neg k0,if_pos (by omega)] at f;simp only[Bool.and_eq_true,beq_iff_eq] at f;have f3:=yaif f.1 d;apply h1;simp only[Ino.map,List.cons.injEq,and_true] at f3
   have k2:x.kind=2:=by omega
   simp[Ino.ns,k2,f.1,f.2,f3]
def ED (w:World):Prop:=∃ t fr,w.heap[4]?=some (.cells #[.int .i64 2,.int .i64 0,.int .i64 1,.int .i64 0,.int .i64 0,.int .i64 0,.int .i64 0,.int .i64 0,.int .i64 0,.int .i64 0,.int .i64 0] t fr)
theorem ED.lt {w:World} (h:ED w):4 < w.heap.size:=by
 obtain ⟨t,fr,h⟩:=h;exact (Array.getElem?_eq_some_iff.1 h).1
theorem ED.below {w w':World} (h:ED w) (hb:Below w.heap.size w w'):ED w':=by
 have hl:=h.lt;obtain ⟨t,fr,h⟩:=h;exact ⟨t,fr,(hb.block _ hl).trans h⟩
theorem ED.cells {w:World} (h:ED w):w.cell? ⟨4,0,none⟩=some (.int .i64 2)∧w.cell? ⟨4,1,none⟩=some (.int .i64 0)∧w.cell? ⟨4,2,none⟩=some (.int .i64 1)∧w.cell? ⟨4,3,none⟩=some (.int .i64 0)∧w.cell? ⟨4,4,none⟩=some (.int .i64 0)∧w.cell? ⟨4,5,none⟩=some (.int .i64 0)∧w.cell? ⟨4,6,none⟩=some (.int .i64 0)∧w.cell? ⟨4,7,none⟩=some (.int .i64 0)∧w.cell? ⟨4,8,none⟩=some (.int .i64 0)∧w.cell? ⟨4,9,none⟩=some (.int .i64 0)∧w.cell? ⟨4,10,none⟩=some (.int .i64 0):=by
 obtain ⟨t,fr,h⟩:=h;simp[World.cell?,h]
theorem zrj (n:Int) (w:World) (hT:TS w) (h0:-9223372036854775808≤n) (h1:n≤9223372036854775807):Calls Tryz.prog 202 #[.int .i64 n] w fun e w'=>e=.returned (.bool (zeo n))∧w'=w:=by
 have T:=zaa hT;clear hT
 cases c:zeo n with
 | true =>
  have E:=zaa (ztv c).2.2;clear c;go_enter Tryz.func202,Tryz.ntmps202;go_wp2_with (go_at_call 49;refine (zfh _ _ T.o h0 h1).mono ?_;rw[E.o];rintro e w' ⟨rfl,rfl⟩);go_ret;exact ⟨rfl,rfl⟩
 | false =>
  have E:=zaa (yaba c).2.2;clear c;go_enter Tryz.func202,Tryz.ntmps202;go_wp2_with (go_at_call 49;refine (zfh _ _ T.o h0 h1).mono ?_;rw[E.o];rintro e w' ⟨rfl,rfl⟩);go_ret;exact ⟨rfl,rfl⟩
theorem zlq (n:Int) (w:World):Calls Tryz.prog 203 #[.int .i64 n] w fun e w'=>e=.returned (.bool (n == 0))∧w'=w:=by
 go_enter Tryz.func203,Tryz.ntmps203;go_wp2;go_ret;exact ⟨rfl,rfl⟩
theorem yaty {zs:List Int} (h:∀ k (h:k < zs.length),zeo zs[k]=true):yacj zs=true:=decide_eq_true h
theorem yamw {zs:List Int} {k:Nat} (hk:k < zs.length) (h:zeo zs[k]=false):yacj zs=false:=decide_eq_false (fun x=>by have:=x k hk;rw[h] at this;cases this)
theorem yasi {zs:List Int} (h:∀ k (h:k < zs.length),(zs[k] == 0)=true):yaht zs=true:=decide_eq_true h
theorem yapw {zs:List Int} {k:Nat} (hk:k < zs.length) (h:(zs[k] == 0)=false):yaht zs=false:=decide_eq_false (fun x=>by have:=x k hk;rw[h] at this;cases this)
theorem zkl (v:Value) (zs:List Int) (w:World) (h:RdI w v zs) (hn:zs.length≤2147483648) (hT:TS w) (hr:∀ k (h:k < zs.length),-9223372036854775808≤zs[k]∧zs[k]≤9223372036854775807) :
  Calls Tryz.prog 95 #[v,.func (.func 202) #[] #[]] w fun e w'=>e=.returned (.bool (yacj zs))∧w'=w:=by
 have T:=zaa hT;have HR:=zaa hr;clear hT hr;obtain ⟨ao,cap,rfl,_,hc⟩:=h.shape;clear h;go_enter Tryz.func95,Tryz.ntmps95;go_wp2
 go_loop [6,9] (fun _ i=>∃ k:Nat,k≤zs.length∧i=.int .i64 k∧Hid (∀ j (h:j < zs.length),j < k→zeo zs[j]=true)) (fun _ i=>zs.length - (intOf i).toNat)
 case atStart=>exact ⟨0,by omega,rfl,fun j h a=>absurd a (by omega)⟩
 case round =>
  obtain ⟨k,hk,rfl,H⟩:=hrel
  by_cases hlt:k < zs.length
  ·obtain ⟨b,o,rfl,hbl,hcell⟩:=hc (by omega);have hck:=hcell k hlt;obtain ⟨r0,r1⟩:=HR.o k hlt;clear hcell hc
   by_cases q:zeo zs[k]=true
   ·go_wp2_with (go_at_call 202;refine (zrj _ _ T.o r0 r1).mono ?_;rintro e w' ⟨rfl,rfl⟩)
    go_round
    case rel =>
     refine ⟨k+1,by omega,by go_num,fun j h a=>?_⟩
     by_cases e:j=k
     ·subst e;exact q
     ·exact H.o j h (by omega)
    case measure=>simp[intOf];omega
   ·have q':zeo zs[k]=false:=by simpa using q
    have E:=zaa (yamw hlt q');go_wp2_with (go_at_call 202;refine (zrj _ _ T.o r0 r1).mono ?_;rintro e w' ⟨rfl,rfl⟩);go_ret;exact ⟨zaf E.o.symm,rfl⟩
  ·have E:=zaa (yaty (fun j h=>H.o j h (by omega)));clear H;go_wp2;go_ret;exact ⟨zaf E.o.symm,rfl⟩
theorem zou (v:Value) (zs:List Int) (w:World) (h:RdI w v zs) (hn:zs.length≤2147483648) :
  Calls Tryz.prog 95 #[v,.func (.func 203) #[] #[]] w fun e w'=>e=.returned (.bool (yaht zs))∧w'=w:=by
 obtain ⟨ao,cap,rfl,_,hc⟩:=h.shape;clear h;go_enter Tryz.func95,Tryz.ntmps95;go_wp2
 go_loop [6,9] (fun _ i=>∃ k:Nat,k≤zs.length∧i=.int .i64 k∧Hid (∀ j (h:j < zs.length),j < k→(zs[j] == 0)=true)) (fun _ i=>zs.length - (intOf i).toNat)
 case atStart=>exact ⟨0,by omega,rfl,fun j h a=>absurd a (by omega)⟩
 case round =>
  obtain ⟨k,hk,rfl,H⟩:=hrel
  by_cases hlt:k < zs.length
  ·obtain ⟨b,o,rfl,hbl,hcell⟩:=hc (by omega);have hck:=hcell k hlt;clear hcell hc
   by_cases q:(zs[k] == 0)=true
   ·go_wp2_with (go_at_call 203;refine (zlq _ _).mono ?_;rintro e w' ⟨rfl,rfl⟩)
    go_round
    case rel =>
     refine ⟨k+1,by omega,by go_num,fun j h a=>?_⟩
     by_cases e:j=k
     ·subst e;exact q
     ·exact H.o j h (by omega)
    case measure=>simp[intOf];omega
   ·have q':(zs[k] == 0)=false:=by simpa using q
    have E:=zaa (yapw hlt q');go_wp2_with (go_at_call 203;refine (zlq _ _).mono ?_;rintro e w' ⟨rfl,rfl⟩);go_ret;exact ⟨zaf E.o.symm,rfl⟩
  ·have E:=zaa (yasi (fun j h=>H.o j h (by omega)));clear H;go_wp2;go_ret;exact ⟨zaf E.o.symm,rfl⟩
theorem yaoa (w:World) (b n:Nat) (hn:n≤8):(Instr.sliceAt 57 (.pointer (some ⟨b,3,none⟩)) none (some (.int .i64 (n:Int))) none).run Tryz.prog w=.ok (.slice (some ⟨b,3,none⟩) n 8) w:=by
 have al:Tryz.prog.arrayLen 57=8:=by kernel_rfl
 rw[run_sliceAt_array_h w 57 ⟨b,3,none⟩ (by kernel_rfl) .i64 (n:Int) (by omega) (by rw[al];omega),al]
 have sz:(sizeOf (Tryz.prog.elem 57)).run Tryz.prog w=.ok 1 w:=by kernel_rfl
 rw[sz];simp[Result.andThen,slicedAt,Addr.add]
theorem yaxg (w:World) (b n:Nat) (hn:n≤8):(Instr.sliceAt 57 (.pointer (some ⟨b,3,none⟩)) (some (.int .i64 (n:Int))) none none).run Tryz.prog w=.ok (.slice (some (if n=8 then ⟨b,3,none⟩ else ⟨b,3+n,none⟩)) (8 - n) (8 - n)) w:=by
 have al:Tryz.prog.arrayLen 57=8:=by kernel_rfl
 rw[run_sliceAt_array_l w 57 ⟨b,3,none⟩ (by kernel_rfl) .i64 (n:Int) (by omega) (by rw[al];omega),al]
 have sz:(sizeOf (Tryz.prog.elem 57)).run Tryz.prog w=.ok 1 w:=by kernel_rfl
 rw[sz]
 by_cases h:n=8
 ·subst h;simp[Result.andThen,slicedAt]
 ·have h':¬ 8=n:=by omega
  simp only[Result.andThen,slicedAt];rw[if_neg (by omega),if_neg h];simp[Addr.add]
theorem Ino.cs_map (x:Ino) (k:Nat) (hk:k < 8):x.cs[3+k]?=some (.int .i64 (x.map[k]'(by rw[x.len];exact hk))):=by
 rcases (show k=0∨k=1∨k=2∨k=3∨k=4∨k=5∨k=6∨k=7 by omega) with rfl | rfl | rfl | rfl | rfl | rfl | rfl | rfl <;> rfl
theorem yatx {x:Ino} {w:World} {b n:Nat} (hn:n≤8) (hb:b < w.heap.size) (h:∀ j,w.cell? ⟨b,j,none⟩=x.cs[j]?):RdI w (.slice (some ⟨b,3,none⟩) n 8) (x.map.take n):=by
 have hl:(x.map.take n).length=n:=by rw[List.length_take,x.len];omega
 refine ⟨by rw[zfz,Nat.mul_one],some ⟨b,3,none⟩,8,by rw[hl],⟨by omega,fun e=>by cases e⟩,fun _=>⟨b,3,rfl,hb,fun j hj=>?_⟩⟩;rw[hl,Nat.mul_one] at hj;rw[h,x.cs_map j (by omega),zdg _ _ (by omega),List.getElem_take]
theorem yaqh {x:Ino} {w:World} {b n:Nat} (hn:n≤8) (hb:b < w.heap.size) (h:∀ j,w.cell? ⟨b,j,none⟩=x.cs[j]?):RdI w (.slice (some (if n=8 then ⟨b,3,none⟩ else ⟨b,3+n,none⟩)) (8 - n) (8 - n)) (x.map.drop n):=by
 have hl:(x.map.drop n).length=8 - n:=by rw[List.length_drop,x.len]
 refine ⟨by rw[zfz,Nat.mul_one],some (if n=8 then ⟨b,3,none⟩ else ⟨b,3+n,none⟩),8 - n,by rw[hl],⟨by omega,fun e=>by cases e⟩,fun hp=>?_⟩;rw[hl] at hp;refine ⟨b,3+n,by rw[if_neg (by omega)],hb,fun j hj=>?_⟩;rw[hl,Nat.mul_one] at hj;rw[h,Nat.add_assoc,x.cs_map (n+j) (by omega),zdg _ _ (by omega),List.getElem_drop]
theorem Ino.R.at' {x:Ino} (h:x.R) (k:Nat) (hk:k < x.map.length):-9223372036854775808≤x.map[k]∧x.map[k]≤9223372036854775807:=h _ (List.getElem_mem _)
theorem yahi (x:Ino) (w:World) (hT:TS w) (hr:x.R):Calls Tryz.prog 189 #[x.v] w fun e w'=>e=.returned (.bool (zks x))∧Below w.heap.size w w':=by
 have hv:x.v=.agg x.cs.toArray:=rfl
 obtain ⟨W,hW⟩:∃ W,W=w.alloc (.cells x.cs.toArray 59):=⟨_,rfl⟩
 have CA:Hid (∀ j,W.cell? ⟨w.heap.size,j,none⟩=x.cs[j]?):=fun j=>by rw[hW];exact (zak (xs:=x.cs) (zag rfl) j).1
 have BW:Hid (Below w.heap.size w W):=by rw[hW];exact (Below.refl _ _).alloc (Nat.le_refl _) _
 have T:Hid (TS W):=hT.below BW.o
 have hWz:w.heap.size < W.heap.size:=by rw[hW];simp
 have c0:W.cell? ⟨w.heap.size,0,none⟩=some (.int .i64 x.kind):=CA.o 0;have c1:W.cell? ⟨w.heap.size,1,none⟩=some (.int .i64 x.size):=CA.o 1;have c2:W.cell? ⟨w.heap.size,2,none⟩=some (.int .i64 x.links):=CA.o 2;have HR:=zaa hr;subst hW;rw[hv];clear hT hr
 by_cases h0:x.kind=1
 case neg =>
  have E:=zaa (show zks x=false by unfold zks;rw[decide_eq_false h0];rfl)
  have q:(x.kind != 1)=true:=by rw[bne_iff_ne];exact h0
  go_enter Tryz.func189,Tryz.ntmps189;go_wp2;go_ret;exact ⟨zaf E.o.symm,BW.o⟩
 have q:(x.kind != 1)=false:=by rw[h0];rfl
 by_cases h1:1≤x.links
 case neg =>
  have E:=zaa (show zks x=false by unfold zks;rw[decide_eq_true h0,decide_eq_false (show ¬ (1≤x.links∧x.links≤24) by omega)];rfl)
  have q2:x.links < 1:=by omega
  go_enter Tryz.func189,Tryz.ntmps189;go_wp2;go_ret;exact ⟨zaf E.o.symm,BW.o⟩
 have q2:¬ x.links < 1:=by omega
 by_cases h2:x.links≤24
 case neg =>
  have E:=zaa (show zks x=false by unfold zks;rw[decide_eq_true h0,decide_eq_false (show ¬ (1≤x.links∧x.links≤24) by omega)];rfl)
  have q3:24 < x.links:=by omega
  go_enter Tryz.func189,Tryz.ntmps189;go_wp2;go_ret;exact ⟨zaf E.o.symm,BW.o⟩
 have q3:¬ 24 < x.links:=by omega
 by_cases h3:0≤x.size∧x.size < 9
 case neg =>
  have E:=zaa (show zks x=false by unfold zks;rw[decide_eq_true h0,decide_eq_true (show 1≤x.links∧x.links≤24 by omega),decide_eq_false h3];rfl);have H3:=zaa h3;clear h3;go_enter Tryz.func189,Tryz.ntmps189;go_wp2_with (go_at_call 21;refine (zbe _ _ _ H3.o).mono ?_;rintro e w' ⟨rfl,rfl⟩);go_ret;exact ⟨zaf E.o.symm,BW.o⟩
 have E:=zaa (show zks x=(yacj (x.map.take x.size.toNat) && yaht (x.map.drop x.size.toNat)) by unfold zks;rw[decide_eq_true h0,decide_eq_true (show 1≤x.links∧x.links≤24 by omega),decide_eq_true h3];rfl)
 obtain ⟨n,hn⟩:∃ n:Nat,x.size=(n:Int):=⟨x.size.toNat,by omega⟩
 have hn8:n≤8:=by omega
 rw[show x.size.toNat=n by omega] at E;rw[hn] at c1 h3;have R1:=zaa (yatx (x:=x) hn8 hWz CA.o);have R2:=zaa (yaqh (x:=x) hn8 hWz CA.o);have s1:=yaoa (w.alloc (.cells x.cs.toArray 59)) w.heap.size n hn8;have s2:=yaxg (w.alloc (.cells x.cs.toArray 59)) w.heap.size n hn8;have L1:=zaa (show (x.map.take n).length≤2147483648 by rw[List.length_take];omega);have L2:=zaa (show (x.map.drop n).length≤2147483648 by rw[List.length_drop,x.len];omega);have RR:=zaa (show ∀ k (h:k < (x.map.take n).length),-9223372036854775808≤(x.map.take n)[k]∧(x.map.take n)[k]≤9223372036854775807 from fun k h=>by rw[List.getElem_take];exact HR.o.at' k _);have H3:=zaa h3;generalize (if n=8 then (⟨w.heap.size,3,none⟩:Addr) else ⟨w.heap.size,3+n,none⟩)=aT at s2 R2
 cases hq:yacj (x.map.take n) with
 | false =>
  have TQ:=zaa hq;rw[hq] at E;clear h3 hn hq;go_enter Tryz.func189,Tryz.ntmps189;go_wp2_with fail;refine (zaq _ _ _ H3.o).mono ?_;rintro e w' ⟨rfl,rfl⟩;go_wp2_with fail;refine (zkl _ _ _ R1.o L1.o T.o RR.o).mono ?_;rw[TQ.o];rintro e w' ⟨rfl,rfl⟩;go_wp2;go_ret;exact ⟨zaf (by rw[E.o];rfl),BW.o⟩
 | true =>
  have TQ:=zaa hq;rw[hq] at E;clear h3 hn hq;go_enter Tryz.func189,Tryz.ntmps189;go_wp2_with fail;refine (zaq _ _ _ H3.o).mono ?_;rintro e w' ⟨rfl,rfl⟩;go_wp2_with fail;refine (zkl _ _ _ R1.o L1.o T.o RR.o).mono ?_;rw[TQ.o];rintro e w' ⟨rfl,rfl⟩;go_wp2_with fail;refine (zou _ _ _ R2.o L2.o).mono ?_;rintro e w' ⟨rfl,rfl⟩;go_wp2;go_ret;exact ⟨zaf (by rw[E.o];rfl),BW.o⟩
end Go.Proofs.YtpgoeagccmcifaaGreatDoor
