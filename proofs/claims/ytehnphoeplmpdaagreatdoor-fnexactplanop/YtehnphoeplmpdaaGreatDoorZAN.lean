/- Several texts laid together: StA, PbA, PbC. -/
import Derived.Test.YtehnphoeplmpdaaGreatDoorZAM
import Derived.Test.YtehnphoeplmpdaaGreatDoorZAD
import Derived.Test.YtehnphoeplmpdaaGreatDoorZAH
import Derived.Deep.DeepCutAuto
import Derived.Deep.RegionWith
import Derived.Deep.RegionHeld3
import Derived.Lib.Strings
import Derived.Lib.SplitLaws
import Derived.Lib.IndexBytes
import Derived.Deep.LoopGhost
import Derived.Laws.OwnMore
set_option maxRecDepth 100000
set_option maxHeartbeats 4000000
namespace Go.Proofs.YtehnphoeplmpdaaGreatDoor
open Go.RowKit
def zcy (ss:List ByteArray):List Value:=ss.map Value.string
theorem zgu (ss:List ByteArray):(zcy ss).length=ss.length:=by simp[zcy]
theorem zll (ss:List ByteArray) (k:Nat) (h:k < ss.length):(zcy ss)[k]?=some (.string ss[k]):=by simp[zcy,h]
theorem zbh (ss:List ByteArray):∀ u∈zcy ss,u.oneCell'=true:=by
 intro u hu;simp only[zcy,List.mem_map] at hu;obtain ⟨s,_,rfl⟩:=hu;rfl
def RdT (w:World) (v:Value) (ss:List ByteArray):Prop:=Rd w 1 v ss.length (zcy ss)
theorem RdT.shape {w:World} {v:Value} {ss:List ByteArray} (h:RdT w v ss):∃ ao cap,v=.slice ao ss.length cap∧ss.length≤cap∧(0 < ss.length→∃ b o,ao=some ⟨b,o,none⟩∧b < w.heap.size∧∀ k (h:k < ss.length),w.cell? ⟨b,o+k,none⟩=some (.string ss[k])):=by
 obtain ⟨_,ao,cap,rfl,h2,h3⟩:=h;refine ⟨ao,cap,rfl,h2.1,fun hn=>?_⟩;obtain ⟨b,o,e,hb,hc⟩:=h3 hn;exact ⟨b,o,e,hb,fun k hk=>(hc k (by omega)).trans (zll ss k hk)⟩
theorem zew:(Tryz.prog.info? 9).map (fun i=>(i.zero,i.size,i.bytes))=some (some (.string ⟨#[]⟩),1,16):=by kernel_rfl
theorem zhg (w1:World) (x:ByteArray):Rd (w1.alloc (.cells #[.string x] 9)) 1 (.slice (some ⟨w1.heap.size,0,none⟩) 1 1) 1 (zcy [x]):=by
 refine ⟨rfl,_,_,rfl,⟨Nat.le_refl _,fun e=>by cases e⟩,fun _=>⟨w1.heap.size,0,rfl,by simp,fun j hj=>?_⟩⟩
 obtain rfl:j=0:=by omega
 exact (zae (xs:=[.string x]) (zah rfl) 0).1
theorem zgt {B:Nat} {a w:World} (h:Below B a w) (n:Nat):Below B a (w.drewN n):=by
 induction n with
 | zero=>exact h
 | succ n ih=>exact ⟨ih.os,ih.tape,ih.output,ih.size,ih.block⟩
theorem zql (va vb:Value) (ss:List ByteArray) (w:World) (ha:RdT w va ss) (hb:RdT w vb ss) (hn:ss.length≤2147483648) :
  Calls Tryz.prog 44 #[va,vb] w fun e w'=>e=.returned (.bool true)∧Below w.heap.size w w':=by
 obtain ⟨ao,cap,rfl,hcap,hc⟩:=ha.shape;obtain ⟨ao2,cap2,rfl,hcap2,hc2⟩:=hb.shape;clear ha hb;go_enter Tryz.func44,Tryz.ntmps44;go_wp2
 go_loopw [5] (fun i wr=>∃ k:Nat,k≤ss.length∧i=.int .i64 k∧Below w.heap.size w wr) (fun i _=>ss.length - (intOf i).toNat)
 case atStart=>exact ⟨0,by omega,rfl,Below.refl _ _⟩
 case round =>
  obtain ⟨k,hk,rfl,hbw⟩:=hrel
  by_cases hlt:k < ss.length
  ·obtain ⟨b,o,rfl,hbl,hcell⟩:=hc (by omega);obtain ⟨b2,o2,rfl,hbl2,hcell2⟩:=hc2 (by omega);have hck:wr.cell? ⟨b,o+k,none⟩=some (.string ss[k]):=(hbw.cell (p:=⟨b,o+k,none⟩) hbl).trans (hcell k hlt);have hck2:wr.cell? ⟨b2,o2+k,none⟩=some (.string ss[k]):=(hbw.cell (p:=⟨b2,o2+k,none⟩) hbl2).trans (hcell2 k hlt)
   have hlt':(k:Int) < (ss.length:Int):=by omega
   have hge:(0:Int)≤(k:Int):=by omega
   clear hcell hcell2 hc hc2;generalize ss[k]=x at hck hck2;go_wp2
   go_quiet (fail)
   go_wp2
   go_roundw
   case rel=>exact ⟨k+1,by omega,by go_num,zgt hbw _⟩
   case measure=>simp[intOf];omega
  ·go_wp2;go_ret;exact ⟨rfl,hbw⟩
def zdn (k:Int) (n:Nat):List ByteArray:=(List.range n).map fun i:Nat=>mtx (k+(i:Int)).toNat
theorem zdp (k:Int) (n:Nat):(zdn k n).length=n:=by simp[zdn]
theorem yaer (k:Int) (n i:Nat) (h:i < (zdn k n).length):(zdn k n)[i]=mtx (k+(i:Int)).toNat:=by simp[zdn]
theorem zyn (k:Int) (n:Nat):zdn k (n+1)=zdn k n ++ [mtx (k+(n:Int)).toNat]:=by unfold zdn;rw[List.range_succ,List.map_append];rfl
def zlo (k0:Int) (k:Nat) (ss:List ByteArray):List ByteArray:=zdn k0 k ++ ss.drop k
theorem yagv {k0:Int} {k:Nat} {ss:List ByteArray} (h:k≤ss.length):(zlo k0 k ss).length=ss.length:=by unfold zlo;rw[List.length_append,zdp,List.length_drop];omega
theorem yadr {k0:Int} {ss:List ByteArray} {k:Nat} (h:k < ss.length):(zcy (zlo k0 k ss)).set k (.string (mtx (k0+(k:Int)).toNat))=zcy (zlo k0 (k+1) ss):=by
 have l1:(zcy (zdn k0 k)).length=k:=by rw[zgu,zdp]
 unfold zlo;rw[List.drop_eq_getElem_cons h,zyn];unfold zcy at *;rw[List.map_append,List.map_append,List.map_append,List.set_append_right _ _ (by omega),l1,Nat.sub_self,List.append_assoc];rfl
theorem zpx (v:Value) (ss:List ByteArray) (k0:Int) (lo hi:Nat) (w:World) (h:Row w 9 1 lo hi v ss.length (zcy ss)) (hz:hi≤w.heap.size) (hn:ss.length≤16777216) (h0:0≤k0) (h1:k0≤1099511627776) :
  Calls Tryz.prog 49 #[v,.int .i64 k0] w fun e w'=>e=.returned (.int .i64 (k0+ss.length))∧Row w' 9 1 lo hi v ss.length (zcy (zdn k0 ss.length))∧w.grownBy w' v.ownBlock∧True:=by
 obtain ⟨_,ao,cap,rfl,hcap,hc⟩:=h.rd;go_enter Tryz.func49,Tryz.ntmps49;go_wp2
 go_loopw [1,5] (fun c i wr=>∃ k:Nat,k≤ss.length∧i=.int .i64 k∧c=.int .i64 (k0+k)∧Hid (Row wr 9 1 lo hi (.slice ao ss.length cap) ss.length (zcy (zlo k0 k ss))∧w.grownBy wr (Value.slice ao ss.length cap).ownBlock)∧w.heap.size≤wr.heap.size) (fun _ i _=>ss.length - (intOf i).toNat)
 case atStart=>exact ⟨0,by omega,rfl,by simp,⟨by rw[show zlo k0 0 ss=ss by simp[zlo,zdn]];exact h,World.grownBy.refl _ _⟩,Nat.le_refl _⟩
 case round =>
  obtain ⟨k,hk,rfl,rfl,I,hzr⟩:=hrel;clear h hc
  have k0':(0:Int)≤(k:Int):=by omega
  by_cases hlt:k < ss.length
  ·have k1:(k:Int) < (ss.length:Int):=by omega
   have MS:=zaa (yadr (k0:=k0) hlt);have ML:=yagv (k0:=k0) hk;have LM:=zaa (fun w1=>zmb (k0+(k:Int)).toNat w1 (by omega));rw[show (((k0+(k:Int)).toNat:Nat):Int)=k0+(k:Int) by omega] at LM;generalize mtx (k0+(k:Int)).toNat=tx at *;go_wp2_with fail;refine (LM.o _).mono ?_;rintro e w2 ⟨rfl,hb⟩;have R2:=zaa (I.o.1.below hb (by omega));have G2:=zaa (zoj I.o.2 (zzj (row:=(Value.slice ao ss.length cap).ownBlock) hb));have hz2:wr.heap.size≤w2.heap.size:=hb.size;clear I hb LM;obtain ⟨_,ao',cap',e',_,hc⟩:=R2.o.rd
   cases e'
   obtain ⟨b,o,rfl,hbl,_⟩:=hc (by omega)
   obtain ⟨rfl,hb1,hb2,_,hfr,hcl⟩:=R2.o.at
   have f0:=hfr k;have e0:=(hcl k (by omega)).trans (zll (zlo k0 k ss) k (by omega))
   have R3:Hid (Row (w2.setCell ⟨b,k,none⟩ (.string tx)) 9 1 lo hi (.slice (some ⟨b,0,none⟩) ss.length cap) ss.length (zcy (zlo k0 (k+1) ss))∧w.grownBy (w2.setCell ⟨b,k,none⟩ (.string tx)) (Value.slice (some ⟨b,0,none⟩) ss.length cap).ownBlock):=by
    refine ⟨?_,zbm G2.o (a:=⟨b,k,none⟩) rfl _⟩;rw[← MS.o];exact R2.o.stored _ _
   generalize (zlo k0 k ss)[k]'(by omega)=y at e0;clear R2 G2 hc hfr hcl;go_wp2
   go_roundw
   case rel=>exact ⟨k+1,by omega,by go_num,by go_num,R3,by simp;omega⟩
   case measure=>simp[intOf];omega
  ·obtain rfl:k=ss.length:=by omega
   have E:=zaa (show zlo k0 ss.length ss=zdn k0 ss.length by simp[zlo]);go_wp2;go_ret;exact ⟨rfl,by have:=I.o.1;rw[E.o] at this;exact this,I.o.2,trivial⟩
theorem zpn (v:Value) (n:Nat) (k0:Int) (w:World) (h:RdT w v (zdn k0 n)) (hn:n≤16777216) (h0:0≤k0) (h1:k0≤1099511627776) :
  Calls Tryz.prog 50 #[v,.int .i64 k0] w fun e w'=>e=.returned (.int .i64 (k0+n))∧Below w.heap.size w w':=by
 obtain ⟨ao,cap,hv,hcap,hc⟩:=h.shape;rw[zdp] at hv hcap;subst hv;have HC:=zaa hc;clear h hc;go_enter Tryz.func50,Tryz.ntmps50;go_wp2
 go_loopw [1,5] (fun c i wr=>∃ k:Nat,k≤n∧i=.int .i64 k∧c=.int .i64 (k0+k)∧Hid (Below w.heap.size w wr)) (fun _ i _=>n - (intOf i).toNat)
 case atStart=>exact ⟨0,by omega,rfl,by simp,Below.refl _ _⟩
 case round =>
  obtain ⟨k,hk,rfl,rfl,B⟩:=hrel
  have k0':(0:Int)≤(k:Int):=by omega
  by_cases hlt:k < n
  ·obtain ⟨b,o,rfl,hbl,hcell⟩:=HC.o (by rw[zdp];omega)
   have k1:(k:Int) < (n:Int):=by omega
   have c0:=hcell k (by rw[zdp];exact hlt);rw[yaer] at c0;have LM:=zaa (fun w1=>zmb (k0+(k:Int)).toNat w1 (by omega));rw[show (((k0+(k:Int)).toNat:Nat):Int)=k0+(k:Int) by omega] at LM;generalize mtx (k0+(k:Int)).toNat=tx at *
   have hblr:b < wr.heap.size:=by have:=B.o.size;omega
   have d0:=(B.o.cell (p:=⟨b,o+k,none⟩) hbl).trans c0
   have SK:Hid (∀ w',Below wr.heap.size wr w'→w'.cell? ⟨b,o+k,none⟩=some (.string tx)):=fun w' hb=>(hb.cell (p:=⟨b,o+k,none⟩) hblr).trans d0
   have hzr:w.heap.size≤wr.heap.size:=B.o.size;clear hcell c0;go_wp2_with fail
   go_region_held3 (fun w'=>w'.cell? ⟨b,o+k,none⟩=some (.string tx))
    (exact SK.o _ (by repeat (first | exact BF.o | exact Below.refl _ _ | refine Below.drew ?_)))
    (first
     | (go_at_call 108;refine (LM.o _).mono ?_;rintro e w1 ⟨rfl,hb1⟩;have BF:Hid (Below wr.heap.size wr w1):=(by first | exact hb1 | exact zab (by repeat (first | exact Below.refl _ _ | refine Below.drew ?_)) hb1 (Nat.le_refl _));clear hb1))
   all_goals
    have B3:=zaa (zab B.o BF.o hzr);clear SK d0;go_wp2
    go_roundw
    case rel=>exact ⟨k+1,by omega,by go_num,by go_num,(by repeat (first | exact B3.o | refine Below.drew ?_))⟩
    case measure=>simp[intOf];omega
  ·obtain rfl:k=n:=by omega
   go_wp2;go_ret;exact ⟨rfl,B.o⟩
structure SnI (W w:World) (vL:Value) (ss:List ByteArray):Prop where
 l:w.ownsRow W.heap.size 9 1 vL ss.length (zcy ss)
 b:Below W.heap.size W w
theorem SnI.z {W w:World} {vL:Value} {ss:List ByteArray} (h:SnI W w vL ss):W.heap.size≤w.heap.size:=h.b.size
theorem SnI.below {W w w':World} {vL:Value} {ss:List ByteArray} (h:SnI W w vL ss) (hb:Below w.heap.size w w'):SnI W w' vL ss :=
 ⟨((zad h.l).below hb (Nat.le_refl _)).1,zab h.b hb h.z⟩
theorem yams (l l':List ByteArray):zcy (l ++ l')=zcy l ++ zcy l':=by simp[zcy]
theorem SnI.grow {W w w':World} {vL v':Value} {ss:List ByteArray} (h:SnI W w vL ss) (l:List ByteArray) {m:Nat} (hm:m=l.length) (ho:w'.ownsRow W.heap.size 9 1 v' (ss.length+m) (zcy ss ++ zcy l)) (hg:w.grownBy w' vL.ownBlock):SnI W w' v' (ss ++ l) :=
 ⟨by rw[yams,List.length_append,← hm];exact ho,h.b.grown hg h.z (fun q hq=>(h.l.lt q hq).1)⟩
theorem SnI.rd {W w:World} {vL:Value} {ss:List ByteArray} (h:SnI W w vL ss):RdT w vL ss:=(zad h.l).rd
theorem SnI.form {W w:World} {vL:Value} {ss:List ByteArray} (h:SnI W w vL ss) (hn:vL≠.slice none 0 0):∃ b c,vL=.slice (some ⟨b,0,none⟩) ss.length c∧ss.length≤c∧W.heap.size≤b∧b < w.heap.size:=by
 rcases (zad h.l).shape with ⟨e,_⟩ | ⟨b,c,rfl,hc,_⟩
 ·exact absurd e hn
 ·obtain ⟨_,h1,_,h2,_⟩:=(zad h.l).at
  exact ⟨b,c,rfl,hc,h1,h2⟩
theorem SnI.some_ {W w:World} {vL:Value} {ss:List ByteArray} (h:SnI W w vL ss) (hn:0 < ss.length):vL≠.slice none 0 0:=by
 rcases (zad h.l).shape with ⟨_,e,_⟩ | ⟨b,c,rfl,_⟩
 ·omega
 ·intro e;cases e
theorem znk {w:World} {ao:Option Addr} {n c:Nat} {l:List ByteArray} {m:Nat} (h:RdT w (.slice ao n c) l) (hm:m≤l.length):Rd w 1 (.slice ao m c) m (zcy (l.take m)):=by
 obtain ⟨_,ao',cap,e,h2,h3⟩:=h;injection e with e1 e2 e3;subst e1 e2 e3
 have hl:(l.take m).length=m:=by rw[List.length_take];omega
 refine ⟨by rw[zgu,hl,Nat.mul_one],ao,c,rfl,⟨by omega,h2.2⟩,fun hp=>?_⟩;obtain ⟨b,o,rfl,hb,hcl⟩:=h3 (by omega);refine ⟨b,o,rfl,hb,fun j hj=>?_⟩;rw[hcl j (by omega),zll _ _ (by omega),zll _ _ (by omega),List.getElem_take]
theorem zsn {w:World} {b o n c:Nat} {l:List ByteArray} {m:Nat} (h:RdT w (.slice (some ⟨b,o,none⟩) n c) l) (hm:m≤l.length):Rd w 1 (.slice (some ⟨b,o+m,none⟩) (n - m) (c - m)) (n - m) (zcy (l.drop m)):=by
 obtain ⟨ao,cap,e,hc,hcell⟩:=h.shape;injection e with e1 e2 e3;subst e1 e2 e3;refine ⟨by rw[zgu,Nat.mul_one,List.length_drop],some ⟨b,o+m,none⟩,c - m,rfl,⟨by omega,fun e=>by cases e⟩,fun hp=>?_⟩;obtain ⟨b',o',e',hb,hcl⟩:=hcell (by omega)
 cases e'
 refine ⟨b,o+m,rfl,hb,fun j hj=>?_⟩;rw[zll _ j (by rw[List.length_drop];omega),List.getElem_drop];have:=hcl (m+j) (by omega);rw[← Nat.add_assoc] at this;exact this
theorem yaar {w:World} {a:Addr} {c:Nat} {l:List ByteArray} {m:Nat} (hm:m=l.length):Rd w 1 (.slice (some a) 0 c) 0 (zcy (l.drop m)) :=
 ⟨by rw[zgu,List.length_drop];omega,some a,c,rfl,⟨Nat.zero_le _,fun e=>by cases e⟩,fun h=>absurd h (by omega)⟩
def Ord (ss:List ByteArray):Prop:=ss.Pairwise fun a b=>a.toList≤b.toList
theorem yahm {ss:List ByteArray} {x:ByteArray} {k:Nat} (hk:k≤ss.length) (h:Ord ss) (h1:∀ i (h:i < ss.length),k≤i→x.toList < ss[i].toList) (h2:∀ i (h:i < ss.length),i+1=k→ss[i].toList≤x.toList):Ord (ss.take k ++ [x] ++ ss.drop k):=by
 have ht:∀ a∈ss.take k,a.toList≤x.toList:=by
  intro a ha;obtain ⟨i,hi,rfl⟩:=List.mem_take_iff_getElem.1 ha;have hi:=Nat.lt_min.1 hi
  by_cases e:i+1=k
  ·exact h2 i hi.2 e
  ·have h3:=h2 (k - 1) (by omega) (by omega);exact List.le_trans (List.pairwise_iff_getElem.1 h i (k - 1) hi.2 (by omega) (by omega)) h3
 have hd:∀ a∈ss.drop k,x.toList≤a.toList:=by
  intro a ha;obtain ⟨i,hi,rfl⟩:=List.getElem_of_mem ha;rw[List.length_drop] at hi;rw[List.getElem_drop];exact List.le_of_lt (h1 (k+i) (by omega) (by omega))
 unfold Ord at h ⊢;rw[List.append_assoc,List.pairwise_append];have h':=h;rw[← List.take_append_drop k ss,List.pairwise_append] at h';refine ⟨h'.1,List.pairwise_append.2 ⟨List.pairwise_singleton _ _,h'.2.1,fun a ha b hb=>?_⟩,fun a ha b hb=>?_⟩
 ·rw[List.mem_singleton.1 ha];exact hd b hb
 ·rcases List.mem_append.1 hb with hb | hb
  ·rw[List.mem_singleton.1 hb];exact ht a ha
  ·exact h'.2.2 a ha b hb
theorem yaby (ss:List ByteArray) (x:ByteArray) (k:Nat):(ss.take k ++ [x] ++ ss.drop k).Perm (ss ++ [x]):=by
 rw[List.append_assoc];refine List.Perm.trans (List.Perm.append_left _ List.perm_append_comm) ?_;rw[← List.append_assoc,List.take_append_drop]
def zbg (ps:List Den) (d:Int):List ByteArray:=(ps.filter fun x=>decide (¬ x.child < 0∧x.dir=d)).map Den.name
theorem yaee {ps:List Den} {d:Int} {k:Nat} (h:k < ps.length):zbg (ps.take (k+1)) d=if ¬ ps[k].child < 0∧ps[k].dir=d then zbg (ps.take k) d ++ [ps[k].name] else zbg (ps.take k) d:=by
 unfold zbg;rw[List.take_succ_eq_append_getElem h,List.filter_append,List.map_append]
 by_cases c:¬ ps[k].child < 0∧ps[k].dir=d
 ·rw[if_pos c];simp only[List.filter_cons,decide_eq_true c,if_true,List.filter_nil,List.map_cons,List.map_nil]
 ·rw[if_neg c];simp only[List.filter_cons,decide_eq_false c,List.filter_nil];simp
theorem yaet (ps:List Den) (d:Int):(zbg ps d).length≤ps.length:=by unfold zbg;rw[List.length_map];exact List.length_filter_le _ _
def zcp (ss:List ByteArray):List ByteArray:=((ss.map fun s=>s.data.toList).mergeSort fun x y=>decide (x≤y)).map fun l=>⟨l.toArray⟩
theorem zgg (ss:List ByteArray):(zcp ss).length=ss.length:=by unfold zcp;rw[List.length_map,List.length_mergeSort,List.length_map]
theorem yaeb {ss l:List ByteArray} (h:Ord ss) (hp:ss.Perm l):ss=zcp l:=by
 have tr:∀ a b c:List UInt8,decide (a≤b)=true→decide (b≤c)=true→decide (a≤c)=true:=fun a b c h1 h2=>by simp only[decide_eq_true_eq] at *;exact List.le_trans h1 h2
 have tot:∀ a b:List UInt8,(decide (a≤b) || decide (b≤a))=true:=fun a b=>by simp only[Bool.or_eq_true,decide_eq_true_eq];exact List.le_total a b
 have e:ss.map (fun s=>s.data.toList)=(l.map fun s=>s.data.toList).mergeSort fun x y=>decide (x≤y):=by
  refine List.Perm.eq_of_pairwise (le:=fun a b=>decide (a≤b)=true) (fun a b _ _ h1 h2=>?_) ?_ (List.pairwise_mergeSort tr tot _) ((hp.map _).trans (List.mergeSort_perm _ _).symm)
  ·simp only[decide_eq_true_eq] at h1 h2;exact List.le_antisymm h1 h2
  ·rw[List.pairwise_map];refine List.Pairwise.imp (fun {a b} h=>?_) h;rw[Lib.toList_data,Lib.toList_data] at h;exact decide_eq_true h
 unfold zcp;rw[← e,List.map_map];rw[show ((fun l:List UInt8=>(⟨l.toArray⟩:ByteArray)) ∘ fun s:ByteArray=>s.data.toList)=id from funext fun s=>by simp];simp
def mkB (l:List UInt8):ByteArray:=⟨l.toArray⟩
theorem zih (l:List UInt8):(mkB l).data.toList=l:=by simp[mkB]
theorem yaej (s:ByteArray):mkB s.data.toList=s:=by
 obtain ⟨⟨l⟩⟩:=s;rfl
theorem zki {a b:ByteArray} (h:a.data.toList=b.data.toList):a=b:=by rw[← yaej a,← yaej b,h]
theorem zoa (s:ByteArray) (a b:Nat):mkB ((s.data.toList.take b).drop a)=s.extract a b:=by
 apply zki;rw[zih,Lib.extract_data,List.drop_take]
def zjw (cur:List UInt8):List UInt8→List (List UInt8)
 | []=>[cur]
 | c :: l=>if c=47 then cur :: zjw [] l else zjw (cur ++ [c]) l
theorem zkc (cur:List UInt8):zjw cur []=[cur]:=rfl
theorem zdb (cur:List UInt8) (c:UInt8) (l:List UInt8):zjw cur (c :: l)=if c=47 then cur :: zjw [] l else zjw (cur ++ [c]) l:=rfl
theorem zwj:∀ (l cur:List UInt8),(∀ c∈l,¬ c=47)→zjw cur l=[cur ++ l]
 | [],cur,_=>by rw[zkc,List.append_nil]
 | c :: l,cur,h=>by
  rw[zdb,if_neg (h c (List.mem_cons_self ..)),zwj l _ (fun x hx=>h x (List.mem_cons_of_mem _ hx)),List.append_assoc];rfl
theorem zxf:∀ (l cur r:List UInt8),(∀ c∈l,¬ c=47)→zjw cur (l ++ 47 :: r)=(cur ++ l) :: zjw [] r
 | [],cur,r,_=>by rw[List.nil_append,zdb,if_pos rfl,List.append_nil]
 | c :: l,cur,r,h=>by
  rw[List.cons_append,zdb,if_neg (h c (List.mem_cons_self ..)),zxf l _ r (fun x hx=>h x (List.mem_cons_of_mem _ hx)),List.append_assoc];rfl
theorem zod:∀ (l cur:List UInt8),∃ x r,zjw cur l=(cur ++ x) :: r
 | [],cur=>⟨[],[],by rw[zkc,List.append_nil]⟩
 | c :: l,cur=>by
  rw[zdb]
  by_cases h:c=47
  ·rw[if_pos h];exact ⟨[],_,by rw[List.append_nil]⟩
  ·rw[if_neg h];obtain ⟨x,r,e⟩:=zod l (cur ++ [c]);exact ⟨c :: x,r,by rw[e,List.append_assoc];rfl⟩
theorem zty:∀ (l cur:List UInt8),(zjw cur l).length≤l.length+1
 | [],cur=>by rw[zkc];simp
 | c :: l,cur=>by
  rw[zdb]
  split
  ·have:=zty l [];simp only[List.length_cons];omega
  ·have:=zty l (cur ++ [c]);simp only[List.length_cons];omega
theorem yakw (l cur:List UInt8):1≤(zjw cur l).length:=by
 obtain ⟨x,r,e⟩:=zod l cur;rw[e];simp
theorem zsu:∀ (l cur x:List UInt8),x∈zjw cur l→x.length≤cur.length+l.length
 | [],cur,x,h=>by rw[zkc,List.mem_singleton] at h;rw[h];simp
 | c :: l,cur,x,h=>by
  rw[zdb] at h
  split at h
  ·rcases List.mem_cons.1 h with rfl | h
   ·simp
   ·have:=zsu l [] x h;simp only[List.length_nil,List.length_cons] at *;omega
  ·have:=zsu l (cur ++ [c]) x h;simp only[List.length_append,List.length_cons,List.length_nil] at *;omega
theorem zrq:∀ (k:Nat) (l:List UInt8),Lib.count l [47]=k→Lib.splitK [47] 0 k l=zjw [] l
 | 0,l,h=>by
  show [l]=_
  rw[Lib.count_one] at h;rw[zwj l [] (fun c hc e=>by subst e;have:=List.count_pos_iff.2 hc;omega),List.nil_append]
 | k+1,l,h=>by
  have hm:(47:UInt8)∈l:=by
   rw[Lib.count_one] at h;exact List.count_pos_iff.1 (by omega)
  have hge:=Lib.indexByte_ge l 47;have hi:Lib.index l [47]=Lib.indexByte l 47:=Lib.index_one l 47
  have hne:¬ Lib.indexByte l 47=-1:=fun e=>by
   obtain ⟨j,hj,e2⟩:=List.getElem_of_mem hm;exact Lib.indexByte_none e j (by rw[List.getElem?_eq_getElem hj,e2])
  obtain ⟨o,ho⟩:∃ o:Nat,Lib.indexByte l 47=(o:Int):=⟨(Lib.indexByte l 47).toNat,by omega⟩
  obtain ⟨h1,h2⟩:=Lib.indexByte_some ho;have hol:o < l.length:=(List.getElem?_eq_some_iff.1 h1).1
  have e0:l=l.take o ++ 47 :: l.drop (o+1):=by
   have hd:l.drop o=47 :: l.drop (o+1):=by
    rw[List.drop_eq_getElem_cons hol,(List.getElem?_eq_some_iff.1 h1).2]
   rw[← hd,List.take_append_drop]
  have hno:∀ c∈l.take o,¬ c=47:=fun c hc e=>by
   subst e;obtain ⟨j,hj,e2⟩:=List.mem_take_iff_getElem.1 hc;have hj:=Nat.lt_min.1 hj;exact h2 j hj.1 (by rw[List.getElem?_eq_getElem hj.2,e2])
  unfold Lib.splitK;rw[hi,ho,if_neg (by simp),Int.toNat_natCast,Nat.add_zero]
  show l.take o :: Lib.splitK [47] 0 k (l.drop (o+1))=zjw [] l
  have hc:Lib.count (l.drop (o+1)) [47]=k:=by
   rw[Lib.count_one] at h ⊢;have hz:(l.take o).count 47=0:=List.count_eq_zero.2 (fun hx=>hno 47 hx rfl);rw[e0,List.count_append,hz,List.count_cons_self] at h;omega
  rw[zrq k _ hc]
  conv=>rhs;rw[e0]
  rw[zxf _ _ _ hno,List.nil_append]
def pcs (s:ByteArray):List ByteArray:=(zjw [] s.data.toList).map mkB
theorem zvb (s:ByteArray):Lib.splitB ⟨#[47]⟩ 0 (Lib.countB s ⟨#[47]⟩) s=pcs s:=by
 have h:=Lib.splitB_data ⟨#[47]⟩ 0 (Lib.countB s ⟨#[47]⟩) s;have h2:=zrq (Lib.countB s ⟨#[47]⟩) s.data.toList rfl;unfold pcs;rw[← h2];have h3:Lib.splitK [47] 0 (Lib.countB s ⟨#[47]⟩) s.data.toList=(Lib.splitB ⟨#[47]⟩ 0 (Lib.countB s ⟨#[47]⟩) s).map (·.data.toList):=h.symm;rw[h3,List.map_map]
 have:(mkB ∘ fun x:ByteArray=>x.data.toList)=id:=funext fun x=>yaej x
 rw[this,List.map_id]
theorem yajl (s:ByteArray):(pcs s).length≤s.size+1:=by
 unfold pcs;rw[List.length_map,Lib.size_eq];exact zty _ _
theorem yaif (s:ByteArray):1≤(pcs s).length:=by unfold pcs;rw[List.length_map];exact yakw _ _
theorem yabr (s:ByteArray):∀ k (h:k < (pcs s).length),(pcs s)[k].size≤s.size:=by
 intro k hk;have hm:(pcs s)[k]∈(zjw [] s.data.toList).map mkB:=List.getElem_mem hk;obtain ⟨x,hx,e⟩:=List.mem_map.1 hm;have:=zsu _ _ _ hx;rw[← e,Lib.size_eq,zih,Lib.size_eq];simpa using this
theorem yahh (s:ByteArray):Lib.countB s ⟨#[47]⟩+1=(pcs s).length:=by
 rw[← zvb,Lib.splitB_all ⟨#[47]⟩ (by decide) 0 _ s rfl]
theorem yaip {s:ByteArray} {l:List UInt8} (h:s.data.toList=47 :: l):pcs s=mkB [] :: pcs (mkB l):=by
 unfold pcs;rw[h,zdb,if_pos rfl,zih];rfl
theorem yaft {s:ByteArray} {c:UInt8} {l:List UInt8} (h:s.data.toList=c :: l) (hc:¬ c=47):∃ x r,pcs s=x :: r∧¬ x.size=0:=by
 unfold pcs;rw[h,zdb,if_neg hc,List.nil_append];obtain ⟨x,r,e⟩:=zod l [c];refine ⟨mkB ([c] ++ x),r.map mkB,by rw[e];rfl,?_⟩;rw[Lib.size_eq,zih];simp
theorem yamd {s:ByteArray} (h:s.data.toList=[]):pcs s=[mkB []]:=by
 unfold pcs;rw[h];rfl
theorem yaht (s:ByteArray) (k:Nat) (h:k < s.size):s.data.toList[k]'(by rw[← Lib.size_eq];exact h)=s[k]:=by
 rw[Array.getElem_toList];rfl
theorem yafr (c:UInt8):((c.toNat:Int) == 47)=decide (c=47):=by
 by_cases h:c=47
 ·subst h;rfl
 ·rw[decide_eq_false h,beq_eq_false_iff_ne];intro e;apply h;apply UInt8.toNat_inj.1
  show c.toNat=47
  omega
theorem yaeu (l:List UInt8):zjw [] l=[] ++ zjw ((l.take 0).drop 0) (l.drop 0):=by simp
theorem yapl {l:List UInt8} {ds:List (List UInt8)} {k f:Nat} (hk:k < l.length) (h:zjw [] l=ds ++ zjw ((l.take k).drop f) (l.drop k)) (hc:l[k]=47) :
  zjw [] l=(ds ++ [(l.take k).drop f]) ++ zjw ((l.take (k+1)).drop (k+1)) (l.drop (k+1)):=by
 rw[List.drop_eq_getElem_cons hk,zdb,if_pos hc] at h;rw[h,List.append_assoc,List.drop_of_length_le (l:=l.take (k+1)) (by rw[List.length_take];omega)];rfl
theorem yaqx {l:List UInt8} {ds:List (List UInt8)} {k f:Nat} (hk:k < l.length) (hf:f≤k) (h:zjw [] l=ds ++ zjw ((l.take k).drop f) (l.drop k)) (hc:¬ l[k]=47) :
  zjw [] l=ds ++ zjw ((l.take (k+1)).drop f) (l.drop (k+1)):=by
 rw[List.drop_eq_getElem_cons hk,zdb,if_neg hc] at h;rw[h,List.take_succ_eq_append_getElem hk,List.drop_append_of_le_length (by rw[List.length_take];omega)]
theorem yaon {s:ByteArray} {ds:List (List UInt8)} {f:Nat} (h:zjw [] s.data.toList=ds ++ zjw ((s.data.toList.take s.size).drop f) (s.data.toList.drop s.size)):pcs s=ds.map mkB ++ [s.extract f s.size]:=by
 unfold pcs;rw[h,List.drop_of_length_le (l:=s.data.toList) (by rw[← Lib.size_eq];exact Nat.le_refl _),zkc,List.map_append]
 show ds.map mkB ++ [mkB _]=_
 rw[zoa]
theorem yacu (s:ByteArray) (w:World) (hs:s.size≤65536) :
  Calls Tryz.prog 222 #[.string s,.int .u8 47] w fun e w'=>∃ v',e=.returned v'∧Row w' 9 1 w.heap.size w'.heap.size v' (pcs s).length (zcy (pcs s))∧Below w.heap.size w w':=by
 have START:Hid (SnI w (w.alloc (.cells #[] 9)) (.slice (some ⟨w.heap.size,0,none⟩) 0 0) []):=⟨World.ownsRow_lit w #[] 0 (Nat.le_refl _) (by simp[maxLen]) (by simp),(Below.refl _ _).alloc (Nat.le_refl _) _⟩
 have HL:=zaa (Lib.size_eq s);go_enter Tryz.func222,Tryz.ntmps222;go_wp2
 go_loopg [5,6,7] s.size (fun g vL fr i wr=>∃ (k f:Nat) (ds:List (List UInt8)),k+g=s.size∧f≤k∧fr=.int .i64 f∧i=.int .i64 k∧vL≠.slice none 0 0∧ds.length≤k∧Hid (SnI w wr vL (ds.map mkB)∧zjw [] s.data.toList=ds ++ zjw ((s.data.toList.take k).drop f) (s.data.toList.drop k)))
 case atStart=>exact ⟨0,0,[],by omega,by omega,rfl,rfl,(fun e=>by cases e),Nat.le_refl _,START.o,yaeu _⟩
 case round =>
  obtain ⟨k,f,ds,hkg,hf,rfl,rfl,hv,hd,I⟩:=hrel;clear START
  have k0:(0:Int)≤(k:Int):=by omega
  have f0:(0:Int)≤(f:Int):=by omega
  have fk:(f:Int)≤(k:Int):=by omega
  have DL:(ds.map mkB).length=ds.length:=List.length_map ..
  by_cases hlt:k < s.size
  ·have k1:(k:Int) < (s.size:Int):=by omega
   have k2:(k:Int)≤(s.size:Int):=by omega
   have hkl:k < s.data.toList.length:=by rw[← HL.o];exact hlt
   by_cases c:s[k]=47
   ·have q:((s[k].toNat:Int) == 47)=true:=by rw[yafr,decide_eq_true c]
    have N:=zaa (yapl hkl I.o.2 (by rw[yaht s k hlt];exact c))
    have MN:Hid ((ds ++ [(s.data.toList.take k).drop f]).map mkB=ds.map mkB ++ [s.extract f k]):=by unfold Hid;rw[List.map_append,← zoa];rfl
    have JB:Hid (SnI w (wr.alloc (.cells #[.string (s.extract f k)] 9)) u5 (ds.map mkB)):=I.o.1.below ((Below.refl _ _).alloc (Nat.le_refl _) _);have RB:=zaa (zhg wr (s.extract f k));have hzb:=JB.o.z;simp only[World.size_alloc] at hzb;clear I c;go_wp2_with (at_builtin;refine zag _ rfl (.tmp 20) (.tmp 25) 36 rfl w.heap.size 9 (.string ⟨#[]⟩) 1 16 Tryz.underlying36 zew rfl (by decide) _ _ _ rfl JB.o.l _ 1 _ rfl RB.o (zbh _) (by simp[maxLen];omega) (by simp;omega) JB.o.z ?_);intro vN wN hownN hgrN;have G:=zaa (JB.o.grow [s.extract f k] rfl (by rw[List.length_map];exact hownN) hgrN);rw[← MN.o] at G;have hv2:=zaa (G.o.some_ (by simp));clear hownN hgrN JB RB q MN hv;go_wp2
    go_roundg (s.size - (k+1))
    case measure=>omega
    case rel=>exact ⟨k+1,k+1,ds ++ [(s.data.toList.take k).drop f],by omega,Nat.le_refl _,by go_num,by go_num,hv2.o,by simp;omega,G.o,N.o⟩
   ·have q:((s[k].toNat:Int) == 47)=false:=by rw[yafr,decide_eq_false c]
    have N:=zaa (yaqx hkl hf I.o.2 (by rw[yaht s k hlt];exact c));have I1:=zaa I.o.1;have HV:=zaa hv;clear I c DL hv;go_wp2
    go_roundg (s.size - (k+1))
    case measure=>omega
    case rel=>exact ⟨k+1,f,ds,by omega,by omega,rfl,by go_num,HV.o,by omega,I1.o,N.o⟩
  ·obtain rfl:k=s.size:=by omega
   have MN:=zaa (yaon I.o.2);have JB:Hid (SnI w (wr.alloc (.cells #[.string (s.extract f s.size)] 9)) u5 (ds.map mkB)):=I.o.1.below ((Below.refl _ _).alloc (Nat.le_refl _) _);have RB:=zaa (zhg wr (s.extract f s.size));have hzb:=JB.o.z;simp only[World.size_alloc] at hzb;clear I;go_wp2_with (at_builtin;refine zag _ rfl (.tmp 29) (.tmp 33) 36 rfl w.heap.size 9 (.string ⟨#[]⟩) 1 16 Tryz.underlying36 zew rfl (by decide) _ _ _ rfl JB.o.l _ 1 _ rfl RB.o (zbh _) (by simp[maxLen];omega) (by simp;omega) JB.o.z ?_);intro vN wN hownN hgrN;have G:=zaa (JB.o.grow [s.extract f s.size] rfl (by rw[List.length_map];exact hownN) hgrN);rw[← MN.o] at G;clear hownN hgrN JB RB MN hv;go_wp2;go_ret;exact ⟨_,rfl,zad G.o.l,G.o.b⟩
end Go.Proofs.YtehnphoeplmpdaaGreatDoor
