/- Several texts laid together: SecT, ImD, ImH, ImE, ImF. -/
import Derived.Test.YtbohndgbfbfldaaGreatDoorZAE
import Derived.Deep.RegionWith
import Derived.Test.YtbohndgbfbfldaaGreatDoorZAD
import Derived.Deep.RegionHeld3
import Derived.Laws.OwnMore
import Derived.Test.YtbohndgbfbfldaaGreatDoorZAB
set_option maxHeartbeats 2000000
namespace Go.Proofs.YtbohndgbfbfldaaGreatDoor
open Go.RowKit
theorem zis (va vb:Value) (ps:List Se) (w:World) (ha:RdE w va ps) (hb:RdE w vb ps) (hn:ps.length≤2147483648) :
  Calls Tryz.prog 161 #[va,vb] w fun e w'=>e=.returned (.bool true)∧Below w.heap.size w w':=by
 obtain ⟨ao,cap,rfl,hcap,hc⟩:=ha.shape;obtain ⟨ao2,cap2,rfl,hcap2,hc2⟩:=hb.shape;clear ha hb;go_enter Tryz.func161,Tryz.ntmps161;go_wp2
 go_loopw [5] (fun i wr=>∃ k:Nat,k≤ps.length∧i=.int .i64 k∧Below w.heap.size w wr) (fun i _=>ps.length - (intOf i).toNat)
 case atStart=>exact ⟨0,by omega,rfl,Below.refl _ _⟩
 case round =>
  obtain ⟨k,hk,rfl,hbw⟩:=hrel
  by_cases hlt:k < ps.length
  ·obtain ⟨b,o,rfl,hbl,hcell⟩:=hc (by omega);obtain ⟨b2,o2,rfl,hbl2,hcell2⟩:=hc2 (by omega);obtain ⟨c0,c1⟩:=hcell k hlt;obtain ⟨c3,c4⟩:=hcell2 k hlt;have d0:=(hbw.cell (p:=⟨b,o+k*2,none⟩) hbl).trans c0;have d1:=(hbw.cell (p:=⟨b,o+k*2+1,none⟩) hbl).trans c1;have d3:=(hbw.cell (p:=⟨b2,o2+k*2,none⟩) hbl2).trans c3;have d4:=(hbw.cell (p:=⟨b2,o2+k*2+1,none⟩) hbl2).trans c4
   have hlt':(k:Int) < (ps.length:Int):=by omega
   have hge:(0:Int)≤(k:Int):=by omega
   have hz:=hbw.size;clear hcell hcell2 hc hc2 c0 c1 c3 c4;go_wp2_with fail
   go_region_with (go_at_call 199;refine (zka _ _ _).mono ?_;rintro e w1 ⟨rfl,hb1⟩)
   all_goals
    go_wp2
    go_roundw
    case rel=>exact ⟨k+1,by omega,by go_num,hbw.trans (Below.mono (Below.trans ((Below.refl _ _).drew) ‹_›) hz)⟩
    case measure=>simp[intOf];omega
  ·go_wp2;go_ret;exact ⟨rfl,hbw⟩
def yact (k:Int) (i:Nat):Se:=⟨k+2*(i:Int),k+2*(i:Int)+1⟩
def zgo (k:Int) (n:Nat):List Se:=(List.range n).map (yact k)
theorem zdw (k:Int) (n:Nat):(zgo k n).length=n:=by simp[zgo]
theorem zuy (k:Int) (n i:Nat) (h:i < (zgo k n).length):(zgo k n)[i]=yact k i:=by simp[zgo]
theorem zhw (v:Value) (n:Nat) (k0:Int) (w:World) (h:RdE w v (zgo k0 n)) (hn:n≤2147483648) (h0:0≤k0) (h1:k0≤1099511627776) :
  Calls Tryz.prog 165 #[v,.int .i64 k0] w fun e w'=>e=.returned (.int .i64 (k0+2*n))∧w'=w:=by
 obtain ⟨ao,cap,rfl,hcap,hc⟩:=h.shape;simp only[zdw] at hcap hc ⊢;clear h;go_enter Tryz.func165,Tryz.ntmps165;go_wp2
 go_loop [1,5] (fun c i=>∃ k:Nat,k≤n∧i=.int .i64 k∧c=.int .i64 (k0+2*k)) (fun _ i=>n - (intOf i).toNat)
 case atStart=>exact ⟨0,by omega,rfl,by simp⟩
 case round =>
  obtain ⟨k,hk,rfl,rfl⟩:=hrel
  by_cases hlt:k < n
  ·obtain ⟨b,o,rfl,hbl,hcell⟩:=hc (by omega);obtain ⟨c0,c1⟩:=hcell k hlt;rw[zuy] at c0 c1;simp only[yact] at c0 c1;clear hcell hc;go_wp2
   go_round
   case rel=>exact ⟨k+1,by omega,by go_num,by go_num⟩
   case measure=>simp[intOf];omega
  ·have e:k=n:=by omega
   subst e;go_wp2;go_ret;exact ⟨rfl,rfl⟩
theorem Ino.all {x:Ino} {w':World} {b:Nat} (h:∀ j,w'.cell? ⟨b,j,none⟩=x.cs[j]?):w'.cell? ⟨b,0,none⟩=some (.int .i64 x.kind)∧w'.cell? ⟨b,1,none⟩=some (.int .i64 x.size)∧w'.cell? ⟨b,2,none⟩=some (.int .i64 x.links)∧w'.cell? ⟨b,3,none⟩=some (.int .i64 x.m0)∧w'.cell? ⟨b,4,none⟩=some (.int .i64 x.m1)∧w'.cell? ⟨b,5,none⟩=some (.int .i64 x.m2)∧w'.cell? ⟨b,6,none⟩=some (.int .i64 x.m3)∧w'.cell? ⟨b,7,none⟩=some (.int .i64 x.m4)∧w'.cell? ⟨b,8,none⟩=some (.int .i64 x.m5)∧w'.cell? ⟨b,9,none⟩=some (.int .i64 x.m6)∧w'.cell? ⟨b,10,none⟩=some (.int .i64 x.m7):=⟨h 0,h 1,h 2,h 3,h 4,h 5,h 6,h 7,h 8,h 9,h 10⟩
def zgq (ps:List Ino):List Value:=ps.flatMap Ino.cs
theorem Ino.cs_len (x:Ino):x.cs.length=11:=rfl
theorem zcq (ps:List Ino) (k i:Nat) (h:k < ps.length) (hi:i < 11):(zgq ps)[k*11+i]?=ps[k].cs[i]?:=(zan _ 11 Ino.cs_len ps k i h hi).trans (by rw[List.getElem?_eq_getElem (show i < ps[k].cs.length by rw[Ino.cs_len];exact hi)])
def RdN (w:World) (v:Value) (ps:List Ino):Prop:=Rd w 11 v ps.length (zgq ps)
theorem RdN.shape {w:World} {v:Value} {ps:List Ino} (h:RdN w v ps):∃ ao cap,v=.slice ao ps.length cap∧ps.length≤cap∧(0 < ps.length→∃ b o,ao=some ⟨b,o,none⟩∧b < w.heap.size ∧
  ∀ k (h:k < ps.length),w.cell? ⟨b,o+k*11,none⟩=some (.int .i64 ps[k].kind)∧w.cell? ⟨b,o+k*11+1,none⟩=some (.int .i64 ps[k].size)∧w.cell? ⟨b,o+k*11+2,none⟩=some (.int .i64 ps[k].links)∧w.cell? ⟨b,o+k*11+3,none⟩=some (.int .i64 ps[k].m0)∧w.cell? ⟨b,o+k*11+4,none⟩=some (.int .i64 ps[k].m1)∧w.cell? ⟨b,o+k*11+5,none⟩=some (.int .i64 ps[k].m2)∧w.cell? ⟨b,o+k*11+6,none⟩=some (.int .i64 ps[k].m3)∧w.cell? ⟨b,o+k*11+7,none⟩=some (.int .i64 ps[k].m4)∧w.cell? ⟨b,o+k*11+8,none⟩=some (.int .i64 ps[k].m5)∧w.cell? ⟨b,o+k*11+9,none⟩=some (.int .i64 ps[k].m6)∧w.cell? ⟨b,o+k*11+10,none⟩=some (.int .i64 ps[k].m7)):=by
 obtain ⟨_,ao,cap,rfl,h2,h3⟩:=h;refine ⟨ao,cap,rfl,h2.1,fun hn=>?_⟩;obtain ⟨b,o,rfl,hb,hc⟩:=h3 hn;exact ⟨b,o,rfl,hb,fun k hk=>⟨(hc (k*11) (by omega)).trans (zcq ps k 0 hk (by omega)),(hc (k*11+1) (by omega)).trans (zcq ps k 1 hk (by omega)),(hc (k*11+2) (by omega)).trans (zcq ps k 2 hk (by omega)),(hc (k*11+3) (by omega)).trans (zcq ps k 3 hk (by omega)),(hc (k*11+4) (by omega)).trans (zcq ps k 4 hk (by omega)),(hc (k*11+5) (by omega)).trans (zcq ps k 5 hk (by omega)),(hc (k*11+6) (by omega)).trans (zcq ps k 6 hk (by omega)),(hc (k*11+7) (by omega)).trans (zcq ps k 7 hk (by omega)),(hc (k*11+8) (by omega)).trans (zcq ps k 8 hk (by omega)),(hc (k*11+9) (by omega)).trans (zcq ps k 9 hk (by omega)),(hc (k*11+10) (by omega)).trans (zcq ps k 10 hk (by omega))⟩⟩
theorem zku:(Tryz.prog.info? 149).map (fun i=>(i.zero,i.size,i.bytes))=some (some (.agg #[.int .i64 0,.int .i64 0,.int .i64 0,.int .i64 0,.int .i64 0,.int .i64 0,.int .i64 0,.int .i64 0,.int .i64 0,.int .i64 0,.int .i64 0]),11,88):=by kernel_rfl
structure Den where
 dir:Int
 name:ByteArray
 child:Int
def Den.v (x:Den):Value:=.agg #[.int .i64 x.dir,.string x.name,.int .i64 x.child]
theorem zmp (x:Den) (left:Int) (w:World) (hs:x.name.size≤maxLen) (h0:0≤left) (h1:left≤1048576):Calls Tryz.prog 120 #[x.v,.int .i64 left] w fun e w'=>e=.returned (.int .i64 (if left < x.name.size then -1 else left - x.name.size))∧Below w.heap.size w w':=by
 unfold Den.v;unfold maxLen at hs
 by_cases c:left < x.name.size
 ·rw[if_pos c]
  have c':left - (x.name.size:Int) < 0:=by omega
  go_enter Tryz.func120,Tryz.ntmps120;go_wp2;go_ret;refine ⟨rfl,?_⟩
  repeat (refine Below.alloc ?_ (by simp <;> omega) _)
  exact Below.refl _ _
 ·rw[if_neg c]
  have c':¬ left - (x.name.size:Int) < 0:=by omega
  go_enter Tryz.func120,Tryz.ntmps120;go_wp2;go_ret;refine ⟨rfl,?_⟩
  repeat (refine Below.alloc ?_ (by simp <;> omega) _)
  exact Below.refl _ _
def Den.freeB (x:Den):Bool:=x.dir == 0 && (x.name.size == 0 && x.child == -1)
def Den.okB (x:Den):Bool:=x.freeB || (decide (1≤x.child∧x.child≤15) && (decide (0≤x.dir∧x.dir≤15) && nmB x.name))
theorem zhu (s:ByteArray):s.toList=[]↔s.size=0:=by
 rw[ByteArray.toList_eq];obtain ⟨⟨x⟩⟩:=s
 show x=[]↔x.length=0
 exact List.length_eq_zero_iff.symm
def Den.cells (s:Den):List Value:=[.int .i64 s.dir,.string s.name,.int .i64 s.child]
def zcv (ps:List Den):List Value:=ps.flatMap Den.cells
theorem Den.cells_len (s:Den):s.cells.length=3:=rfl
theorem zhg (ps:List Den):(zcv ps).length=ps.length*3:=zby _ 3 Den.cells_len ps
theorem zqj (ps:List Den) (k:Nat) (h:k < ps.length):(zcv ps)[k*3]?=some (.int .i64 ps[k].dir):=zan _ 3 Den.cells_len ps k 0 h (by omega)
theorem zqr (ps:List Den) (k:Nat) (h:k < ps.length):(zcv ps)[k*3+1]?=some (.string ps[k].name):=zan _ 3 Den.cells_len ps k 1 h (by omega)
theorem zqm (ps:List Den) (k:Nat) (h:k < ps.length):(zcv ps)[k*3+2]?=some (.int .i64 ps[k].child):=zan _ 3 Den.cells_len ps k 2 h (by omega)
def RdD (w:World) (v:Value) (ps:List Den):Prop:=Rd w 3 v ps.length (zcv ps)
theorem RdD.shape {w:World} {v:Value} {ps:List Den} (h:RdD w v ps):∃ ao cap,v=.slice ao ps.length cap∧ps.length≤cap∧(0 < ps.length→∃ b o,ao=some ⟨b,o,none⟩∧b < w.heap.size ∧
  ∀ k (h:k < ps.length),w.cell? ⟨b,o+k*3,none⟩=some (.int .i64 ps[k].dir)∧w.cell? ⟨b,o+k*3+1,none⟩=some (.string ps[k].name)∧w.cell? ⟨b,o+k*3+2,none⟩=some (.int .i64 ps[k].child)):=by
 obtain ⟨_,ao,cap,rfl,h2,h3⟩:=h;refine ⟨ao,cap,rfl,h2.1,fun hn=>?_⟩;obtain ⟨b,o,rfl,hb,hc⟩:=h3 hn;exact ⟨b,o,rfl,hb,fun k hk=>⟨(hc (k*3) (by omega)).trans (zqj ps k hk),(hc (k*3+1) (by omega)).trans (zqr ps k hk),(hc (k*3+2) (by omega)).trans (zqm ps k hk)⟩⟩
theorem zgd:(Tryz.prog.info? 143).map (fun i=>(i.zero,i.size,i.bytes))=some (some (.agg #[.int .i64 0,.string ⟨#[]⟩,.int .i64 0]),3,32):=by kernel_rfl
theorem ztu (a:Int) (v:ByteArray) (f:Int) (w:World):Calls Tryz.prog 134 #[.agg #[.int .i64 a,.string v,.int .i64 f]] w fun e w'=>e=.returned (.agg #[.int .i64 a,.string v,.int .i64 f])∧Below w.heap.size w w':=by
 go_enter Tryz.func134,Tryz.ntmps134;go_wp2;refine bodyPost_ret (v:=.agg #[.int .i64 a,.string v,.int .i64 f]) (by simp[results,Tryz.results134,go_sem]) rfl ⟨rfl,?_⟩
 repeat (refine Below.alloc ?_ (by simp <;> omega) _)
 exact Below.refl _ _
theorem zrk {ys:List Value} {ps:List Den} {k:Nat} (hk:k < ps.length) (hl:ys.length=ps.length*3) (h:∀ j,j < k*3→ys[j]?=(zcv ps)[j]?) :
  ∀ j,j < (k+1)*3→(put3 ys k (.int .i64 ps[k].dir) (.string ps[k].name) (.int .i64 ps[k].child))[j]?=(zcv ps)[j]?:=by
 intro j hj;rw[zhm (by omega)]
 split
 ·rename_i e;rw[e,zqm ps k hk]
 ·split
  ·rename_i e;rw[e,zqr ps k hk]
  ·split
   ·rename_i e;rw[e,zqj ps k hk]
   ·exact h j (by omega)
theorem zwk {ys:List Value} {ps:List Den} (hl:ys.length=ps.length*3) (h:∀ j,j < ps.length*3→ys[j]?=(zcv ps)[j]?):ys=zcv ps:=by
 apply List.ext_getElem?;intro j
 by_cases hj:j < ps.length*3
 ·exact h j hj
 ·rw[List.getElem?_eq_none (by omega),List.getElem?_eq_none (by rw[zhg];omega)]
theorem zkn (v:Value) (ps:List Den) (w:World) (h:RdD w v ps) (hn:ps.length≤1048576) :
  Calls Tryz.prog 86 #[v] w fun e w'=>∃ v',e=.returned v'∧Row w' 143 3 w.heap.size w'.heap.size v' ps.length (zcv ps)∧Below w.heap.size w w':=by
 obtain ⟨ao,cap,rfl,hcap,hc⟩:=h.shape;clear h;have hmk:=zbm (P:=Tryz.prog) 38 143 (.agg #[.int .i64 0,.string ⟨#[]⟩,.int .i64 0]) 3 32 Tryz.underlying38 zgd .i64 .i64 ps.length (by omega) (by omega);go_enter Tryz.func86,Tryz.ntmps86;go_wp2
 go_loopw [4] (fun i wr=>∃ k:Nat,k≤ps.length∧i=.int .i64 k∧(∃ ys,Row wr 143 3 w.heap.size (w.heap.size+1) (.slice (some ⟨w.heap.size,0,none⟩) ps.length ps.length) ps.length ys∧∀ j,j < k*3→ys[j]?=(zcv ps)[j]?)∧Below w.heap.size w wr∧w.heap.size+1≤wr.heap.size) (fun i _=>ps.length - (intOf i).toNat)
 case atStart =>
  refine ⟨0,by omega,rfl,⟨_,zdy w (.agg #[.int .i64 0,.string ⟨#[]⟩,.int .i64 0]) 3 ps.length 143 (by simp[maxLen];omega),fun j hj=>absurd hj (by omega)⟩,(Below.refl _ _).alloc (Nat.le_refl _) _,by simp⟩
 case round =>
  obtain ⟨k,hk,rfl,⟨ys,hrow,hys⟩,hb,hz⟩:=hrel
  by_cases hlt:k < ps.length
  ·obtain ⟨b,o,rfl,hbl,hcell⟩:=hc (by omega);obtain ⟨c0,c1,c2⟩:=hcell k hlt;have d0:=(hb.cell (p:=⟨b,o+k*3,none⟩) hbl).trans c0;have d1:=(hb.cell (p:=⟨b,o+k*3+1,none⟩) hbl).trans c1;have d2:=(hb.cell (p:=⟨b,o+k*3+2,none⟩) hbl).trans c2;have RH:=zaa hrow;have YH:=zaa hys;clear hcell hc c0 c1 c2 hrow hys;go_wp2_with fail;refine (ztu _ _ _ _).mono ?_;rintro e w1 ⟨rfl,hb1⟩;have R1:=zaa (RH.o.below hb1 (by omega))
   obtain ⟨_,_,_,hsz,hfr,hcl⟩:=R1.o.at
   have hl:=RH.o.len;have f0:=hfr (k*3);have f1:=hfr (k*3+1);have f2:=hfr (k*3+2)
   have e0:w1.cell? ⟨w.heap.size,k*3,none⟩=some (ys[k*3]'(by omega)):=by rw[hcl _ (by omega)];simp
   have e1:w1.cell? ⟨w.heap.size,k*3+1,none⟩=some (ys[k*3+1]'(by omega)):=by rw[hcl _ (by omega)];simp
   have e2:w1.cell? ⟨w.heap.size,k*3+2,none⟩=some (ys[k*3+2]'(by omega)):=by rw[hcl _ (by omega)];simp
   have BH:=zaa (hb.trans (hb1.mono (show w.heap.size≤wr.heap.size by omega)));have hz1:=hb1.size;clear hfr hcl hb1 hb d0 d1 d2;have P1:=zaa (R1.o.put3 k (.int .i64 ps[k].dir) (.string ps[k].name) (.int .i64 ps[k].child));have B1:=zaa (((BH.o.setCell (p:=⟨w.heap.size,k*3,none⟩) (Nat.le_refl _) (.int .i64 ps[k].dir)).setCell (p:=⟨w.heap.size,k*3+1,none⟩) (Nat.le_refl _) (.string ps[k].name)).setCell (p:=⟨w.heap.size,k*3+2,none⟩) (Nat.le_refl _) (.int .i64 ps[k].child));go_wp2
   go_roundw
   case rel=>exact ⟨k+1,by omega,by go_num,⟨_,P1.o,zrk hlt hl YH.o⟩,B1.o,by simp;omega⟩
   case measure=>simp[intOf];omega
  ·have e:k=ps.length:=by omega
   subst e;have hl:=hrow.len;have RH:=zaa hrow;have YH:=zaa hys;clear hrow hys hc;go_wp2;go_ret;have e:=zwk hl YH.o;refine ⟨_,rfl,?_,hb⟩;rw[← e];exact RH.o.wide (Nat.le_refl _) hz
theorem zsq (a:Int) (v:ByteArray) (f:Int) (w:World):Calls Tryz.prog 110 #[.agg #[.int .i64 a,.string v,.int .i64 f],.agg #[.int .i64 a,.string v,.int .i64 f]] w fun e w'=>e=.returned (.bool true)∧Below w.heap.size w w':=by
 go_enter Tryz.func110,Tryz.ntmps110;go_wp2;go_ret;refine ⟨rfl,?_⟩
 repeat (refine Below.alloc ?_ (by simp <;> omega) _)
 exact Below.refl _ _
end Go.Proofs.YtbohndgbfbfldaaGreatDoor
