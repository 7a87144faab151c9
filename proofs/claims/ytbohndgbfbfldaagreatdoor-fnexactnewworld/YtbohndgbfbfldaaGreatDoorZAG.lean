/- Several texts laid together: ImH, ImE, ImF, ImG, ImJ, Word. -/
import Derived.Test.YtbohndgbfbfldaaGreatDoorZAF
import Derived.Deep.RegionWith
import Derived.Test.YtbohndgbfbfldaaGreatDoorZAC
import Derived.Test.YtbohndgbfbfldaaGreatDoorIntS
set_option maxHeartbeats 4000000
namespace Go.Proofs.YtbohndgbfbfldaaGreatDoor
open Go.RowKit
def zqu (ps:List Ino):List Value:=ps.flatMap Ino.cs
theorem Ino.cs_len (x:Ino):x.cs.length=11:=rfl
theorem zct (ps:List Ino) (k i:Nat) (h:k < ps.length) (hi:i < 11):(zqu ps)[k*11+i]?=ps[k].cs[i]?:=(zam _ 11 Ino.cs_len ps k i h hi).trans (by rw[List.getElem?_eq_getElem (show i < ps[k].cs.length by rw[Ino.cs_len];exact hi)])
def RdN (w:World) (v:Value) (ps:List Ino):Prop:=Rd w 11 v ps.length (zqu ps)
theorem RdN.shape {w:World} {v:Value} {ps:List Ino} (h:RdN w v ps):∃ ao cap,v=.slice ao ps.length cap∧ps.length≤cap∧(0 < ps.length→∃ b o,ao=some ⟨b,o,none⟩∧b < w.heap.size ∧
  ∀ k (h:k < ps.length),w.cell? ⟨b,o+k*11,none⟩=some (.int .i64 ps[k].kind)∧w.cell? ⟨b,o+k*11+1,none⟩=some (.int .i64 ps[k].size)∧w.cell? ⟨b,o+k*11+2,none⟩=some (.int .i64 ps[k].links)∧w.cell? ⟨b,o+k*11+3,none⟩=some (.int .i64 ps[k].m0)∧w.cell? ⟨b,o+k*11+4,none⟩=some (.int .i64 ps[k].m1)∧w.cell? ⟨b,o+k*11+5,none⟩=some (.int .i64 ps[k].m2)∧w.cell? ⟨b,o+k*11+6,none⟩=some (.int .i64 ps[k].m3)∧w.cell? ⟨b,o+k*11+7,none⟩=some (.int .i64 ps[k].m4)∧w.cell? ⟨b,o+k*11+8,none⟩=some (.int .i64 ps[k].m5)∧w.cell? ⟨b,o+k*11+9,none⟩=some (.int .i64 ps[k].m6)∧w.cell? ⟨b,o+k*11+10,none⟩=some (.int .i64 ps[k].m7)):=by
 obtain ⟨_,ao,cap,rfl,h2,h3⟩:=h;refine ⟨ao,cap,rfl,h2.1,fun hn=>?_⟩;obtain ⟨b,o,rfl,hb,hc⟩:=h3 hn;exact ⟨b,o,rfl,hb,fun k hk=>⟨(hc (k*11) (by omega)).trans (zct ps k 0 hk (by omega)),(hc (k*11+1) (by omega)).trans (zct ps k 1 hk (by omega)),(hc (k*11+2) (by omega)).trans (zct ps k 2 hk (by omega)),(hc (k*11+3) (by omega)).trans (zct ps k 3 hk (by omega)),(hc (k*11+4) (by omega)).trans (zct ps k 4 hk (by omega)),(hc (k*11+5) (by omega)).trans (zct ps k 5 hk (by omega)),(hc (k*11+6) (by omega)).trans (zct ps k 6 hk (by omega)),(hc (k*11+7) (by omega)).trans (zct ps k 7 hk (by omega)),(hc (k*11+8) (by omega)).trans (zct ps k 8 hk (by omega)),(hc (k*11+9) (by omega)).trans (zct ps k 9 hk (by omega)),(hc (k*11+10) (by omega)).trans (zct ps k 10 hk (by omega))⟩⟩
theorem yacc:(Tryz.prog.info? 149).map (fun i=>(i.zero,i.size,i.bytes))=some (some (.agg #[.int .i64 0,.int .i64 0,.int .i64 0,.int .i64 0,.int .i64 0,.int .i64 0,.int .i64 0,.int .i64 0,.int .i64 0,.int .i64 0,.int .i64 0]),11,88):=by kernel_rfl
structure Den where
 dir:Int
 name:ByteArray
 child:Int
def Den.v (x:Den):Value:=.agg #[.int .i64 x.dir,.string x.name,.int .i64 x.child]
def Den.freeB (x:Den):Bool:=x.dir == 0 && (x.name.size == 0 && x.child == -1)
def Den.okB (x:Den):Bool:=x.freeB || (decide (1≤x.child∧x.child≤15) && (decide (0≤x.dir∧x.dir≤15) && nmB x.name))
theorem zwu (s:ByteArray):s.toList=[]↔s.size=0:=by
 rw[ByteArray.toList_eq];obtain ⟨⟨x⟩⟩:=s
 show x=[]↔x.length=0
 exact List.length_eq_zero_iff.symm
def Den.cells (s:Den):List Value:=[.int .i64 s.dir,.string s.name,.int .i64 s.child]
def zbm (ps:List Den):List Value:=ps.flatMap Den.cells
theorem Den.cells_len (s:Den):s.cells.length=3:=rfl
theorem zee (ps:List Den):(zbm ps).length=ps.length*3:=zcu _ 3 Den.cells_len ps
theorem zzg (ps:List Den) (k:Nat) (h:k < ps.length):(zbm ps)[k*3]?=some (.int .i64 ps[k].dir):=zam _ 3 Den.cells_len ps k 0 h (by omega)
theorem zyk (ps:List Den) (k:Nat) (h:k < ps.length):(zbm ps)[k*3+1]?=some (.string ps[k].name):=zam _ 3 Den.cells_len ps k 1 h (by omega)
theorem zqj (ps:List Den) (k:Nat) (h:k < ps.length):(zbm ps)[k*3+2]?=some (.int .i64 ps[k].child):=zam _ 3 Den.cells_len ps k 2 h (by omega)
def RdD (w:World) (v:Value) (ps:List Den):Prop:=Rd w 3 v ps.length (zbm ps)
theorem RdD.shape {w:World} {v:Value} {ps:List Den} (h:RdD w v ps):∃ ao cap,v=.slice ao ps.length cap∧ps.length≤cap∧(0 < ps.length→∃ b o,ao=some ⟨b,o,none⟩∧b < w.heap.size ∧
  ∀ k (h:k < ps.length),w.cell? ⟨b,o+k*3,none⟩=some (.int .i64 ps[k].dir)∧w.cell? ⟨b,o+k*3+1,none⟩=some (.string ps[k].name)∧w.cell? ⟨b,o+k*3+2,none⟩=some (.int .i64 ps[k].child)):=by
 obtain ⟨_,ao,cap,rfl,h2,h3⟩:=h;refine ⟨ao,cap,rfl,h2.1,fun hn=>?_⟩;obtain ⟨b,o,rfl,hb,hc⟩:=h3 hn;exact ⟨b,o,rfl,hb,fun k hk=>⟨(hc (k*3) (by omega)).trans (zzg ps k hk),(hc (k*3+1) (by omega)).trans (zyk ps k hk),(hc (k*3+2) (by omega)).trans (zqj ps k hk)⟩⟩
theorem zla:(Tryz.prog.info? 143).map (fun i=>(i.zero,i.size,i.bytes))=some (some (.agg #[.int .i64 0,.string ⟨#[]⟩,.int .i64 0]),3,32):=by kernel_rfl
theorem zrh (a:Int) (v:ByteArray) (f:Int) (w:World):Calls Tryz.prog 110 #[.agg #[.int .i64 a,.string v,.int .i64 f],.agg #[.int .i64 a,.string v,.int .i64 f]] w fun e w'=>e=.returned (.bool true)∧Below w.heap.size w w':=by
 go_enter Tryz.func110,Tryz.ntmps110;go_wp2;go_ret;refine ⟨rfl,?_⟩
 repeat (refine Below.alloc ?_ (by simp <;> omega) _)
 exact Below.refl _ _
theorem zje (va vb:Value) (ps:List Den) (w:World) (ha:RdD w va ps) (hb:RdD w vb ps) (hn:ps.length≤2147483648) :
  Calls Tryz.prog 51 #[va,vb] w fun e w'=>e=.returned (.bool true)∧Below w.heap.size w w':=by
 obtain ⟨ao,cap,rfl,hcap,hc⟩:=ha.shape;obtain ⟨ao2,cap2,rfl,hcap2,hc2⟩:=hb.shape;clear ha hb;go_enter Tryz.func51,Tryz.ntmps51;go_wp2
 go_loopw [5] (fun i wr=>∃ k:Nat,k≤ps.length∧i=.int .i64 k∧Below w.heap.size w wr) (fun i _=>ps.length - (intOf i).toNat)
 case atStart=>exact ⟨0,by omega,rfl,Below.refl _ _⟩
 case round =>
  obtain ⟨k,hk,rfl,hbw⟩:=hrel
  by_cases hlt:k < ps.length
  ·obtain ⟨b,o,rfl,hbl,hcell⟩:=hc (by omega);obtain ⟨b2,o2,rfl,hbl2,hcell2⟩:=hc2 (by omega);obtain ⟨c0,c1,c2⟩:=hcell k hlt;obtain ⟨c3,c4,c5⟩:=hcell2 k hlt;have d0:=(hbw.cell (p:=⟨b,o+k*3,none⟩) hbl).trans c0;have d1:=(hbw.cell (p:=⟨b,o+k*3+1,none⟩) hbl).trans c1;have d2:=(hbw.cell (p:=⟨b,o+k*3+2,none⟩) hbl).trans c2;have d3:=(hbw.cell (p:=⟨b2,o2+k*3,none⟩) hbl2).trans c3;have d4:=(hbw.cell (p:=⟨b2,o2+k*3+1,none⟩) hbl2).trans c4;have d5:=(hbw.cell (p:=⟨b2,o2+k*3+2,none⟩) hbl2).trans c5
   have hlt':(k:Int) < (ps.length:Int):=by omega
   have hge:(0:Int)≤(k:Int):=by omega
   have hz:=hbw.size;clear hcell hcell2 hc hc2 c0 c1 c2 c3 c4 c5;go_wp2_with fail
   go_region_with (go_at_call 110;refine (zrh _ _ _ _).mono ?_;rintro e w1 ⟨rfl,hb1⟩)
   all_goals
    go_wp2
    go_roundw
    case rel=>exact ⟨k+1,by omega,by go_num,hbw.trans (Below.mono (Below.trans ((Below.refl _ _).drew) ‹_›) hz)⟩
    case measure=>simp[intOf];omega
  ·go_wp2;go_ret;exact ⟨rfl,hbw⟩
def RdIm (w:World) (v:Value) (ws:List Ino) (ps:List Den):Prop:=∃ vW vP,v=.agg #[vW,vP]∧RdN w vW ws∧RdD w vP ps
def RowIm (w:World) (lo hi:Nat) (v:Value) (ws:List Ino) (ps:List Den):Prop:=∃ vW vP,v=.agg #[vW,vP]∧Row w 149 11 lo hi vW ws.length (zqu ws)∧Row w 143 3 lo hi vP ps.length (zbm ps)
theorem RowIm.rd {w:World} {lo hi:Nat} {v:Value} {ws:List Ino} {ps:List Den} (h:RowIm w lo hi v ws ps):RdIm w v ws ps:=by
 obtain ⟨vW,vP,rfl,h1,h2⟩:=h;exact ⟨vW,vP,rfl,h1.rd,h2.rd⟩
theorem RdIm.below {w w':World} {v:Value} {ws:List Ino} {ps:List Den} (h:RdIm w v ws ps) (hb:Below w.heap.size w w'):RdIm w' v ws ps:=by
 obtain ⟨vW,vP,rfl,h1,h2⟩:=h;exact ⟨vW,vP,rfl,Rd.below h1 hb,Rd.below h2 hb⟩
theorem RowIm.below {w w':World} {lo hi:Nat} {v:Value} {ws:List Ino} {ps:List Den} (h:RowIm w lo hi v ws ps) {B:Nat} (hb:Below B w w') (hB:hi≤B):RowIm w' lo hi v ws ps:=by
 obtain ⟨vW,vP,rfl,h1,h2⟩:=h;exact ⟨vW,vP,rfl,h1.below hb hB,h2.below hb hB⟩
def zar (n:Int):Bool:=decide (0≤n∧n < 1099511627776)
def zaz (n:Int):Bool:=decide (0≤n∧n < 336)
def zgi (n:Int):Bool:=decide (0≤n∧n < 32)
theorem zue {n:Int} (h:zgi n=true):0≤n∧n < 32:=of_decide_eq_true h
theorem zhd {n:Int} (h:zaz n=true):0≤n∧n < 336:=of_decide_eq_true h
theorem zed (n:Int) (w:World):Calls Tryz.prog 151 #[.int .i64 n] w fun e w'=>e=.returned (.bool (zar n))∧w'=w:=by
 by_cases h0:0≤n
 ·by_cases h1:n < 1099511627776
  ·have e:zar n=true:=decide_eq_true ⟨h0,h1⟩;rw[e];clear e;go_enter Tryz.func151,Tryz.ntmps151;go_wp2;go_ret;exact ⟨rfl,rfl⟩
  ·have e:zar n=false:=decide_eq_false (fun h=>h1 h.2);rw[e];clear e;go_enter Tryz.func151,Tryz.ntmps151;go_wp2;go_ret;exact ⟨rfl,rfl⟩
 ·have e:zar n=false:=decide_eq_false (fun h=>h0 h.1);rw[e];clear e;go_enter Tryz.func151,Tryz.ntmps151;go_wp2;go_ret;exact ⟨rfl,rfl⟩
theorem zcs (n:Int) (w:World):Calls Tryz.prog 204 #[.int .i64 n] w fun e w'=>e=.returned (.bool (zaz n))∧w'=w:=by
 by_cases h0:0≤n
 ·by_cases h1:n < 336
  ·have e:zaz n=true:=decide_eq_true ⟨h0,h1⟩;rw[e];clear e;go_enter Tryz.func204,Tryz.ntmps204;go_wp2;go_ret;exact ⟨rfl,rfl⟩
  ·have e:zaz n=false:=decide_eq_false (fun h=>h1 h.2);rw[e];clear e;go_enter Tryz.func204,Tryz.ntmps204;go_wp2;go_ret;exact ⟨rfl,rfl⟩
 ·have e:zaz n=false:=decide_eq_false (fun h=>h0 h.1);rw[e];clear e;go_enter Tryz.func204,Tryz.ntmps204;go_wp2;go_ret;exact ⟨rfl,rfl⟩
theorem zcf (n:Int) (w:World):Calls Tryz.prog 205 #[.int .i64 n] w fun e w'=>e=.returned (.bool (zgi n))∧w'=w:=by
 by_cases h0:0≤n
 ·by_cases h1:n < 32
  ·have e:zgi n=true:=decide_eq_true ⟨h0,h1⟩;rw[e];clear e;go_enter Tryz.func205,Tryz.ntmps205;go_wp2;go_ret;exact ⟨rfl,rfl⟩
  ·have e:zgi n=false:=decide_eq_false (fun h=>h1 h.2);rw[e];clear e;go_enter Tryz.func205,Tryz.ntmps205;go_wp2;go_ret;exact ⟨rfl,rfl⟩
 ·have e:zgi n=false:=decide_eq_false (fun h=>h0 h.1);rw[e];clear e;go_enter Tryz.func205,Tryz.ntmps205;go_wp2;go_ret;exact ⟨rfl,rfl⟩
def inB (n lo hi:Int):Bool:=decide (lo≤n∧n≤hi)
theorem zis (n lo hi:Int) (w:World):Calls Tryz.prog 80 #[.int .i64 n,.int .i64 lo,.int .i64 hi] w fun e w'=>e=.returned (.bool (inB n lo hi))∧w'=w:=by
 by_cases h0:lo≤n
 ·by_cases h1:n≤hi
  ·have e:inB n lo hi=true:=decide_eq_true ⟨h0,h1⟩;rw[e];clear e;go_enter Tryz.func80,Tryz.ntmps80;go_wp2;go_ret;exact ⟨rfl,rfl⟩
  ·have e:inB n lo hi=false:=decide_eq_false (fun h=>h1 h.2);rw[e];clear e;go_enter Tryz.func80,Tryz.ntmps80;go_wp2;go_ret;exact ⟨rfl,rfl⟩
 ·have e:inB n lo hi=false:=decide_eq_false (fun h=>h0 h.1);rw[e];clear e;go_enter Tryz.func80,Tryz.ntmps80;go_wp2;go_ret;exact ⟨rfl,rfl⟩
theorem zyr (n:Int):inB n 0 1099511627775=zar n:=by
 unfold inB zar;rw[decide_eq_decide];omega
theorem ztf (n:Int):inB n 0 335=zaz n:=by
 unfold inB zaz;rw[decide_eq_decide];omega
theorem yabp (n:Int):inB n 0 31=zgi n:=by
 unfold inB zgi;rw[decide_eq_decide];omega
theorem zdt (n:Int) (w:World):Calls Tryz.prog 80 #[.int .i64 n,.int .i64 0,.int .i64 31] w fun e w'=>e=.returned (.bool (zgi n))∧w'=w:=by
 rw[← yabp];exact zis n 0 31 w
theorem zde (n:Int) (w:World):Calls Tryz.prog 80 #[.int .i64 n,.int .i64 0,.int .i64 335] w fun e w'=>e=.returned (.bool (zaz n))∧w'=w:=by
 rw[← ztf];exact zis n 0 335 w
theorem zax (n:Int) (w:World):Calls Tryz.prog 77 #[.int .i64 n] w fun e w'=>e=.returned (.bool (zar n))∧w'=w:=by
 have E:=zaa (zyr n);go_enter Tryz.func77,Tryz.ntmps77;go_wp2_with fail;refine (zis n 0 1099511627775 _).mono ?_;rw[E.o];rintro e w' ⟨rfl,rfl⟩;go_wp2;go_ret;exact ⟨rfl,rfl⟩
def zep (zs:List Int):Bool:=decide (∀ k (h:k < zs.length),zar zs[k]=true)
theorem zio {zs:List Int} (h:zep zs=true):∀ k (h:k < zs.length),zar zs[k]=true:=of_decide_eq_true h
theorem zoc {zs:List Int} (h:∀ k (h:k < zs.length),zar zs[k]=true):zep zs=true:=decide_eq_true h
theorem zrm {zs:List Int} {k:Nat} (hk:k < zs.length) (h:zar zs[k]=false):zep zs=false:=decide_eq_false (fun x=>by have:=x k hk;rw[h] at this;cases this)
theorem zni {zs:List Int} (h:zep zs=false):∃ k,∃ h:k < zs.length,zar zs[k]=false:=by
 apply Classical.byContradiction;intro hn
 have:zep zs=true:=zoc (fun k hk=>by
  cases e:zar zs[k] with
  | true=>rfl
  | false=>exact absurd ⟨k,hk,e⟩ hn)
 rw[h] at this
 cases this
end Go.Proofs.YtbohndgbfbfldaaGreatDoor
