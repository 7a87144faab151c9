/- Several texts laid together: ImG, ImJ, Word. -/
import Derived.Test.YtbohndgbfbfldaaGreatDoorZAF
import Derived.Deep.RegionWith
import Derived.Test.YtbohndgbfbfldaaGreatDoorZAB
set_option maxRecDepth 100000
set_option maxHeartbeats 4000000
namespace Go.Proofs.YtbohndgbfbfldaaGreatDoor
open Go.RowKit
theorem zix (va vb:Value) (ps:List Den) (w:World) (ha:RdD w va ps) (hb:RdD w vb ps) (hn:ps.length≤2147483648) :
  Calls Tryz.prog 51 #[va,vb] w fun e w'=>e=.returned (.bool true)∧Below w.heap.size w w':=by
 obtain ⟨ao,cap,rfl,hcap,hc⟩:=ha.shape;obtain ⟨ao2,cap2,rfl,hcap2,hc2⟩:=hb.shape;clear ha hb;go_enter Tryz.func51,Tryz.ntmps51;go_wp2
 go_loopw [5] (fun i wr=>∃ k:Nat,k≤ps.length∧i=.int .i64 k∧Below w.heap.size w wr) (fun i _=>ps.length - (intOf i).toNat)
 case atStart=>exact ⟨0,by omega,rfl,Below.refl _ _⟩
 case round =>
  obtain ⟨k,hk,rfl,hbw⟩:=hrel
  by_cases hlt:k < ps.length
  ·obtain ⟨b,o,rfl,hbl,hcell⟩:=hc (by omega);obtain ⟨b2,o2,rfl,hbl2,hcell2⟩:=hc2 (by omega);obtain ⟨c0,c1,c2⟩:=hcell k hlt;obtain ⟨c3,c4,c5⟩:=hcell2 k hlt;have d0:=(hbw.cell (p:=⟨b,o+k*3,none⟩) hbl).trans c0;have d1:=(hbw.cell (p:=⟨b,o+k*3+1,none⟩) hbl).trans c1;have d2:=(hbw.cell (p:=⟨b,o+k*3+2,none⟩) hbl).trans c2;have d3:=(hbw.cell (p:=⟨b2,o2+k*3,none⟩) hbl2).trans c3;have d4:=(hbw.cell (p:=⟨b2,o2+k*3+1,none⟩) hbl2).trans c4;have d5:=(hbw.cell (p:=⟨b2,o2+k*3+2,none⟩) hbl2).trans c5
   have hlt':(k:Int) < (ps.length:Int):=by omega
   have hge:(0:Int)≤(k:Int):=by omega
   have hz:=hbw.size;clear hcell hcell2 hc hc2 c0 c1 c2 c3 c4 c5;go_wp2_with fail
   go_region_with (go_at_call 110;refine (zsq _ _ _ _).mono ?_;rintro e w1 ⟨rfl,hb1⟩)
   all_goals
    go_wp2
    go_roundw
    case rel=>exact ⟨k+1,by omega,by go_num,hbw.trans (Below.mono (Below.trans ((Below.refl _ _).drew) ‹_›) hz)⟩
    case measure=>simp[intOf];omega
  ·go_wp2;go_ret;exact ⟨rfl,hbw⟩
def zbx (ps:List Den):Nat→Int→Int
 | 0,left=>if left < ps.length then -1 else left - ps.length
 | k+1,left=>if zbx ps k left < 0 then -1 else if zbx ps k left < ((ps[k]?.map (fun x=>x.name.size)).getD 0:Nat) then -1 else zbx ps k left - ((ps[k]?.map (fun x=>x.name.size)).getD 0:Nat)
theorem zhi (ps:List Den) (left:Int) (h:0≤left):∀ k,-1≤zbx ps k left∧zbx ps k left≤left
 | 0=>by unfold zbx;split <;> omega
 | k+1=>by
  have:=zhi ps left h k;unfold zbx
  split
  ·omega
  ·split <;> omega
theorem zhy (ps:List Den) (left:Int) (h:0≤left) (k:Nat) (hk:zbx ps k left < 0):∀ j,zbx ps (k+j) left=-1
 | 0=>by have:=zhi ps left h k;simp only[Nat.add_zero];omega
 | j+1=>by
  have:=zhy ps left h k hk j;rw[← Nat.add_assoc,zbx,if_pos (by omega)]
theorem zkz (v:Value) (ps:List Den) (left:Int) (w:World) (h:RdD w v ps) (hn:ps.length≤maxLen) (hs:∀ k (h:k < ps.length),ps[k].name.size≤maxLen) (h0:0≤left) (h1:left≤1048576) :
  Calls Tryz.prog 71 #[v,.int .i64 left] w fun e w'=>e=.returned (.int .i64 (zbx ps ps.length left))∧Below w.heap.size w w':=by
 obtain ⟨ao,cap,rfl,hcap,hc⟩:=h.shape;clear h
 have hn':ps.length≤9223372036854775807:=by unfold maxLen at hn;omega
 have RN:=zaa (zhy ps left h0);have RL:=zaa (zhi ps left h0);have HS:=zaa hs;clear hs hn
 by_cases c:left < ps.length
 ·have E:=zaa (show zbx ps ps.length left=-1 by have:=RN.o 0 (by unfold zbx;rw[if_pos c];omega) ps.length;rwa [Nat.zero_add] at this);rw[E.o]
  have c':left - (ps.length:Int) < 0:=by omega
  go_enter Tryz.func71,Tryz.ntmps71;go_wp2;go_ret;exact ⟨rfl,Below.refl _ _⟩
 ·have c':¬ left - (ps.length:Int) < 0:=by omega
  have E0:=zaa (show zbx ps 0 left=left - ps.length by unfold zbx;rw[if_neg c]);go_enter Tryz.func71,Tryz.ntmps71;go_wp2
  go_loopw [1,5] (fun l i wr=>∃ k:Nat,k≤ps.length∧i=.int .i64 k∧l=.int .i64 (zbx ps k left)∧Hid (0≤zbx ps k left∧Below w.heap.size w wr)) (fun _ i _=>ps.length - (intOf i).toNat)
  case atStart=>exact ⟨0,by omega,rfl,by rw[E0.o],by rw[E0.o];omega,Below.refl _ _⟩
  case round =>
   obtain ⟨k,hk,rfl,rfl,J⟩:=hrel
   by_cases hlt:k < ps.length
   ·obtain ⟨b,o,rfl,hbl,hcell⟩:=hc (by omega);obtain ⟨c0,c1,c2⟩:=hcell k hlt;have d0:=(J.o.2.cell (p:=⟨b,o+k*3,none⟩) hbl).trans c0;have d1:=(J.o.2.cell (p:=⟨b,o+k*3+1,none⟩) hbl).trans c1;have d2:=(J.o.2.cell (p:=⟨b,o+k*3+2,none⟩) hbl).trans c2
    have hlt':(k:Int) < (ps.length:Int):=by omega
    have hge:(0:Int)≤(k:Int):=by omega
    have SU:=zaa (show zbx ps (k+1) left=if zbx ps k left < ps[k].name.size then -1 else zbx ps k left - ps[k].name.size by
     have e:(ps[k]?.map (fun x=>x.name.size)).getD 0=ps[k].name.size:=by rw[List.getElem?_eq_getElem hlt];rfl
     rw[zbx,if_neg (by have:=J.o.1;omega),e])
    have LS:=zaa (fun w1=>zmp ps[k] (zbx ps k left) w1 (HS.o k hlt) J.o.1 (by have:=RL.o k;omega));rw[← SU.o] at LS;have r0:=(RL.o (k+1)).1;have r1:=(RL.o (k+1)).2
    have EN:=zaa (fun e=>show zbx ps ps.length left=-1 by
     have:=RN.o (k+1) e (ps.length - (k+1))
     rwa [show k+1+(ps.length - (k+1))=ps.length by omega] at this)
    clear hcell hc c0 c1 c2 SU RN RL HS E0;go_wp2_with fail;refine (LS.o _).mono ?_;rintro e w1 ⟨rfl,hb1⟩;have B1:=zaa (zab J.o.2 hb1 J.o.2.size);clear hb1 d0 d1 d2
    by_cases q:zbx ps (k+1) left < 0
    ·have E:=zaa (EN.o q);go_wp2;go_ret;exact ⟨zem E.o.symm,B1.o⟩
    ·have q':0≤zbx ps (k+1) left:=by omega
     go_wp2
     go_roundw
     case rel=>exact ⟨k+1,by omega,by go_num,rfl,q',B1.o⟩
     case measure=>simp[intOf];omega
   ·obtain rfl:k=ps.length:=by omega
    go_wp2;go_ret;exact ⟨rfl,J.o.2⟩
def RdIm (w:World) (v:Value) (ws:List Ino) (ps:List Den):Prop:=∃ vW vP,v=.agg #[vW,vP]∧RdN w vW ws∧RdD w vP ps
def RowIm (w:World) (lo hi:Nat) (v:Value) (ws:List Ino) (ps:List Den):Prop:=∃ vW vP,v=.agg #[vW,vP]∧Row w 149 11 lo hi vW ws.length (zgq ws)∧Row w 143 3 lo hi vP ps.length (zcv ps)
theorem RowIm.rd {w:World} {lo hi:Nat} {v:Value} {ws:List Ino} {ps:List Den} (h:RowIm w lo hi v ws ps):RdIm w v ws ps:=by
 obtain ⟨vW,vP,rfl,h1,h2⟩:=h;exact ⟨vW,vP,rfl,h1.rd,h2.rd⟩
theorem RdIm.below {w w':World} {v:Value} {ws:List Ino} {ps:List Den} (h:RdIm w v ws ps) (hb:Below w.heap.size w w'):RdIm w' v ws ps:=by
 obtain ⟨vW,vP,rfl,h1,h2⟩:=h;exact ⟨vW,vP,rfl,Rd.below h1 hb,Rd.below h2 hb⟩
theorem RowIm.below {w w':World} {lo hi:Nat} {v:Value} {ws:List Ino} {ps:List Den} (h:RowIm w lo hi v ws ps) {B:Nat} (hb:Below B w w') (hB:hi≤B):RowIm w' lo hi v ws ps:=by
 obtain ⟨vW,vP,rfl,h1,h2⟩:=h;exact ⟨vW,vP,rfl,h1.below hb hB,h2.below hb hB⟩
def zap (n:Int):Bool:=decide (0≤n∧n < 1099511627776)
def zbu (n:Int):Bool:=decide (0≤n∧n < 336)
def zlq (n:Int):Bool:=decide (0≤n∧n < 32)
theorem zph {n:Int} (h:zbu n=true):0≤n∧n < 336:=of_decide_eq_true h
theorem zeb (n:Int) (w:World):Calls Tryz.prog 151 #[.int .i64 n] w fun e w'=>e=.returned (.bool (zap n))∧w'=w:=by
 by_cases h0:0≤n
 ·by_cases h1:n < 1099511627776
  ·have e:zap n=true:=decide_eq_true ⟨h0,h1⟩;rw[e];clear e;go_enter Tryz.func151,Tryz.ntmps151;go_wp2;go_ret;exact ⟨rfl,rfl⟩
  ·have e:zap n=false:=decide_eq_false (fun h=>h1 h.2);rw[e];clear e;go_enter Tryz.func151,Tryz.ntmps151;go_wp2;go_ret;exact ⟨rfl,rfl⟩
 ·have e:zap n=false:=decide_eq_false (fun h=>h0 h.1);rw[e];clear e;go_enter Tryz.func151,Tryz.ntmps151;go_wp2;go_ret;exact ⟨rfl,rfl⟩
theorem zia (n:Int) (w:World):Calls Tryz.prog 204 #[.int .i64 n] w fun e w'=>e=.returned (.bool (zbu n))∧w'=w:=by
 by_cases h0:0≤n
 ·by_cases h1:n < 336
  ·have e:zbu n=true:=decide_eq_true ⟨h0,h1⟩;rw[e];clear e;go_enter Tryz.func204,Tryz.ntmps204;go_wp2;go_ret;exact ⟨rfl,rfl⟩
  ·have e:zbu n=false:=decide_eq_false (fun h=>h1 h.2);rw[e];clear e;go_enter Tryz.func204,Tryz.ntmps204;go_wp2;go_ret;exact ⟨rfl,rfl⟩
 ·have e:zbu n=false:=decide_eq_false (fun h=>h0 h.1);rw[e];clear e;go_enter Tryz.func204,Tryz.ntmps204;go_wp2;go_ret;exact ⟨rfl,rfl⟩
theorem zgj (n:Int) (w:World):Calls Tryz.prog 205 #[.int .i64 n] w fun e w'=>e=.returned (.bool (zlq n))∧w'=w:=by
 by_cases h0:0≤n
 ·by_cases h1:n < 32
  ·have e:zlq n=true:=decide_eq_true ⟨h0,h1⟩;rw[e];clear e;go_enter Tryz.func205,Tryz.ntmps205;go_wp2;go_ret;exact ⟨rfl,rfl⟩
  ·have e:zlq n=false:=decide_eq_false (fun h=>h1 h.2);rw[e];clear e;go_enter Tryz.func205,Tryz.ntmps205;go_wp2;go_ret;exact ⟨rfl,rfl⟩
 ·have e:zlq n=false:=decide_eq_false (fun h=>h0 h.1);rw[e];clear e;go_enter Tryz.func205,Tryz.ntmps205;go_wp2;go_ret;exact ⟨rfl,rfl⟩
def inB (n lo hi:Int):Bool:=decide (lo≤n∧n≤hi)
theorem zhr (n lo hi:Int) (w:World):Calls Tryz.prog 80 #[.int .i64 n,.int .i64 lo,.int .i64 hi] w fun e w'=>e=.returned (.bool (inB n lo hi))∧w'=w:=by
 by_cases h0:lo≤n
 ·by_cases h1:n≤hi
  ·have e:inB n lo hi=true:=decide_eq_true ⟨h0,h1⟩;rw[e];clear e;go_enter Tryz.func80,Tryz.ntmps80;go_wp2;go_ret;exact ⟨rfl,rfl⟩
  ·have e:inB n lo hi=false:=decide_eq_false (fun h=>h1 h.2);rw[e];clear e;go_enter Tryz.func80,Tryz.ntmps80;go_wp2;go_ret;exact ⟨rfl,rfl⟩
 ·have e:inB n lo hi=false:=decide_eq_false (fun h=>h0 h.1);rw[e];clear e;go_enter Tryz.func80,Tryz.ntmps80;go_wp2;go_ret;exact ⟨rfl,rfl⟩
theorem zyz (n:Int):inB n 0 1099511627775=zap n:=by
 unfold inB zap;rw[decide_eq_decide];omega
theorem ztn (n:Int):inB n 0 335=zbu n:=by
 unfold inB zbu;rw[decide_eq_decide];omega
theorem yabe (n:Int):inB n 0 31=zlq n:=by
 unfold inB zlq;rw[decide_eq_decide];omega
theorem zdr (n:Int) (w:World):Calls Tryz.prog 80 #[.int .i64 n,.int .i64 0,.int .i64 31] w fun e w'=>e=.returned (.bool (zlq n))∧w'=w:=by
 rw[← yabe];exact zhr n 0 31 w
theorem zcx (n:Int) (w:World):Calls Tryz.prog 80 #[.int .i64 n,.int .i64 0,.int .i64 335] w fun e w'=>e=.returned (.bool (zbu n))∧w'=w:=by
 rw[← ztn];exact zhr n 0 335 w
theorem zau (n:Int) (w:World):Calls Tryz.prog 77 #[.int .i64 n] w fun e w'=>e=.returned (.bool (zap n))∧w'=w:=by
 have E:=zaa (zyz n);go_enter Tryz.func77,Tryz.ntmps77;go_wp2_with fail;refine (zhr n 0 1099511627775 _).mono ?_;rw[E.o];rintro e w' ⟨rfl,rfl⟩;go_wp2;go_ret;exact ⟨rfl,rfl⟩
def zdh (zs:List Int):Bool:=decide (∀ k (h:k < zs.length),zap zs[k]=true)
theorem zep {zs:List Int} (h:zdh zs=true):∀ k (h:k < zs.length),zap zs[k]=true:=of_decide_eq_true h
theorem zmy {zs:List Int} (h:∀ k (h:k < zs.length),zap zs[k]=true):zdh zs=true:=decide_eq_true h
theorem zrs {zs:List Int} {k:Nat} (hk:k < zs.length) (h:zap zs[k]=false):zdh zs=false:=decide_eq_false (fun x=>by have:=x k hk;rw[h] at this;cases this)
theorem zni {zs:List Int} (h:zdh zs=false):∃ k,∃ h:k < zs.length,zap zs[k]=false:=by
 apply Classical.byContradiction;intro hn
 have:zdh zs=true:=zmy (fun k hk=>by
  cases e:zap zs[k] with
  | true=>rfl
  | false=>exact absurd ⟨k,hk,e⟩ hn)
 rw[h] at this
 cases this
end Go.Proofs.YtbohndgbfbfldaaGreatDoor
