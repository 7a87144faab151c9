/- Several texts laid together: StA, AoA, AnA, AoB, StoreT. -/
import Derived.Test.YtbohndgbfbfldaaGreatDoorZAD
import Derived.Test.YtbohndgbfbfldaaGreatDoorZAG
import Derived.Test.YtbohndgbfbfldaaGreatDoorZAI
import Derived.Deep.DeepCutAuto
import Derived.Deep.RegionWith
import Derived.Deep.RegionHeld3
import Derived.Lib.Strings
import Derived.Test.YtbohndgbfbfldaaGreatDoorZAC
import Derived.Test.YtbohndgbfbfldaaGreatDoorZAB
set_option maxRecDepth 100000
set_option maxHeartbeats 4000000
namespace Go.Proofs.YtbohndgbfbfldaaGreatDoor
open Go.RowKit
def zol (ss:List ByteArray):List Value:=ss.map Value.string
theorem zwy (ss:List ByteArray):(zol ss).length=ss.length:=by simp[zol]
theorem zqc (ss:List ByteArray) (k:Nat) (h:k < ss.length):(zol ss)[k]?=some (.string ss[k]):=by simp[zol,h]
def RdT (w:World) (v:Value) (ss:List ByteArray):Prop:=Rd w 1 v ss.length (zol ss)
theorem RdT.shape {w:World} {v:Value} {ss:List ByteArray} (h:RdT w v ss):∃ ao cap,v=.slice ao ss.length cap∧ss.length≤cap∧(0 < ss.length→∃ b o,ao=some ⟨b,o,none⟩∧b < w.heap.size∧∀ k (h:k < ss.length),w.cell? ⟨b,o+k,none⟩=some (.string ss[k])):=by
 obtain ⟨_,ao,cap,rfl,h2,h3⟩:=h;refine ⟨ao,cap,rfl,h2.1,fun hn=>?_⟩;obtain ⟨b,o,e,hb,hc⟩:=h3 hn;exact ⟨b,o,e,hb,fun k hk=>(hc k (by omega)).trans (zqc ss k hk)⟩
theorem yaen:(Tryz.prog.info? 9).map (fun i=>(i.zero,i.size,i.bytes))=some (some (.string ⟨#[]⟩),1,16):=by kernel_rfl
theorem zpy {B:Nat} {a w:World} (h:Below B a w) (n:Nat):Below B a (w.drewN n):=by
 induction n with
 | zero=>exact h
 | succ n ih=>exact ⟨ih.os,ih.tape,ih.output,ih.size,ih.block⟩
theorem ziz (va vb:Value) (ss:List ByteArray) (w:World) (ha:RdT w va ss) (hb:RdT w vb ss) (hn:ss.length≤2147483648) :
  Calls Tryz.prog 108 #[va,vb] w fun e w'=>e=.returned (.bool true)∧Below w.heap.size w w':=by
 obtain ⟨ao,cap,rfl,hcap,hc⟩:=ha.shape;obtain ⟨ao2,cap2,rfl,hcap2,hc2⟩:=hb.shape;clear ha hb;go_enter Tryz.func108,Tryz.ntmps108;go_wp2
 go_loopw [5] (fun i wr=>∃ k:Nat,k≤ss.length∧i=.int .i64 k∧Below w.heap.size w wr) (fun i _=>ss.length - (intOf i).toNat)
 case atStart=>exact ⟨0,by omega,rfl,Below.refl _ _⟩
 case round =>
  obtain ⟨k,hk,rfl,hbw⟩:=hrel
  by_cases hlt:k < ss.length
  ·obtain ⟨b,o,rfl,hbl,hcell⟩:=hc (by omega);obtain ⟨b2,o2,rfl,hbl2,hcell2⟩:=hc2 (by omega);have hck:wr.cell? ⟨b,o+k,none⟩=some (.string ss[k]):=(hbw.cell (p:=⟨b,o+k,none⟩) hbl).trans (hcell k hlt);have hck2:wr.cell? ⟨b2,o2+k,none⟩=some (.string ss[k]):=(hbw.cell (p:=⟨b2,o2+k,none⟩) hbl2).trans (hcell2 k hlt)
   have hlt':(k:Int) < (ss.length:Int):=by omega
   have hge:(0:Int)≤(k:Int):=by omega
   clear hcell hcell2 hc hc2;generalize ss[k]=x at hck hck2;go_wp2
   go_quiet (fail)
   go_wp2
   go_roundw
   case rel=>exact ⟨k+1,by omega,by go_num,zpy hbw _⟩
   case measure=>simp[intOf];omega
  ·go_wp2;go_ret;exact ⟨rfl,hbw⟩
structure Aw where
 code:Int
 val:Int
 names:List ByteArray
def awc (u:Aw×Value):List Value:=[.int .i64 u.1.code,.int .i64 u.1.val,u.2]
def awv (us:List (Aw×Value)):List Value:=us.flatMap awc
theorem zio (u:Aw×Value):(awc u).length=3:=rfl
theorem zpp (us:List (Aw×Value)):(awv us).length=us.length*3:=zby _ 3 zio us
theorem yaaw (us:List (Aw×Value)) (k:Nat) (h:k < us.length):(awv us)[k*3]?=some (.int .i64 us[k].1.code):=zan _ 3 zio us k 0 h (by omega)
theorem yabx (us:List (Aw×Value)) (k:Nat) (h:k < us.length):(awv us)[k*3+1]?=some (.int .i64 us[k].1.val):=zan _ 3 zio us k 1 h (by omega)
theorem yacm (us:List (Aw×Value)) (k:Nat) (h:k < us.length):(awv us)[k*3+2]?=some us[k].2:=zan _ 3 zio us k 2 h (by omega)
theorem yabr (us vs:List (Aw×Value)):awv (us ++ vs)=awv us ++ awv vs:=by simp[awv]
def RdAu (w:World) (v:Value) (us:List (Aw×Value)):Prop:=Rd w 3 v us.length (awv us)∧∀ k (h:k < us.length),RdT w us[k].2 us[k].1.names
def RdAs (w:World) (v:Value) (ts:List Aw):Prop:=∃ us:List (Aw×Value),us.map Prod.fst=ts∧RdAu w v us
theorem RdAu.below {w w':World} {v:Value} {us:List (Aw×Value)} (h:RdAu w v us) (hb:Below w.heap.size w w'):RdAu w' v us:=⟨Rd.below h.1 hb,fun k hk=>Rd.below (h.2 k hk) hb⟩
theorem RdAs.below {w w':World} {v:Value} {ts:List Aw} (h:RdAs w v ts) (hb:Below w.heap.size w w'):RdAs w' v ts:=by
 obtain ⟨us,e,r⟩:=h;exact ⟨us,e,r.below hb⟩
theorem RdAu.shape {w:World} {v:Value} {us:List (Aw×Value)} (h:RdAu w v us):∃ ao cap,v=.slice ao us.length cap∧us.length≤cap∧(0 < us.length→∃ b o,ao=some ⟨b,o,none⟩∧b < w.heap.size ∧
  ∀ k (h:k < us.length),w.cell? ⟨b,o+k*3,none⟩=some (.int .i64 us[k].1.code)∧w.cell? ⟨b,o+k*3+1,none⟩=some (.int .i64 us[k].1.val)∧w.cell? ⟨b,o+k*3+2,none⟩=some us[k].2):=by
 obtain ⟨⟨h1,ao,cap,rfl,h2,h3⟩,-⟩:=h;refine ⟨ao,cap,rfl,h2.1,fun hp=>?_⟩;obtain ⟨b,o,rfl,hb,hc⟩:=h3 hp;refine ⟨b,o,rfl,hb,fun k hk=>⟨?_,?_,?_⟩⟩
 ·exact (hc (k*3) (by omega)).trans (yaaw us k hk)
 ·exact (hc (k*3+1) (by omega)).trans (yabx us k hk)
 ·exact (hc (k*3+2) (by omega)).trans (yacm us k hk)
structure OwAu (w:World) (lo hi:Nat) (v:Value) (us:List (Aw×Value)):Prop where
 row:Row w 34 3 lo hi v us.length (awv us)
 pg:∀ k (h:k < us.length),Row w 9 1 lo hi us[k].2 us[k].1.names.length (zol us[k].1.names)
 ap:∀ j k (hj:j < us.length) (hk:k < us.length),¬ j=k→Apt us[j].2 us[k].2
def RowAs (w:World) (lo hi:Nat) (v:Value) (ts:List Aw):Prop:=∃ us:List (Aw×Value),us.map Prod.fst=ts∧OwAu w lo hi v us
theorem OwAu.rd {w:World} {lo hi:Nat} {v:Value} {us:List (Aw×Value)} (h:OwAu w lo hi v us):RdAu w v us:=⟨h.row.rd,fun k hk=>(h.pg k hk).rd⟩
theorem RowAs.rd {w:World} {lo hi:Nat} {v:Value} {ts:List Aw} (h:RowAs w lo hi v ts):RdAs w v ts:=by
 obtain ⟨us,e,r⟩:=h;exact ⟨us,e,r.rd⟩
theorem OwAu.wide {w:World} {lo hi:Nat} {v:Value} {us:List (Aw×Value)} (h:OwAu w lo hi v us) {lo' hi':Nat} (a:lo'≤lo) (b:hi≤hi'):OwAu w lo' hi' v us:=⟨h.row.wide a b,fun k hk=>(h.pg k hk).wide a b,h.ap⟩
theorem RowAs.wide {w:World} {lo hi:Nat} {v:Value} {ts:List Aw} (h:RowAs w lo hi v ts) {lo' hi':Nat} (a:lo'≤lo) (b:hi≤hi'):RowAs w lo' hi' v ts:=by
 obtain ⟨us,e,r⟩:=h;exact ⟨us,e,r.wide a b⟩
theorem OwAu.outside {w w':World} {lo hi:Nat} {v:Value} {us:List (Aw×Value)} (h:OwAu w lo hi v us) {lo' hi':Nat} (ho:Outside lo' hi' w w') (hd:hi≤lo'∨hi'≤lo) (hz:hi≤w.heap.size):OwAu w' lo hi v us:=⟨h.row.outside ho hd hz,fun k hk=>(h.pg k hk).outside ho hd hz,h.ap⟩
theorem RowAs.outside {w w':World} {lo hi:Nat} {v:Value} {ts:List Aw} (h:RowAs w lo hi v ts) {lo' hi':Nat} (ho:Outside lo' hi' w w') (hd:hi≤lo'∨hi'≤lo) (hz:hi≤w.heap.size):RowAs w' lo hi v ts:=by
 obtain ⟨us,e,r⟩:=h;exact ⟨us,e,r.outside ho hd hz⟩
theorem zdx {us:List (Aw×Value)} {ts:List Aw} (e:us.map Prod.fst=ts):us.length=ts.length:=by rw[← e,List.length_map]
theorem zmd {us:List (Aw×Value)} {ts:List Aw} (e:us.map Prod.fst=ts) (k:Nat) (h:k < us.length):us[k].1=ts[k]'(by rw[← zdx e];exact h):=by
 subst e;simp
theorem zsm:(Tryz.prog.info? 34).map (fun i=>(i.zero,i.size,i.bytes))=some (some (.agg #[.int .i64 0,.int .i64 0,.slice none 0 0]),3,40):=by kernel_rfl
theorem zfa (c v:Int) (va vb:Value) (ss:List ByteArray) (w:World) (ha:RdT w va ss) (hb:RdT w vb ss) (hn:ss.length≤2147483648) :
  Calls Tryz.prog 49 #[.agg #[.int .i64 c,.int .i64 v,va],.agg #[.int .i64 c,.int .i64 v,vb]] w fun e w'=>e=.returned (.bool true)∧Below w.heap.size w w':=by
 have LE:=zaa (fun w1 (h:Below w.heap.size w w1)=>ziz va vb ss w1 (Rd.below ha h) (Rd.below hb h) hn);obtain ⟨-,aa,ca,rfl,-⟩:=ha;obtain ⟨-,ab,cb,rfl,-⟩:=hb;have BW:Hid (Below w.heap.size w ((w.alloc (.cells #[.int .i64 c,.int .i64 v,.slice aa ss.length ca] 34)).alloc (.cells #[.int .i64 c,.int .i64 v,.slice ab ss.length cb] 34))):=((Below.refl _ _).alloc (Nat.le_refl _) _).alloc (by simp) _;go_enter Tryz.func49,Tryz.ntmps49;go_wp2_with fail;refine (LE.o _ BW.o).mono ?_;rintro e w1 ⟨rfl,hb1⟩;have B1:=zaa (zab BW.o hb1 BW.o.size);clear hb1;go_wp2;go_ret;exact ⟨rfl,B1.o⟩
theorem ziv (va vb:Value) (us vs:List (Aw×Value)) (w:World) (ha:RdAu w va us) (hb:RdAu w vb vs) (he:us.map Prod.fst=vs.map Prod.fst) (hn:us.length≤2147483648) (hp:∀ k (h:k < us.length),us[k].1.names.length≤2147483648) :
  Calls Tryz.prog 20 #[va,vb] w fun e w'=>e=.returned (.bool true)∧Below w.heap.size w w':=by
 have HA:=zaa ha;have HB:=zaa hb
 have el:us.length=vs.length:=by have:=congrArg List.length he;simpa using this
 have EL:=zaa el
 have EA:Hid (∀ k (h:k < us.length),us[k].1=(vs[k]'(Nat.lt_of_lt_of_eq h EL.o)).1):=fun k h=>by
  have:=congrArg (fun l=>l[k]?) he;simpa[h,show k < vs.length by omega] using this
 obtain ⟨ao,cap,rfl,hcap,hc⟩:=ha.shape;obtain ⟨ao2,cap2,rfl,hcap2,hc2⟩:=hb.shape;rw[← el];have HP:=zaa hp;clear ha hb he hp el;go_enter Tryz.func20,Tryz.ntmps20;go_wp2
 go_loopw [5] (fun i wr=>∃ k:Nat,k≤us.length∧i=.int .i64 k∧Below w.heap.size w wr) (fun i _=>us.length - (intOf i).toNat)
 case atStart=>exact ⟨0,by omega,rfl,Below.refl _ _⟩
 case round =>
  obtain ⟨k,hk,rfl,hbw⟩:=hrel
  by_cases hlt:k < us.length
  ·obtain ⟨b,o,rfl,hbl,hcell⟩:=hc (by omega);obtain ⟨b2,o2,rfl,hbl2,hcell2⟩:=hc2 (by have:=EL.o;omega);obtain ⟨c0,c1,c2⟩:=hcell k hlt;obtain ⟨c3,c4,c5⟩:=hcell2 k (Nat.lt_of_lt_of_eq hlt EL.o);rw[← EA.o k hlt] at c3 c4;have d0:=(hbw.cell (p:=⟨b,o+k*3,none⟩) hbl).trans c0;have d1:=(hbw.cell (p:=⟨b,o+k*3+1,none⟩) hbl).trans c1;have d2:=(hbw.cell (p:=⟨b,o+k*3+2,none⟩) hbl).trans c2;have d3:=(hbw.cell (p:=⟨b2,o2+k*3,none⟩) hbl2).trans c3;have d4:=(hbw.cell (p:=⟨b2,o2+k*3+1,none⟩) hbl2).trans c4;have d5:=(hbw.cell (p:=⟨b2,o2+k*3+2,none⟩) hbl2).trans c5
   have hlt':(k:Int) < (us.length:Int):=by omega
   have hge:(0:Int)≤(k:Int):=by omega
   have hz:=hbw.size;have BW:=zaa hbw;have R1:Hid (RdT w us[k].2 us[k].1.names):=HA.o.2 k hlt
   have R2:Hid (RdT w (vs[k]'(Nat.lt_of_lt_of_eq hlt EL.o)).2 us[k].1.names):=by
    have:=HB.o.2 k (Nat.lt_of_lt_of_eq hlt EL.o);rw[← EA.o k hlt] at this;exact this
   have hpk:=HP.o k hlt;obtain ⟨x1,y1,e1,-⟩:=R1.o.shape;obtain ⟨x2,y2,e2,-⟩:=R2.o.shape;rw[e1] at d2 R1;rw[e2] at d5 R2;clear hcell hcell2 hc hc2 c0 c1 c2 c3 c4 c5 hbw e1 e2 EA HA HB HP;generalize us[k].1.names=zs at *;generalize us[k].1.code=q1 at *;generalize us[k].1.val=q2 at *;go_wp2_with fail
   go_region_with (go_at_call 49;refine (zfa _ _ _ _ zs _ (Rd.below R1.o (by first | exact BW.o | exact BW.o.drew)) (Rd.below R2.o (by first | exact BW.o | exact BW.o.drew)) hpk).mono ?_;rintro e w1 ⟨rfl,hb1⟩)
   all_goals
    go_wp2
    go_roundw
    case rel=>exact ⟨k+1,by omega,by go_num,BW.o.trans (Below.mono (Below.trans ((Below.refl _ _).drew) ‹_›) hz)⟩
    case measure=>simp[intOf];omega
  ·go_wp2;go_ret;exact ⟨rfl,hbw⟩
theorem zjg (va vb:Value) (ts:List Aw) (w:World) (ha:RdAs w va ts) (hb:RdAs w vb ts) (hn:ts.length≤2147483648) (hp:∀ k (h:k < ts.length),ts[k].names.length≤2147483648) :
  Calls Tryz.prog 20 #[va,vb] w fun e w'=>e=.returned (.bool true)∧Below w.heap.size w w':=by
 obtain ⟨us,eu,ru⟩:=ha;obtain ⟨vs,ev,rv⟩:=hb;refine ziv va vb us vs w ru rv (by rw[eu,ev]) (by rw[zdx eu];exact hn) (fun k h=>?_);rw[zmd eu k h];exact hp k _
theorem zlb (va vb:Value) (ps:List St) (w:World) (ha:RdS w va ps) (hb:RdS w vb ps) (hn:ps.length≤2147483648) :
  Calls Tryz.prog 160 #[va,vb] w fun e w'=>e=.returned (.bool true)∧Below w.heap.size w w':=by
 obtain ⟨ao,cap,rfl,hcap,hc⟩:=ha.shape;obtain ⟨ao2,cap2,rfl,hcap2,hc2⟩:=hb.shape;clear ha hb;go_enter Tryz.func160,Tryz.ntmps160;go_wp2
 go_loopw [5] (fun i wr=>∃ k:Nat,k≤ps.length∧i=.int .i64 k∧Below w.heap.size w wr) (fun i _=>ps.length - (intOf i).toNat)
 case atStart=>exact ⟨0,by omega,rfl,Below.refl _ _⟩
 case round =>
  obtain ⟨k,hk,rfl,hbw⟩:=hrel
  by_cases hlt:k < ps.length
  ·obtain ⟨b,o,rfl,hbl,hcell⟩:=hc (by omega);obtain ⟨b2,o2,rfl,hbl2,hcell2⟩:=hc2 (by omega);obtain ⟨c0,c1,c2⟩:=hcell k hlt;obtain ⟨c3,c4,c5⟩:=hcell2 k hlt;have d0:=(hbw.cell (p:=⟨b,o+k*3,none⟩) hbl).trans c0;have d1:=(hbw.cell (p:=⟨b,o+k*3+1,none⟩) hbl).trans c1;have d2:=(hbw.cell (p:=⟨b,o+k*3+2,none⟩) hbl).trans c2;have d3:=(hbw.cell (p:=⟨b2,o2+k*3,none⟩) hbl2).trans c3;have d4:=(hbw.cell (p:=⟨b2,o2+k*3+1,none⟩) hbl2).trans c4;have d5:=(hbw.cell (p:=⟨b2,o2+k*3+2,none⟩) hbl2).trans c5
   have hlt':(k:Int) < (ps.length:Int):=by omega
   have hge:(0:Int)≤(k:Int):=by omega
   have hz:=hbw.size;clear hcell hcell2 hc hc2 c0 c1 c2 c3 c4 c5;go_wp2_with fail
   go_region_with (go_at_call 198;refine (znh _ _ _ _).mono ?_;rintro e w1 ⟨rfl,hb1⟩)
   all_goals
    go_wp2
    go_roundw
    case rel=>exact ⟨k+1,by omega,by go_num,hbw.trans (Below.mono (Below.trans ((Below.refl _ _).drew) ‹_›) hz)⟩
    case measure=>simp[intOf];omega
  ·go_wp2;go_ret;exact ⟨rfl,hbw⟩
def yabb (k:Int) (i:Nat):St:=⟨k+3*(i:Int),k+3*(i:Int)+1,(k+3*(i:Int)+1+1) % 3 == 0⟩
def zgk (k:Int) (n:Nat):List St:=(List.range n).map (yabb k)
theorem zea (k:Int) (n:Nat):(zgk k n).length=n:=by simp[zgk]
theorem zvw (k:Int) (n i:Nat) (h:i < (zgk k n).length):(zgk k n)[i]=yabb k i:=by simp[zgk]
theorem ziy (v:Value) (n:Nat) (k0:Int) (w:World) (h:RdS w v (zgk k0 n)) (hn:n≤2147483648) (h0:0≤k0) (h1:k0≤1099511627776) :
  Calls Tryz.prog 164 #[v,.int .i64 k0] w fun e w'=>e=.returned (.int .i64 (k0+3*n))∧w'=w:=by
 obtain ⟨ao,cap,rfl,hcap,hc⟩:=h.shape;simp only[zea] at hcap hc ⊢;clear h;go_enter Tryz.func164,Tryz.ntmps164;go_wp2
 go_loop [1,5] (fun c i=>∃ k:Nat,k≤n∧i=.int .i64 k∧c=.int .i64 (k0+3*k)) (fun _ i=>n - (intOf i).toNat)
 case atStart=>exact ⟨0,by omega,rfl,by simp⟩
 case round =>
  obtain ⟨k,hk,rfl,rfl⟩:=hrel
  by_cases hlt:k < n
  ·obtain ⟨b,o,rfl,hbl,hcell⟩:=hc (by omega);obtain ⟨c0,c1,c2⟩:=hcell k hlt;rw[zvw] at c0 c1 c2;simp only[yabb] at c0 c1 c2;clear hcell hc;go_wp2
   go_round
   case rel=>exact ⟨k+1,by omega,by go_num,by go_num⟩
   case measure=>simp[intOf];omega
  ·have e:k=n:=by omega
   subst e;go_wp2;go_ret;exact ⟨rfl,rfl⟩
end Go.Proofs.YtbohndgbfbfldaaGreatDoor
