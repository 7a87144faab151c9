/- Several texts laid together: AnA, AoB, StoreT. -/
import Derived.Test.YtbohndgbfbfldaaGreatDoorZAK
import Derived.Deep.RegionWith
import Derived.Test.YtbohndgbfbfldaaGreatDoorZAC
set_option maxRecDepth 100000
set_option maxHeartbeats 4000000
namespace Go.Proofs.YtbohndgbfbfldaaGreatDoor
open Go.RowKit
theorem zfm (c v:Int) (va vb:Value) (ss:List ByteArray) (w:World) (ha:RdT w va ss) (hb:RdT w vb ss) (hn:ss.length≤2147483648) :
  Calls Tryz.prog 49 #[.agg #[.int .i64 c,.int .i64 v,va],.agg #[.int .i64 c,.int .i64 v,vb]] w fun e w'=>e=.returned (.bool true)∧Below w.heap.size w w':=by
 have LE:=zaa (fun w1 (h:Below w.heap.size w w1)=>ziv va vb ss w1 (Rd.below ha h) (Rd.below hb h) hn);obtain ⟨-,aa,ca,rfl,-⟩:=ha;obtain ⟨-,ab,cb,rfl,-⟩:=hb;have BW:Hid (Below w.heap.size w ((w.alloc (.cells #[.int .i64 c,.int .i64 v,.slice aa ss.length ca] 34)).alloc (.cells #[.int .i64 c,.int .i64 v,.slice ab ss.length cb] 34))):=((Below.refl _ _).alloc (Nat.le_refl _) _).alloc (by simp) _;go_enter Tryz.func49,Tryz.ntmps49;go_wp2_with fail;refine (LE.o _ BW.o).mono ?_;rintro e w1 ⟨rfl,hb1⟩;have B1:=zaa (zab BW.o hb1 BW.o.size);clear hb1;go_wp2;go_ret;exact ⟨rfl,B1.o⟩
theorem ziy (c v:Int) (vN:Value) (ss:List ByteArray) (k0:Int) (lo hi:Nat) (w:World) (h:Row w 9 1 lo hi vN ss.length (zoi ss)) (hz:hi≤w.heap.size) (hn:ss.length≤16777216) (h0:0≤k0) (h1:k0≤1099511627776) :
  Calls Tryz.prog 55 #[.agg #[.int .i64 c,.int .i64 v,vN],.int .i64 k0] w fun e w'=>e=.returned (.int .i64 (k0+ss.length))∧Row w' 9 1 lo hi vN ss.length (zoi (zcb k0 ss.length))∧∃ wa,Below w.heap.size w wa∧hi≤wa.heap.size∧wa.grownBy w' vN.ownBlock:=by
 obtain ⟨-,aa,ca,rfl,-⟩:=h.rd;have BW:Hid (Below w.heap.size w (w.alloc (.cells #[.int .i64 c,.int .i64 v,.slice aa ss.length ca] 34))):=(Below.refl _ _).alloc (Nat.le_refl _) _;have LM:=zaa (zhi (.slice aa ss.length ca) ss k0 lo hi (w.alloc (.cells #[.int .i64 c,.int .i64 v,.slice aa ss.length ca] 34)) (h.below BW.o hz) (Nat.le_trans hz BW.o.size) hn h0 h1);have hz2:hi≤(w.alloc (.cells #[.int .i64 c,.int .i64 v,.slice aa ss.length ca] 34)).heap.size:=Nat.le_trans hz BW.o.size;have Z2:=zaa hz2;clear h hz hz2;go_enter Tryz.func55,Tryz.ntmps55;go_wp2_with fail;refine LM.o.mono ?_;rintro e w1 ⟨rfl,hr1,hg1,-⟩;have R1:=zaa hr1;have G1:=zaa hg1;clear hr1 hg1 LM;go_wp2;go_ret;exact ⟨rfl,R1.o,_,BW.o,Z2.o,G1.o⟩
theorem zjh (c v:Int) (vN:Value) (n:Nat) (k0:Int) (w:World) (h:RdT w vN (zcb k0 n)) (hn:n≤16777216) (h0:0≤k0) (h1:k0≤1099511627776) :
  Calls Tryz.prog 62 #[.agg #[.int .i64 c,.int .i64 v,vN],.int .i64 k0] w fun e w'=>e=.returned (.int .i64 (k0+n))∧Below w.heap.size w w':=by
 have LH:=zaa (fun w1 (hb:Below w.heap.size w w1)=>zhk vN n k0 w1 (Rd.below h hb) hn h0 h1);obtain ⟨-,aa,ca,e,-⟩:=h;rw[zbd] at e;subst e;have BW:Hid (Below w.heap.size w (w.alloc (.cells #[.int .i64 c,.int .i64 v,.slice aa n ca] 34))):=(Below.refl _ _).alloc (Nat.le_refl _) _
 have q:¬ k0+(n:Int) < 0:=by omega
 go_enter Tryz.func62,Tryz.ntmps62;go_wp2_with fail;refine (LH.o _ BW.o).mono ?_;rintro e w1 ⟨rfl,hb1⟩;have B1:=zaa (zab BW.o hb1 BW.o.size);clear hb1;go_wp2;go_ret;exact ⟨rfl,B1.o⟩
theorem zja (va vb:Value) (us vs:List (Aw×Value)) (w:World) (ha:RdAu w va us) (hb:RdAu w vb vs) (he:us.map Prod.fst=vs.map Prod.fst) (hn:us.length≤2147483648) (hp:∀ k (h:k < us.length),us[k].1.names.length≤2147483648) :
  Calls Tryz.prog 20 #[va,vb] w fun e w'=>e=.returned (.bool true)∧Below w.heap.size w w':=by
 have HA:=zaa ha;have HB:=zaa hb
 have el:us.length=vs.length:=by have:=congrArg List.length he;simpa using this
 have EL:=zaa el
 have EA:Hid (∀ k (h:k < us.length),us[k].1=(vs[k]'(Nat.lt_of_lt_of_eq h EL.o)).1):=fun k h=>by
  have:=congrArg (fun l=>l[k]?) he;simpa[h,show k < vs.length by omega] using this
 obtain ⟨ao,cap,rfl,hcap,hc⟩:=ha.shape;obtain ⟨ao2,cap2,rfl,hcap2,hc2⟩:=hb.shape;rw[← el];have HP:=zaa hp;clear ha hb he hp el;go_enter Tryz.func20,Tryz.ntmps20;go_wp2
 go_loopw [5] (fun i wr=>∃ k:Nat,k≤us.length∧i=.int .i64 k∧Below w.heap.size w wr) (fun i _=>us.length - (intOf i).toNat)
 case atStart=>exact ⟨0,by omega,rfl,Below.refl _ _⟩
 case round =>
  obtain ⟨k,hk,rfl,hbw⟩:=hrel
  by_cases hlt:k < us.length
  ·obtain ⟨b,o,rfl,hbl,hcell⟩:=hc (by omega);obtain ⟨b2,o2,rfl,hbl2,hcell2⟩:=hc2 (by have:=EL.o;omega);obtain ⟨c0,c1,c2⟩:=hcell k hlt;obtain ⟨c3,c4,c5⟩:=hcell2 k (Nat.lt_of_lt_of_eq hlt EL.o);rw[← EA.o k hlt] at c3 c4;have d0:=(hbw.cell (p:=⟨b,o+k*3,none⟩) hbl).trans c0;have d1:=(hbw.cell (p:=⟨b,o+k*3+1,none⟩) hbl).trans c1;have d2:=(hbw.cell (p:=⟨b,o+k*3+2,none⟩) hbl).trans c2;have d3:=(hbw.cell (p:=⟨b2,o2+k*3,none⟩) hbl2).trans c3;have d4:=(hbw.cell (p:=⟨b2,o2+k*3+1,none⟩) hbl2).trans c4;have d5:=(hbw.cell (p:=⟨b2,o2+k*3+2,none⟩) hbl2).trans c5
   have hlt':(k:Int) < (us.length:Int):=by omega
   have hge:(0:Int)≤(k:Int):=by omega
   have hz:=hbw.size;have BW:=zaa hbw;have R1:Hid (RdT w us[k].2 us[k].1.names):=HA.o.2 k hlt
   have R2:Hid (RdT w (vs[k]'(Nat.lt_of_lt_of_eq hlt EL.o)).2 us[k].1.names):=by
    have:=HB.o.2 k (Nat.lt_of_lt_of_eq hlt EL.o);rw[← EA.o k hlt] at this;exact this
   have hpk:=HP.o k hlt;obtain ⟨x1,y1,e1,-⟩:=R1.o.shape;obtain ⟨x2,y2,e2,-⟩:=R2.o.shape;rw[e1] at d2 R1;rw[e2] at d5 R2;clear hcell hcell2 hc hc2 c0 c1 c2 c3 c4 c5 hbw e1 e2 EA HA HB HP;generalize us[k].1.names=zs at *;generalize us[k].1.code=q1 at *;generalize us[k].1.val=q2 at *;go_wp2_with fail
   go_region_with (go_at_call 49;refine (zfm _ _ _ _ zs _ (Rd.below R1.o (by first | exact BW.o | exact BW.o.drew)) (Rd.below R2.o (by first | exact BW.o | exact BW.o.drew)) hpk).mono ?_;rintro e w1 ⟨rfl,hb1⟩)
   all_goals
    go_wp2
    go_roundw
    case rel=>exact ⟨k+1,by omega,by go_num,BW.o.trans (Below.mono (Below.trans ((Below.refl _ _).drew) ‹_›) hz)⟩
    case measure=>simp[intOf];omega
  ·go_wp2;go_ret;exact ⟨rfl,hbw⟩
theorem zjl (va vb:Value) (ts:List Aw) (w:World) (ha:RdAs w va ts) (hb:RdAs w vb ts) (hn:ts.length≤2147483648) (hp:∀ k (h:k < ts.length),ts[k].names.length≤2147483648) :
  Calls Tryz.prog 20 #[va,vb] w fun e w'=>e=.returned (.bool true)∧Below w.heap.size w w':=by
 obtain ⟨us,eu,ru⟩:=ha;obtain ⟨vs,ev,rv⟩:=hb;refine zja va vb us vs w ru rv (by rw[eu,ev]) (by rw[zkb eu];exact hn) (fun k h=>?_);rw[zvu eu k h];exact hp k _
theorem zlb (va vb:Value) (ps:List St) (w:World) (ha:RdS w va ps) (hb:RdS w vb ps) (hn:ps.length≤2147483648) :
  Calls Tryz.prog 160 #[va,vb] w fun e w'=>e=.returned (.bool true)∧Below w.heap.size w w':=by
 obtain ⟨ao,cap,rfl,hcap,hc⟩:=ha.shape;obtain ⟨ao2,cap2,rfl,hcap2,hc2⟩:=hb.shape;clear ha hb;go_enter Tryz.func160,Tryz.ntmps160;go_wp2
 go_loopw [5] (fun i wr=>∃ k:Nat,k≤ps.length∧i=.int .i64 k∧Below w.heap.size w wr) (fun i _=>ps.length - (intOf i).toNat)
 case atStart=>exact ⟨0,by omega,rfl,Below.refl _ _⟩
 case round =>
  obtain ⟨k,hk,rfl,hbw⟩:=hrel
  by_cases hlt:k < ps.length
  ·obtain ⟨b,o,rfl,hbl,hcell⟩:=hc (by omega);obtain ⟨b2,o2,rfl,hbl2,hcell2⟩:=hc2 (by omega);obtain ⟨c0,c1,c2⟩:=hcell k hlt;obtain ⟨c3,c4,c5⟩:=hcell2 k hlt;have d0:=(hbw.cell (p:=⟨b,o+k*3,none⟩) hbl).trans c0;have d1:=(hbw.cell (p:=⟨b,o+k*3+1,none⟩) hbl).trans c1;have d2:=(hbw.cell (p:=⟨b,o+k*3+2,none⟩) hbl).trans c2;have d3:=(hbw.cell (p:=⟨b2,o2+k*3,none⟩) hbl2).trans c3;have d4:=(hbw.cell (p:=⟨b2,o2+k*3+1,none⟩) hbl2).trans c4;have d5:=(hbw.cell (p:=⟨b2,o2+k*3+2,none⟩) hbl2).trans c5
   have hlt':(k:Int) < (ps.length:Int):=by omega
   have hge:(0:Int)≤(k:Int):=by omega
   have hz:=hbw.size;clear hcell hcell2 hc hc2 c0 c1 c2 c3 c4 c5;go_wp2_with fail
   go_region_with (go_at_call 198;refine (zmk _ _ _ _).mono ?_;rintro e w1 ⟨rfl,hb1⟩)
   all_goals
    go_wp2
    go_roundw
    case rel=>exact ⟨k+1,by omega,by go_num,hbw.trans (Below.mono (Below.trans ((Below.refl _ _).drew) ‹_›) hz)⟩
    case measure=>simp[intOf];omega
  ·go_wp2;go_ret;exact ⟨rfl,hbw⟩
def yacb (k:Int) (i:Nat):St:=⟨k+3*(i:Int),k+3*(i:Int)+1,(k+3*(i:Int)+1+1) % 3 == 0⟩
def zca (k:Int) (n:Nat):List St:=(List.range n).map (yacb k)
theorem zav (k:Int) (n:Nat):(zca k n).length=n:=by simp[zca]
theorem znm (k:Int) (n i:Nat) (h:i < (zca k n).length):(zca k n)[i]=yacb k i:=by simp[zca]
def IsSts (xs:List Value) (n:Nat):Prop:=∀ k,k < n→∃ a b c,xs[k*3]?=some (.int .i64 a)∧xs[k*3+1]?=some (.int .i64 b)∧xs[k*3+2]?=some (.bool c)
theorem yafk (ps:List St):IsSts (sts ps) ps.length:=fun k hk=>⟨_,_,_,zpu ps k hk,zpx ps k hk,zou ps k hk⟩
theorem IsSts.put3 {ys:List Value} {n:Nat} (h:IsSts ys n) (hl:ys.length=n*3) (k:Nat) (a b:Int) (c:Bool):IsSts (put3 ys k (.int .i64 a) (.int .i64 b) (.bool c)) n:=by
 intro j hj;rw[zdn (by omega),zdn (by omega),zdn (by omega)]
 by_cases e:j=k
 ·subst e;exact ⟨a,b,c,by simp,by simp,by simp⟩
 ·obtain ⟨x,y,z,h0,h1,h2⟩:=h j hj;refine ⟨x,y,z,?_,?_,?_⟩
  ·rw[if_neg (by omega),if_neg (by omega),if_neg (by omega)];exact h0
  ·rw[if_neg (by omega),if_neg (by omega),if_neg (by omega)];exact h1
  ·rw[if_neg (by omega),if_neg (by omega),if_neg (by omega)];exact h2
theorem zjo (v:Value) (n:Nat) (xs:List Value) (k0:Int) (lo hi:Nat) (w:World) (h:Row w 207 3 lo hi v n xs) (hx:IsSts xs n) (hn:n≤2147483648) (h0:0≤k0) (h1:k0≤1099511627776) :
  Calls Tryz.prog 162 #[v,.int .i64 k0] w fun e w'=>e=.returned (.int .i64 (k0+3*n))∧Row w' 207 3 lo hi v n (sts (zca k0 n))∧w.grownBy w' v.ownBlock∧w'.heap.size=w.heap.size:=by
 obtain ⟨hlen,ao,cap,rfl,hcap,hc⟩:=h.rd;go_enter Tryz.func162,Tryz.ntmps162;go_wp2
 go_loopw [1,5] (fun c i wr=>∃ k:Nat,k≤n∧i=.int .i64 k∧c=.int .i64 (k0+3*k)∧(∃ ys:List Value,Row wr 207 3 lo hi (.slice ao n cap) n ys∧IsSts ys n∧∀ j,j < k*3→ys[j]?=(sts (zca k0 n))[j]?)∧w.grownBy wr (Value.slice ao n cap).ownBlock∧wr.heap.size=w.heap.size) (fun _ i _=>n - (intOf i).toNat)
 case atStart=>exact ⟨0,by omega,rfl,by simp,⟨xs,h,hx,fun j hj=>absurd hj (by omega)⟩,World.grownBy.refl _ _,rfl⟩
 case round =>
  obtain ⟨k,hk,rfl,rfl,⟨ys,hrow,hys,hd⟩,hout,hz⟩:=hrel;clear h hx hc hlen
  by_cases hlt:k < n
  ·obtain ⟨hlen,ao',cap',e',_,hc⟩:=hrow.rd
   cases e'
   obtain ⟨b,o,rfl,hbl,_⟩:=hc (by omega)
   obtain ⟨rfl,hb1,hb2,_,hfr,hcl⟩:=hrow.at
   obtain ⟨x,y,z,q0,q1,q2⟩:=hys k hlt;have f0:=hfr (k*3);have f1:=hfr (k*3+1);have f2:=hfr (k*3+2);have e0:=(hcl (k*3) (by omega)).trans q0;have e1:=(hcl (k*3+1) (by omega)).trans q1;have e2:=(hcl (k*3+2) (by omega)).trans q2;have PH:=zaa (hrow.put3 k (.int .i64 (k0+3*k)) (.int .i64 (k0+3*k+1)) (.bool ((k0+3*k+1+1) % 3 == 0)));have OH:=zaa (zat (zat (zat hout (a:=⟨b,k*3,none⟩) rfl (.int .i64 (k0+3*k))) (a:=⟨b,k*3+1,none⟩) rfl (.int .i64 (k0+3*k+1))) (a:=⟨b,k*3+2,none⟩) rfl (.bool ((k0+3*k+1+1) % 3 == 0)));have IH:=zaa (hys.put3 hlen k (k0+3*k) (k0+3*k+1) ((k0+3*k+1+1) % 3 == 0))
   have DH:Hid (∀ j,j < (k+1)*3→(put3 ys k (.int .i64 (k0+3*k)) (.int .i64 (k0+3*k+1)) (.bool ((k0+3*k+1+1) % 3 == 0)))[j]?=(sts (zca k0 n))[j]?):=by
    have hk':k < (zca k0 n).length:=by rw[zav];exact hlt
    have:=zmf (ps:=zca k0 n) hk' (by rw[zav];exact hlen) hd;rw[znm] at this;exact this
   clear hrow hys hd hc hfr hcl q0 q1 q2;go_wp2
   go_roundw
   case rel=>exact ⟨k+1,by omega,by go_num,by go_num,⟨_,PH.o,IH.o,DH.o⟩,OH.o,by simp[hz]⟩
   case measure=>simp[intOf];omega
  ·have e:k=n:=by omega
   subst e;have hl:=hrow.len;have RH:=zaa hrow;have DH:=zaa hd;clear hrow hys hd;go_wp2;go_ret;have e:=ztd (ps:=zca k0 k) (by rw[zav];exact hl) (by rw[zav];exact DH.o);exact ⟨rfl,e ▸ RH.o,hout,hz⟩
theorem zjp (v:Value) (n:Nat) (k0:Int) (w:World) (h:RdS w v (zca k0 n)) (hn:n≤2147483648) (h0:0≤k0) (h1:k0≤1099511627776) :
  Calls Tryz.prog 164 #[v,.int .i64 k0] w fun e w'=>e=.returned (.int .i64 (k0+3*n))∧w'=w:=by
 obtain ⟨ao,cap,rfl,hcap,hc⟩:=h.shape;simp only[zav] at hcap hc ⊢;clear h;go_enter Tryz.func164,Tryz.ntmps164;go_wp2
 go_loop [1,5] (fun c i=>∃ k:Nat,k≤n∧i=.int .i64 k∧c=.int .i64 (k0+3*k)) (fun _ i=>n - (intOf i).toNat)
 case atStart=>exact ⟨0,by omega,rfl,by simp⟩
 case round =>
  obtain ⟨k,hk,rfl,rfl⟩:=hrel
  by_cases hlt:k < n
  ·obtain ⟨b,o,rfl,hbl,hcell⟩:=hc (by omega);obtain ⟨c0,c1,c2⟩:=hcell k hlt;rw[znm] at c0 c1 c2;simp only[yacb] at c0 c1 c2;clear hcell hc;go_wp2
   go_round
   case rel=>exact ⟨k+1,by omega,by go_num,by go_num⟩
   case measure=>simp[intOf];omega
  ·have e:k=n:=by omega
   subst e;go_wp2;go_ret;exact ⟨rfl,rfl⟩
end Go.Proofs.YtbohndgbfbfldaaGreatDoor
