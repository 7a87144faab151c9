/- Several texts laid together: PiI, StA, AoA. -/
import Derived.Test.YtbohndgbfbfldaaGreatDoorZAJ
import Derived.Test.YtbohndgbfbfldaaGreatDoorZAD
import Derived.Test.YtbohndgbfbfldaaGreatDoorZAG
import Derived.Deep.DeepCutAuto
import Derived.Deep.RegionWith
import Derived.Deep.RegionHeld3
import Derived.Lib.Strings
import Derived.Test.YtbohndgbfbfldaaGreatDoorZAC
set_option maxRecDepth 100000
set_option maxHeartbeats 4000000
namespace Go.Proofs.YtbohndgbfbfldaaGreatDoor
open Go.RowKit
theorem yaaq (w1:World) (x:Den):Rd (w1.alloc (.cells #[.int .i64 x.dir,.string x.name,.int .i64 x.child] 143)) 3 (.slice (some ⟨w1.heap.size,0,none⟩) 1 1) 1 (zbm [x]):=by
 refine ⟨rfl,_,_,rfl,⟨Nat.le_refl _,fun e=>by cases e⟩,fun _=>⟨w1.heap.size,0,rfl,by simp,fun j hj=>?_⟩⟩;obtain ⟨e0,e1,e2⟩:=zby (zae (w:=w1) (o:=.cells #[.int .i64 x.dir,.string x.name,.int .i64 x.child] 143) rfl)
 rcases (show j=0∨j=1∨j=2 by omega) with rfl | rfl | rfl
 ·exact e0
 ·exact e1
 ·exact e2
theorem ziu (l:List Den):∀ u∈zbm l,u.oneCell'=true:=by
 intro u hu;simp only[zbm,List.mem_flatMap] at hu;obtain ⟨m,_,hm⟩:=hu;simp[Den.cells] at hm
 rcases hm with rfl | rfl | rfl <;> rfl
theorem zfi (l l':List Den):zbm (l ++ l')=zbm l ++ zbm l':=by simp[zbm]
structure DnI (W w:World) (vL:Value) (ds:List Den):Prop where
 l:w.ownsRow W.heap.size 143 3 vL ds.length (zbm ds)
 b:Below W.heap.size W w
theorem DnI.z {W w:World} {vL:Value} {ds:List Den} (h:DnI W w vL ds):W.heap.size≤w.heap.size:=h.b.size
theorem DnI.below {W w w':World} {vL:Value} {ds:List Den} (h:DnI W w vL ds) (hb:Below w.heap.size w w'):DnI W w' vL ds :=
 ⟨((zai h.l).below hb (Nat.le_refl _)).1,zab h.b hb h.z⟩
theorem DnI.grow {W w w':World} {vL v':Value} {ds:List Den} (h:DnI W w vL ds) (ms:List Den) (ho:w'.ownsRow W.heap.size 143 3 v' (ds.length+ms.length) (zbm ds ++ zbm ms)) (hg:w.grownBy w' vL.ownBlock):DnI W w' v' (ds ++ ms) :=
 ⟨by rw[zfi,List.length_append];exact ho,h.b.grown hg h.z (fun q hq=>(h.l.lt q hq).1)⟩
def zak (ps:List Den):List Den:=ps.filter fun x=>!x.freeB
theorem zrn {ps:List Den} {k:Nat} (h:k < ps.length):zak (ps.take (k+1))=if ps[k].freeB=true then zak (ps.take k) else zak (ps.take k) ++ [ps[k]]:=by
 unfold zak;rw[List.take_succ_eq_append_getElem h,List.filter_append]
 cases hf:ps[k].freeB <;> simp[hf]
theorem zne (ps:List Den):(zak ps).length≤ps.length:=List.length_filter_le _ _
theorem zgu (v:Value) (ps:List Den) (w:World) (h:RdD w v ps) (hn:ps.length≤4096) (hF:FD w) :
  Calls Tryz.prog 144 #[v] w fun e w'=>∃ v',e=.returned v'∧Row w' 143 3 w.heap.size w'.heap.size v' (zak ps).length (zbm (zak ps))∧Below w.heap.size w w':=by
 obtain ⟨aP,cP,rfl,_,hcP⟩:=h.shape;have HP:=zaa hcP;have F:=zaa hF;clear h hcP hF;go_enter Tryz.func144,Tryz.ntmps144;go_wp2
 go_loopw [3,5,8] (fun vL _ i wr=>∃ k:Nat,k≤ps.length∧i=.int .i64 k∧Hid (DnI w wr vL (zak (ps.take k)))∧w.heap.size≤wr.heap.size) (fun _ _ i _=>ps.length - (intOf i).toNat)
 case atStart=>exact ⟨0,by omega,rfl,⟨World.ownsRow_nil _ _ _ _,Below.refl _ _⟩,Nat.le_refl _⟩
 case round =>
  obtain ⟨k,hk,rfl,I,hz⟩:=hrel
  by_cases hlt:k < ps.length
  ·obtain ⟨b,o,rfl,hbl,hcell⟩:=HP.o (by omega);obtain ⟨a0,a1,a2⟩:=hcell k hlt;have d0:=(I.o.b.cell (p:=⟨b,o+k*3,none⟩) hbl).trans a0;have d1:=(I.o.b.cell (p:=⟨b,o+k*3+1,none⟩) hbl).trans a1;have d2:=(I.o.b.cell (p:=⟨b,o+k*3+2,none⟩) hbl).trans a2
   have k0:(0:Int)≤(k:Int):=by omega
   have k1:(k:Int) < (ps.length:Int):=by omega
   have TS:=zaa (zrn hlt);have TL:=zne (ps.take k);rw[List.length_take] at TL;have DF:=zql ps[k];clear a0 a1 a2 hcell;generalize ps[k]=x at *;have IB:Hid (DnI w (wr.alloc (.cells #[.int .i64 x.dir,.string x.name,.int .i64 x.child] 143)) u3 (zak (ps.take k))):=I.o.below ((Below.refl _ _).alloc (Nat.le_refl _) _);obtain ⟨f0,f1,f2⟩:=FD.cells (F.o.below IB.o.b);have hzb:=IB.o.z
   cases hf:x.freeB with
   | true =>
    have G:Hid (DnI w (wr.alloc (.cells #[.int .i64 x.dir,.string x.name,.int .i64 x.child] 143)) u3 (zak (ps.take (k+1)))):=by unfold Hid;rw[TS.o,if_pos hf];exact IB.o
    rw[hf] at DF;clear IB I TS hf TL;go_wp2
    go_roundw
    case rel=>exact ⟨k+1,by omega,by go_num,G,hzb⟩
    case measure=>simp[intOf];omega
   | false =>
    have IC:Hid (DnI w ((wr.alloc (.cells #[.int .i64 x.dir,.string x.name,.int .i64 x.child] 143)).alloc (.cells #[.int .i64 x.dir,.string x.name,.int .i64 x.child] 143)) u3 (zak (ps.take k))):=IB.o.below ((Below.refl _ _).alloc (Nat.le_refl _) _);have RC:=zaa (yaaq (wr.alloc (.cells #[.int .i64 x.dir,.string x.name,.int .i64 x.child] 143)) x);have hzc:=IC.o.z
    have TN:Hid (zak (ps.take (k+1))=zak (ps.take k) ++ [x]):=by unfold Hid;rw[TS.o,if_neg (by rw[hf];decide)]
    rw[hf] at DF;rw[World.size_alloc] at RC;clear IB I TS hf;go_wp2_with (at_builtin;refine zaq _ rfl (.tmp 15) (.tmp 17) 38 rfl w.heap.size 143 (.agg #[.int .i64 0,.string ⟨#[]⟩,.int .i64 0]) 3 32 Tryz.underlying38 zla rfl (by decide) _ _ _ rfl IC.o.l _ 1 _ rfl RC.o (ziu _) (by simp[maxLen];omega) (by omega) (by omega) ?_);intro vN wN hownN hgrN;have G:=zaa (IC.o.grow [x] hownN hgrN);rw[← TN.o] at G;have hzN:=G.o.z;clear hownN hgrN IC RC;go_wp2
    go_roundw
    case rel=>exact ⟨k+1,by omega,by go_num,G,hzN⟩
    case measure=>simp[intOf];omega
  ·obtain rfl:k=ps.length:=by omega
   have E:=zaa (show zak (ps.take ps.length)=zak ps by rw[List.take_length]);rw[E.o] at I;obtain ⟨-,aL,cL,hvL,-⟩:=(zai I.o.l).rd;subst hvL;go_wp2;go_ret;exact ⟨_,rfl,zai I.o.l,I.o.b⟩
def zoi (ss:List ByteArray):List Value:=ss.map Value.string
theorem yaac (ss:List ByteArray):(zoi ss).length=ss.length:=by simp[zoi]
theorem ztx (ss:List ByteArray) (k:Nat) (h:k < ss.length):(zoi ss)[k]?=some (.string ss[k]):=by simp[zoi,h]
def RdT (w:World) (v:Value) (ss:List ByteArray):Prop:=Rd w 1 v ss.length (zoi ss)
theorem RdT.shape {w:World} {v:Value} {ss:List ByteArray} (h:RdT w v ss):∃ ao cap,v=.slice ao ss.length cap∧ss.length≤cap∧(0 < ss.length→∃ b o,ao=some ⟨b,o,none⟩∧b < w.heap.size∧∀ k (h:k < ss.length),w.cell? ⟨b,o+k,none⟩=some (.string ss[k])):=by
 obtain ⟨_,ao,cap,rfl,h2,h3⟩:=h;refine ⟨ao,cap,rfl,h2.1,fun hn=>?_⟩;obtain ⟨b,o,e,hb,hc⟩:=h3 hn;exact ⟨b,o,e,hb,fun k hk=>(hc k (by omega)).trans (ztx ss k hk)⟩
theorem zpz {B:Nat} {a w:World} (h:Below B a w) (n:Nat):Below B a (w.drewN n):=by
 induction n with
 | zero=>exact h
 | succ n ih=>exact ⟨ih.os,ih.tape,ih.output,ih.size,ih.block⟩
theorem ziv (va vb:Value) (ss:List ByteArray) (w:World) (ha:RdT w va ss) (hb:RdT w vb ss) (hn:ss.length≤2147483648) :
  Calls Tryz.prog 108 #[va,vb] w fun e w'=>e=.returned (.bool true)∧Below w.heap.size w w':=by
 obtain ⟨ao,cap,rfl,hcap,hc⟩:=ha.shape;obtain ⟨ao2,cap2,rfl,hcap2,hc2⟩:=hb.shape;clear ha hb;go_enter Tryz.func108,Tryz.ntmps108;go_wp2
 go_loopw [5] (fun i wr=>∃ k:Nat,k≤ss.length∧i=.int .i64 k∧Below w.heap.size w wr) (fun i _=>ss.length - (intOf i).toNat)
 case atStart=>exact ⟨0,by omega,rfl,Below.refl _ _⟩
 case round =>
  obtain ⟨k,hk,rfl,hbw⟩:=hrel
  by_cases hlt:k < ss.length
  ·obtain ⟨b,o,rfl,hbl,hcell⟩:=hc (by omega);obtain ⟨b2,o2,rfl,hbl2,hcell2⟩:=hc2 (by omega);have hck:wr.cell? ⟨b,o+k,none⟩=some (.string ss[k]):=(hbw.cell (p:=⟨b,o+k,none⟩) hbl).trans (hcell k hlt);have hck2:wr.cell? ⟨b2,o2+k,none⟩=some (.string ss[k]):=(hbw.cell (p:=⟨b2,o2+k,none⟩) hbl2).trans (hcell2 k hlt)
   have hlt':(k:Int) < (ss.length:Int):=by omega
   have hge:(0:Int)≤(k:Int):=by omega
   clear hcell hcell2 hc hc2;generalize ss[k]=x at hck hck2;go_wp2
   go_quiet (fail)
   go_wp2
   go_roundw
   case rel=>exact ⟨k+1,by omega,by go_num,zpz hbw _⟩
   case measure=>simp[intOf];omega
  ·go_wp2;go_ret;exact ⟨rfl,hbw⟩
def zcb (k:Int) (n:Nat):List ByteArray:=(List.range n).map fun i:Nat=>mtx (k+(i:Int)).toNat
theorem zbd (k:Int) (n:Nat):(zcb k n).length=n:=by simp[zcb]
theorem zve (k:Int) (n i:Nat) (h:i < (zcb k n).length):(zcb k n)[i]=mtx (k+(i:Int)).toNat:=by simp[zcb]
theorem zpp (k:Int) (n:Nat):zcb k (n+1)=zcb k n ++ [mtx (k+(n:Int)).toNat]:=by unfold zcb;rw[List.range_succ,List.map_append];rfl
def zgd (k0:Int) (k:Nat) (ss:List ByteArray):List ByteArray:=zcb k0 k ++ ss.drop k
theorem zud {k0:Int} {k:Nat} {ss:List ByteArray} (h:k≤ss.length):(zgd k0 k ss).length=ss.length:=by unfold zgd;rw[List.length_append,zbd,List.length_drop];omega
theorem zrw {k0:Int} {ss:List ByteArray} {k:Nat} (h:k < ss.length):(zoi (zgd k0 k ss)).set k (.string (mtx (k0+(k:Int)).toNat))=zoi (zgd k0 (k+1) ss):=by
 have l1:(zoi (zcb k0 k)).length=k:=by rw[yaac,zbd]
 unfold zgd;rw[List.drop_eq_getElem_cons h,zpp];unfold zoi at *;rw[List.map_append,List.map_append,List.map_append,List.set_append_right _ _ (by omega),l1,Nat.sub_self,List.append_assoc];rfl
theorem zhi (v:Value) (ss:List ByteArray) (k0:Int) (lo hi:Nat) (w:World) (h:Row w 9 1 lo hi v ss.length (zoi ss)) (hz:hi≤w.heap.size) (hn:ss.length≤16777216) (h0:0≤k0) (h1:k0≤1099511627776) :
  Calls Tryz.prog 58 #[v,.int .i64 k0] w fun e w'=>e=.returned (.int .i64 (k0+ss.length))∧Row w' 9 1 lo hi v ss.length (zoi (zcb k0 ss.length))∧w.grownBy w' v.ownBlock∧True:=by
 obtain ⟨_,ao,cap,rfl,hcap,hc⟩:=h.rd;go_enter Tryz.func58,Tryz.ntmps58;go_wp2
 go_loopw [1,5] (fun c i wr=>∃ k:Nat,k≤ss.length∧i=.int .i64 k∧c=.int .i64 (k0+k)∧Hid (Row wr 9 1 lo hi (.slice ao ss.length cap) ss.length (zoi (zgd k0 k ss))∧w.grownBy wr (Value.slice ao ss.length cap).ownBlock)∧w.heap.size≤wr.heap.size) (fun _ i _=>ss.length - (intOf i).toNat)
 case atStart=>exact ⟨0,by omega,rfl,by simp,⟨by rw[show zgd k0 0 ss=ss by simp[zgd,zcb]];exact h,World.grownBy.refl _ _⟩,Nat.le_refl _⟩
 case round =>
  obtain ⟨k,hk,rfl,rfl,I,hzr⟩:=hrel;clear h hc
  have k0':(0:Int)≤(k:Int):=by omega
  by_cases hlt:k < ss.length
  ·have k1:(k:Int) < (ss.length:Int):=by omega
   have MS:=zaa (zrw (k0:=k0) hlt);have ML:=zud (k0:=k0) hk;have LM:=zaa (fun w1=>zdb (k0+(k:Int)).toNat w1 (by omega));rw[show (((k0+(k:Int)).toNat:Nat):Int)=k0+(k:Int) by omega] at LM;generalize mtx (k0+(k:Int)).toNat=tx at *;go_wp2_with fail;refine (LM.o _).mono ?_;rintro e w2 ⟨rfl,hb⟩;have R2:=zaa (I.o.1.below hb (by omega));have G2:=zaa (zez I.o.2 (zhe (row:=(Value.slice ao ss.length cap).ownBlock) hb));have hz2:wr.heap.size≤w2.heap.size:=hb.size;clear I hb LM;obtain ⟨_,ao',cap',e',_,hc⟩:=R2.o.rd
   cases e'
   obtain ⟨b,o,rfl,hbl,_⟩:=hc (by omega)
   obtain ⟨rfl,hb1,hb2,_,hfr,hcl⟩:=R2.o.at
   have f0:=hfr k;have e0:=(hcl k (by omega)).trans (ztx (zgd k0 k ss) k (by omega))
   have R3:Hid (Row (w2.setCell ⟨b,k,none⟩ (.string tx)) 9 1 lo hi (.slice (some ⟨b,0,none⟩) ss.length cap) ss.length (zoi (zgd k0 (k+1) ss))∧w.grownBy (w2.setCell ⟨b,k,none⟩ (.string tx)) (Value.slice (some ⟨b,0,none⟩) ss.length cap).ownBlock):=by
    refine ⟨?_,zat G2.o (a:=⟨b,k,none⟩) rfl _⟩;rw[← MS.o];exact R2.o.stored _ _
   generalize (zgd k0 k ss)[k]'(by omega)=y at e0;clear R2 G2 hc hfr hcl;go_wp2
   go_roundw
   case rel=>exact ⟨k+1,by omega,by go_num,by go_num,R3,by simp;omega⟩
   case measure=>simp[intOf];omega
  ·obtain rfl:k=ss.length:=by omega
   have E:=zaa (show zgd k0 ss.length ss=zcb k0 ss.length by simp[zgd]);go_wp2;go_ret;exact ⟨rfl,by have:=I.o.1;rw[E.o] at this;exact this,I.o.2,trivial⟩
theorem zhk (v:Value) (n:Nat) (k0:Int) (w:World) (h:RdT w v (zcb k0 n)) (hn:n≤16777216) (h0:0≤k0) (h1:k0≤1099511627776) :
  Calls Tryz.prog 65 #[v,.int .i64 k0] w fun e w'=>e=.returned (.int .i64 (k0+n))∧Below w.heap.size w w':=by
 obtain ⟨ao,cap,hv,hcap,hc⟩:=h.shape;rw[zbd] at hv hcap;subst hv;have HC:=zaa hc;clear h hc;go_enter Tryz.func65,Tryz.ntmps65;go_wp2
 go_loopw [1,5] (fun c i wr=>∃ k:Nat,k≤n∧i=.int .i64 k∧c=.int .i64 (k0+k)∧Hid (Below w.heap.size w wr)) (fun _ i _=>n - (intOf i).toNat)
 case atStart=>exact ⟨0,by omega,rfl,by simp,Below.refl _ _⟩
 case round =>
  obtain ⟨k,hk,rfl,rfl,B⟩:=hrel
  have k0':(0:Int)≤(k:Int):=by omega
  by_cases hlt:k < n
  ·obtain ⟨b,o,rfl,hbl,hcell⟩:=HC.o (by rw[zbd];omega)
   have k1:(k:Int) < (n:Int):=by omega
   have c0:=hcell k (by rw[zbd];exact hlt);rw[zve] at c0;have LM:=zaa (fun w1=>zdb (k0+(k:Int)).toNat w1 (by omega));rw[show (((k0+(k:Int)).toNat:Nat):Int)=k0+(k:Int) by omega] at LM;generalize mtx (k0+(k:Int)).toNat=tx at *
   have hblr:b < wr.heap.size:=by have:=B.o.size;omega
   have d0:=(B.o.cell (p:=⟨b,o+k,none⟩) hbl).trans c0
   have SK:Hid (∀ w',Below wr.heap.size wr w'→w'.cell? ⟨b,o+k,none⟩=some (.string tx)):=fun w' hb=>(hb.cell (p:=⟨b,o+k,none⟩) hblr).trans d0
   have hzr:w.heap.size≤wr.heap.size:=B.o.size;clear hcell c0;go_wp2_with fail
   go_region_held3 (fun w'=>w'.cell? ⟨b,o+k,none⟩=some (.string tx))
    (exact SK.o _ (by repeat (first | exact BF.o | exact Below.refl _ _ | refine Below.drew ?_)))
    (first
     | (go_at_call 113;refine (LM.o _).mono ?_;rintro e w1 ⟨rfl,hb1⟩;have BF:Hid (Below wr.heap.size wr w1):=(by first | exact hb1 | exact zab (by repeat (first | exact Below.refl _ _ | refine Below.drew ?_)) hb1 (Nat.le_refl _));clear hb1))
   all_goals
    have B3:=zaa (zab B.o BF.o hzr);clear SK d0;go_wp2
    go_roundw
    case rel=>exact ⟨k+1,by omega,by go_num,by go_num,(by repeat (first | exact B3.o | refine Below.drew ?_))⟩
    case measure=>simp[intOf];omega
  ·obtain rfl:k=n:=by omega
   go_wp2;go_ret;exact ⟨rfl,B.o⟩
structure Aw where
 code:Int
 val:Int
 names:List ByteArray
def awc (u:Aw×Value):List Value:=[.int .i64 u.1.code,.int .i64 u.1.val,u.2]
def awv (us:List (Aw×Value)):List Value:=us.flatMap awc
theorem zox (u:Aw×Value):(awc u).length=3:=rfl
theorem yacz (us:List (Aw×Value)) (k:Nat) (h:k < us.length):(awv us)[k*3]?=some (.int .i64 us[k].1.code):=zam _ 3 zox us k 0 h (by omega)
theorem yach (us:List (Aw×Value)) (k:Nat) (h:k < us.length):(awv us)[k*3+1]?=some (.int .i64 us[k].1.val):=zam _ 3 zox us k 1 h (by omega)
theorem yabj (us:List (Aw×Value)) (k:Nat) (h:k < us.length):(awv us)[k*3+2]?=some us[k].2:=zam _ 3 zox us k 2 h (by omega)
def RdAu (w:World) (v:Value) (us:List (Aw×Value)):Prop:=Rd w 3 v us.length (awv us)∧∀ k (h:k < us.length),RdT w us[k].2 us[k].1.names
def RdAs (w:World) (v:Value) (ts:List Aw):Prop:=∃ us:List (Aw×Value),us.map Prod.fst=ts∧RdAu w v us
theorem RdAu.below {w w':World} {v:Value} {us:List (Aw×Value)} (h:RdAu w v us) (hb:Below w.heap.size w w'):RdAu w' v us:=⟨Rd.below h.1 hb,fun k hk=>Rd.below (h.2 k hk) hb⟩
theorem RdAs.below {w w':World} {v:Value} {ts:List Aw} (h:RdAs w v ts) (hb:Below w.heap.size w w'):RdAs w' v ts:=by
 obtain ⟨us,e,r⟩:=h;exact ⟨us,e,r.below hb⟩
theorem RdAu.shape {w:World} {v:Value} {us:List (Aw×Value)} (h:RdAu w v us):∃ ao cap,v=.slice ao us.length cap∧us.length≤cap∧(0 < us.length→∃ b o,ao=some ⟨b,o,none⟩∧b < w.heap.size ∧
  ∀ k (h:k < us.length),w.cell? ⟨b,o+k*3,none⟩=some (.int .i64 us[k].1.code)∧w.cell? ⟨b,o+k*3+1,none⟩=some (.int .i64 us[k].1.val)∧w.cell? ⟨b,o+k*3+2,none⟩=some us[k].2):=by
 obtain ⟨⟨h1,ao,cap,rfl,h2,h3⟩,-⟩:=h;refine ⟨ao,cap,rfl,h2.1,fun hp=>?_⟩;obtain ⟨b,o,rfl,hb,hc⟩:=h3 hp;refine ⟨b,o,rfl,hb,fun k hk=>⟨?_,?_,?_⟩⟩
 ·exact (hc (k*3) (by omega)).trans (yacz us k hk)
 ·exact (hc (k*3+1) (by omega)).trans (yach us k hk)
 ·exact (hc (k*3+2) (by omega)).trans (yabj us k hk)
theorem zkb {us:List (Aw×Value)} {ts:List Aw} (e:us.map Prod.fst=ts):us.length=ts.length:=by rw[← e,List.length_map]
theorem zvu {us:List (Aw×Value)} {ts:List Aw} (e:us.map Prod.fst=ts) (k:Nat) (h:k < us.length):us[k].1=ts[k]'(by rw[← zkb e];exact h):=by
 subst e;simp
end Go.Proofs.YtbohndgbfbfldaaGreatDoor
