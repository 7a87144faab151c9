/- Several texts laid together: MkI, HeI, MdB. -/
import Derived.Test.YtbohndgbfbfldaaGreatDoorZAD
import Derived.Test.YtbohndgbfbfldaaGreatDoorZAG
import Derived.Deep.DeepCutAuto
import Derived.Deep.RegionWith
import Derived.Test.YtbohndgbfbfldaaGreatDoorZAW
set_option maxRecDepth 100000
set_option maxHeartbeats 4000000
namespace Go.Proofs.YtbohndgbfbfldaaGreatDoor
open Go.RowKit
def yacs (k:Int) (i:Nat):Den:=⟨k+3*(i:Int),mtx (k+3*(i:Int)+1).toNat,k+3*(i:Int)+2⟩
def zbl (k:Int) (n:Nat):List Den:=(List.range n).map (yacs k)
theorem zbq (k:Int) (n:Nat):(zbl k n).length=n:=by simp[zbl]
theorem zon (k:Int) (n:Nat):zbl k (n+1)=zbl k n ++ [yacs k n]:=by unfold zbl;rw[List.range_succ,List.map_append];rfl
def zev (k0:Int) (k:Nat) (ds:List Den):List Den:=zbl k0 k ++ ds.drop k
theorem zsd (k0:Int) (ds:List Den):zev k0 0 ds=ds:=by simp[zev,zbl]
theorem zux (k0:Int) (ds:List Den):zev k0 ds.length ds=zbl k0 ds.length:=by simp[zev]
theorem zfn (l l':List Den):zbm (l ++ l')=zbm l ++ zbm l':=by simp[zbm]
theorem zsh {k0:Int} {ds:List Den} {k:Nat} (h:k < ds.length):(((zbm (zev k0 k ds)).set (k*3) (.int .i64 (k0+3*(k:Int)))).set (k*3+1) (.string (mtx (k0+3*(k:Int)+1).toNat))).set (k*3+2) (.int .i64 (k0+3*(k:Int)+2))=zbm (zev k0 (k+1) ds):=by
 have l1:(zbm (zbl k0 k)).length=k*3:=by rw[zee,zbq]
 unfold zev;rw[List.drop_eq_getElem_cons h,zon,zfn,zfn,zfn,List.set_append_right _ _ (by omega),List.set_append_right _ _ (by omega),List.set_append_right _ _ (by omega),l1,List.append_assoc]
 congr 1
 rw[show k*3 - k*3=0 by omega,show k*3+1 - k*3=1 by omega,show k*3+2 - k*3=2 by omega];rfl
theorem zqt {k0:Int} {ds:List Den} {k:Nat} (h:k < ds.length):(zbm (zev k0 k ds))[k*3]?=some (.int .i64 ds[k].dir)∧(zbm (zev k0 k ds))[k*3+1]?=some (.string ds[k].name)∧(zbm (zev k0 k ds))[k*3+2]?=some (.int .i64 ds[k].child):=by
 have l1:(zbm (zbl k0 k)).length=k*3:=by rw[zee,zbq]
 unfold zev;rw[List.drop_eq_getElem_cons h,zfn,List.getElem?_append_right (by omega),List.getElem?_append_right (by omega),List.getElem?_append_right (by omega),l1];rw[show k*3 - k*3=0 by omega,show k*3+1 - k*3=1 by omega,show k*3+2 - k*3=2 by omega];exact ⟨rfl,rfl,rfl⟩
theorem zin (v:Value) (ds:List Den) (k0:Int) (lo hi:Nat) (w:World) (h:Row w 143 3 lo hi v ds.length (zbm ds)) (hz:hi≤w.heap.size) (hn:ds.length≤16777216) (h0:0≤k0) (h1:k0≤1099511627776) :
  Calls Tryz.prog 57 #[v,.int .i64 k0] w fun e w'=>e=.returned (.int .i64 (k0+3*ds.length))∧Row w' 143 3 lo hi v ds.length (zbm (zbl k0 ds.length))∧w.grownBy w' v.ownBlock:=by
 obtain ⟨_,ao,cap,rfl,hcap,hc⟩:=h.rd;go_enter Tryz.func57,Tryz.ntmps57;go_wp2
 go_loopw [1,5] (fun c i wr=>∃ k:Nat,k≤ds.length∧i=.int .i64 k∧c=.int .i64 (k0+3*k)∧Hid (Row wr 143 3 lo hi (.slice ao ds.length cap) ds.length (zbm (zev k0 k ds))∧w.grownBy wr (Value.slice ao ds.length cap).ownBlock)∧w.heap.size≤wr.heap.size) (fun _ i _=>ds.length - (intOf i).toNat)
 case atStart=>exact ⟨0,by omega,rfl,by simp,⟨by rw[zsd];exact h,World.grownBy.refl _ _⟩,Nat.le_refl _⟩
 case round =>
  obtain ⟨k,hk,rfl,rfl,I,hzr⟩:=hrel;clear h hc
  have k0':(0:Int)≤(k:Int):=by omega
  by_cases hlt:k < ds.length
  ·obtain ⟨_,ao',cap',e',_,hc⟩:=I.o.1.rd
   cases e'
   obtain ⟨b,o,rfl,hbl,_⟩:=hc (by omega)
   obtain ⟨rfl,hb1,hb2,_,hfr,hcl⟩:=I.o.1.at
   have k1:(k:Int) < (ds.length:Int):=by omega
   obtain ⟨q0,q1,q2⟩:=zqt (k0:=k0) hlt;have MS:=zaa (zsh (k0:=k0) hlt);have f0:=hfr (k*3);have f1:=hfr (k*3+1);have f2:=hfr (k*3+2);have e0:=(hcl (k*3) (by omega)).trans q0;have e1:=(hcl (k*3+1) (by omega)).trans q1;have e2:=(hcl (k*3+2) (by omega)).trans q2;have I1:=zaa (I.o.1.stored (k*3) (.int .i64 (k0+3*(k:Int))));have G1:=zaa (zat I.o.2 (a:=⟨b,k*3,none⟩) rfl (.int .i64 (k0+3*(k:Int))));have LM:=zaa (fun w1=>zdb (k0+3*(k:Int)+1).toNat w1 (by omega));rw[show (((k0+3*(k:Int)+1).toNat:Nat):Int)=k0+3*(k:Int)+1 by omega] at LM
   have hzs:(wr.setCell ⟨b,k*3,none⟩ (.int .i64 (k0+3*(k:Int)))).heap.size=wr.heap.size:=by simp
   generalize mtx (k0+3*(k:Int)+1).toNat=tx at *;generalize ds[k].dir=xd at *;generalize ds[k].name=xs at *;generalize ds[k].child=xc at *;clear I hc hfr hcl q0 q1 q2;go_wp2_with fail;refine (LM.o _).mono ?_;rintro e w2 ⟨rfl,hb⟩;rw[hzs] at hb;have R2:=zaa (I1.o.below hb (by omega));have G2:=zaa (zez G1.o (zhe (row:=(Value.slice (some ⟨b,0,none⟩) ds.length cap).ownBlock) (by rw[hzs];exact hb)))
   have hz2:wr.heap.size≤w2.heap.size:=by have:=hb.size;omega
   obtain ⟨_,_,_,_,hfr,hcl⟩:=R2.o.at
   have l0:(zbm (zev k0 k ds)).length=ds.length*3:=by
    rw[zee];unfold zev;rw[List.length_append,zbq,List.length_drop];congr 1;omega
   have q1:=(hcl (k*3+1) (by omega))
   have q2:=(hcl (k*3+2) (by omega))
   have f1:=hfr (k*3+1);have f2:=hfr (k*3+2);obtain ⟨y0,y1,y2⟩:=zqt (k0:=k0) hlt;rw[List.getElem?_set_ne (by omega),y1] at q1;rw[List.getElem?_set_ne (by omega),y2] at q2
   have R3:Hid (Row ((w2.setCell ⟨b,k*3+1,none⟩ (.string tx)).setCell ⟨b,k*3+2,none⟩ (.int .i64 (k0+3*(k:Int)+1+1))) 143 3 lo hi (.slice (some ⟨b,0,none⟩) ds.length cap) ds.length (zbm (zev k0 (k+1) ds))∧w.grownBy ((w2.setCell ⟨b,k*3+1,none⟩ (.string tx)).setCell ⟨b,k*3+2,none⟩ (.int .i64 (k0+3*(k:Int)+1+1))) (Value.slice (some ⟨b,0,none⟩) ds.length cap).ownBlock):=by
    refine ⟨?_,zat (zat G2.o (a:=⟨b,k*3+1,none⟩) rfl _) (a:=⟨b,k*3+2,none⟩) rfl _⟩;rw[← MS.o,show k0+3*(k:Int)+2=k0+3*(k:Int)+1+1 by omega];exact (R2.o.stored _ _).stored _ _
   generalize ds[k].name=ys at q1;generalize ds[k].child=yc at q2;clear hb hfr hcl y0 y1 y2 I1 G1 R2 G2 hzs l0 e0 e1 e2 f0;go_wp2
   go_roundw
   case rel=>exact ⟨k+1,by omega,by go_num,by go_num,R3,by simp;omega⟩
   case measure=>simp[intOf];omega
  ·obtain rfl:k=ds.length:=by omega
   have E:=zaa (zux k0 ds);go_wp2;go_ret;exact ⟨rfl,by have:=I.o.1;rw[E.o] at this;exact this,I.o.2⟩
theorem zwi (k:Int) (n i:Nat) (h:i < (zbl k n).length):(zbl k n)[i]=yacs k i:=by simp[zbl]
theorem zhv (v:Value) (n:Nat) (k0:Int) (w:World) (h:RdD w v (zbl k0 n)) (hn:n≤16777216) (h0:0≤k0) (h1:k0≤1099511627776) :
  Calls Tryz.prog 64 #[v,.int .i64 k0] w fun e w'=>e=.returned (.int .i64 (k0+3*n))∧Below w.heap.size w w':=by
 obtain ⟨ao,cap,hv,hcap,hc⟩:=h.shape;rw[zbq] at hv hcap;subst hv;have HC:=zaa hc;clear h hc;go_enter Tryz.func64,Tryz.ntmps64;go_wp2
 go_loopw [1,5] (fun c i wr=>∃ k:Nat,k≤n∧i=.int .i64 k∧c=.int .i64 (k0+3*(k:Int))∧Hid (Below w.heap.size w wr)) (fun _ i _=>n - (intOf i).toNat)
 case atStart=>exact ⟨0,by omega,rfl,by simp,Below.refl _ _⟩
 case round =>
  obtain ⟨k,hk,rfl,rfl,B⟩:=hrel
  have k0':(0:Int)≤(k:Int):=by omega
  by_cases hlt:k < n
  ·obtain ⟨b,o,rfl,hbl,hcell⟩:=HC.o (by rw[zbq];omega)
   have k1:(k:Int) < (n:Int):=by omega
   have cc:=hcell k (by rw[zbq];exact hlt);rw[zwi] at cc;obtain ⟨a0,a1,a2⟩:=cc;have LM:=zaa (fun w1=>zdb (k0+3*(k:Int)+1).toNat w1 (by omega));rw[show (((k0+3*(k:Int)+1).toNat:Nat):Int)=k0+3*(k:Int)+1 by omega] at LM;have d0:wr.cell? ⟨b,o+k*3,none⟩=some (.int .i64 (k0+3*(k:Int))):=(B.o.cell (p:=⟨b,o+k*3,none⟩) hbl).trans a0;have d1:wr.cell? ⟨b,o+k*3+1,none⟩=some (.string (mtx (k0+3*(k:Int)+1).toNat)):=(B.o.cell (p:=⟨b,o+k*3+1,none⟩) hbl).trans a1;have d2:Hid (w.cell? ⟨b,o+k*3+2,none⟩=some (.int .i64 (k0+3*(k:Int)+2))):=a2
   have ZN:Hid (k0+3*(k:Int)+3=k0+3*((k+1:Nat):Int)):=by unfold Hid;push_cast;omega
   have z0:0≤k0+3*(k:Int):=by omega
   have z1:k0+3*(k:Int)≤2199023255552:=by omega
   clear a0 a1 a2 hcell;generalize mtx (k0+3*(k:Int)+1).toNat=tx at *;generalize k0+3*(k:Int)=z at *
   have e2:z+1+1=z+2:=by omega
   have e3:z+2+1=z+3:=by omega
   have hblr:b < wr.heap.size:=by have:=B.o.size;omega
   have SK:Hid (∀ w',Below wr.heap.size wr w'→w'.cell? ⟨b,o+k*3+1,none⟩=some (.string tx)):=fun w' hb=>(hb.cell (p:=⟨b,o+k*3+1,none⟩) hblr).trans d1
   have hzr:w.heap.size≤wr.heap.size:=B.o.size;go_upto_region 7 with fail
   go_region_held3 (fun w'=>w'.cell? ⟨b,o+k*3+1,none⟩=some (.string tx))
    (exact SK.o _ (by repeat (first | exact BF.o | exact Below.refl _ _ | refine Below.drew ?_)))
    (first
     | (go_at_call 113;refine (LM.o _).mono ?_;rintro e w1 ⟨rfl,hb1⟩;have BF:Hid (Below wr.heap.size wr w1):=(by first | exact hb1 | exact zab (by repeat (first | exact Below.refl _ _ | refine Below.drew ?_)) hb1 (Nat.le_refl _));clear hb1))
   all_goals
    have B3:=zaa (zab B.o BF.o hzr);have d3:=(B3.o.cell (p:=⟨b,o+k*3+2,none⟩) hbl).trans d2.o;clear SK d0 d1;go_wp2
    go_roundw
    case rel=>exact ⟨k+1,by omega,by go_num,by rw[← ZN.o],(by repeat (first | exact B3.o | refine Below.drew ?_))⟩
    case measure=>simp[intOf];omega
  ·obtain rfl:k=n:=by omega
   go_wp2;go_ret;exact ⟨rfl,B.o⟩
theorem zly (v:Value) (ts:List Th) (ps:List Den) (k0:Int) (lo hi:Nat) (w:World) (h:RowMd w lo hi v ts ps) (hz:hi≤w.heap.size) (hw:ts.length≤16777216) (ht:zci ts≤16777216) (hp:ps.length≤16777216) (h0:0≤k0) (h1:k0≤1048576) :
  Calls Tryz.prog 22 #[v,.int .i64 k0] w fun e w'=>e=.returned (.int .i64 (k0+2*(ts.length:Int)+(zci ts:Int)+3*ps.length))∧RowMd w' lo hi v (zch k0 ts) (zbl (k0+2*(ts.length:Int)+(zci ts:Int)) ps.length)∧Outside lo hi w w':=by
 obtain ⟨vW,vP,lt,ut,lp,up,rfl,hI,hS,q⟩:=h;obtain ⟨aW,cW,hvW⟩:=hI.rd.form;obtain ⟨-,aP,cP,hvP,-⟩:=hS.rd;subst hvW hvP;have BW:=zaa ((Below.refl w.heap.size w).alloc (Nat.le_refl _) (.cells #[.slice aW ts.length cW,.slice aP ps.length cP] 40));have R0:=zaa (hI.below BW.o (by omega));have S0:=zaa (hS.below BW.o (by omega));have VB:Hid ((w.alloc (.cells #[.slice aW ts.length cW,.slice aP ps.length cP] 40)).heap[w.heap.size]?=some (.cells #[.slice aW ts.length cW,.slice aP ps.length cP] 40 (0,0))):=zae rfl
 have hz0:w.heap.size < (w.alloc (.cells #[.slice aW ts.length cW,.slice aP ps.length cP] 40)).heap.size:=by simp
 obtain ⟨x0,x1,_,_⟩:=zac VB.o;clear hI hS;go_enter Tryz.func22,Tryz.ntmps22;go_wp2_with fail;refine (zji _ ts k0 lt ut _ R0.o (by omega) (by omega) h0 (by omega)).mono ?_;rintro e w1 ⟨rfl,hr1,ho1,hs1⟩;have S1:=zaa (S0.o.outside ho1 (by omega) (by omega));have R1:=zaa hr1;have O1:Hid (Outside lo hi w w1):=(Outside.of_below BW.o).trans (ho1.mono (by omega) (by omega));have V1:=zaa ((ho1.block _ hz0 (by omega)).trans VB.o)
 have hz1:w.heap.size < w1.heap.size:=by omega
 clear hr1 hs1 ho1 x0 x1 R0 S0;obtain ⟨x0,x1,_,_⟩:=zac V1.o;go_wp2_with fail;refine (zin _ ps (k0+2*(ts.length:Int)+(zci ts:Int)) lp up _ S1.o (by omega) hp (by omega) (by omega)).mono ?_;rintro e w2 ⟨rfl,hr2,hg2⟩;have ho2:=Row.grown_outside S1.o hg2;have R2:=zaa (R1.o.outside ho2 (by omega) (by omega));have S2:=zaa hr2;have O2:=zaa (O1.o.trans (ho2.mono (by omega) (by omega)));clear hr2 hg2 ho2 x0 x1;have ML:(zbl (k0+2*(ts.length:Int)+(zci ts:Int)) ps.length).length=ps.length:=zbq _ _
 have S3:Hid (Row w2 143 3 lp up (.slice aP ps.length cP) (zbl (k0+2*(ts.length:Int)+(zci ts:Int)) ps.length).length (zbm (zbl (k0+2*(ts.length:Int)+(zci ts:Int)) ps.length))):=by unfold Hid;rw[ML];exact S2.o
 clear S2 ML;go_wp2;go_ret;exact ⟨rfl,⟨_,_,lt,ut,lp,up,rfl,R2.o,S3.o,q⟩,O2.o⟩
theorem zli (v:Value) (ts:List Th) (m:Nat) (k0:Int) (w:World) (h:RdMd w v (zch k0 ts) (zbl (k0+2*(ts.length:Int)+(zci ts:Int)) m)) (hn:ts.length≤16777216) (ht:zci ts≤16777216) (hm:m≤16777216) (h0:0≤k0) (h1:k0≤1048576) :
  Calls Tryz.prog 25 #[v,.int .i64 k0] w fun e w'=>e=.returned (.int .i64 (k0+2*(ts.length:Int)+(zci ts:Int)+3*m))∧Below w.heap.size w w':=by
 obtain ⟨vW,vP,rfl,hI,hD⟩:=h;have HI:=zaa hI;have HD:=zaa hD;obtain ⟨aW,cW,hvW⟩:=hI.form;obtain ⟨aP,cP,hvP,_,_⟩:=hD.shape;rw[zer] at hvW;rw[zbq] at hvP;subst hvP hvW;clear hD hI
 obtain ⟨W,hW⟩:∃ W:World,W=w.alloc (.cells #[.slice aW ts.length cW,.slice aP m cP] 40):=⟨_,rfl⟩
 have BW:Hid (Below w.heap.size w W):=by rw[hW];exact (Below.refl _ _).alloc (Nat.le_refl _) _
 have VW:Hid (W.heap[w.heap.size]?=some (.cells #[.slice aW ts.length cW,.slice aP m cP] 40 (0,0))):=by rw[hW];exact zae rfl
 have s0:¬ (k0+2*(ts.length:Int)+(zci ts:Int)) < 0:=by omega
 have s1:¬ (k0+2*(ts.length:Int)+(zci ts:Int)+3*(m:Int)) < 0:=by omega
 go_enter Tryz.func25,Tryz.ntmps25;go_wp2_with fail;rw[← hW];clear hW;refine (zjc _ ts k0 W (HI.o.below BW.o) (by omega) (by omega) h0 (by omega)).mono ?_;rintro e w1 ⟨rfl,hw1⟩;subst w1;obtain ⟨x0,x1,_,_⟩:=zac VW.o;go_wp2_with fail;refine (zhv _ m (k0+2*(ts.length:Int)+(zci ts:Int)) W (Rd.below HD.o BW.o) hm (by omega) (by omega)).mono ?_;rintro e w1 ⟨rfl,hb1⟩;have B1:=zaa (zab BW.o hb1 BW.o.size);clear hb1 x0 x1;go_wp2;go_ret;exact ⟨rfl,B1.o⟩
end Go.Proofs.YtbohndgbfbfldaaGreatDoor
