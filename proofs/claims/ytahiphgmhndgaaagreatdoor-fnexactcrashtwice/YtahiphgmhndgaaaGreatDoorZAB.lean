/- Several texts laid together: StoreT, Pm, PmT, SecS, SecT. -/
import Derived.Test.YtahiphgmhndgaaaGreatDoorZAA
import Derived.Deep.RegionWith
set_option maxHeartbeats 2000000
namespace Go.Proofs.YtahiphgmhndgaaaGreatDoor
open Go.RowKit
theorem zut (va vb:Value) (ps:List St) (w:World) (ha:RdS w va ps) (hb:RdS w vb ps) (hn:ps.length≤2147483648) :
  Calls Tryz.prog 72 #[va,vb] w fun e w'=>e=.returned (.bool true)∧Below w.heap.size w w':=by
 obtain ⟨ao,cap,rfl,hcap,hc⟩:=ha.shape;obtain ⟨ao2,cap2,rfl,hcap2,hc2⟩:=hb.shape;clear ha hb;go_enter Tryz.func72,Tryz.ntmps72;go_wp2
 go_loopw [5] (fun i wr=>∃ k:Nat,k≤ps.length∧i=.int .i64 k∧Below w.heap.size w wr) (fun i _=>ps.length - (intOf i).toNat)
 case atStart=>exact ⟨0,by omega,rfl,Below.refl _ _⟩
 case round =>
  obtain ⟨k,hk,rfl,hbw⟩:=hrel
  by_cases hlt:k < ps.length
  ·obtain ⟨b,o,rfl,hbl,hcell⟩:=hc (by omega);obtain ⟨b2,o2,rfl,hbl2,hcell2⟩:=hc2 (by omega);obtain ⟨c0,c1,c2⟩:=hcell k hlt;obtain ⟨c3,c4,c5⟩:=hcell2 k hlt;have d0:=(hbw.cell (p:=⟨b,o+k*3,none⟩) hbl).trans c0;have d1:=(hbw.cell (p:=⟨b,o+k*3+1,none⟩) hbl).trans c1;have d2:=(hbw.cell (p:=⟨b,o+k*3+2,none⟩) hbl).trans c2;have d3:=(hbw.cell (p:=⟨b2,o2+k*3,none⟩) hbl2).trans c3;have d4:=(hbw.cell (p:=⟨b2,o2+k*3+1,none⟩) hbl2).trans c4;have d5:=(hbw.cell (p:=⟨b2,o2+k*3+2,none⟩) hbl2).trans c5
   have hlt':(k:Int) < (ps.length:Int):=by omega
   have hge:(0:Int)≤(k:Int):=by omega
   have hz:=hbw.size;clear hcell hcell2 hc hc2 c0 c1 c2 c3 c4 c5;go_wp2_with fail
   go_region_with (go_at_call 116;refine (zxy _ _ _ _).mono ?_;rintro e w1 ⟨rfl,hb1⟩)
   all_goals
    go_wp2
    go_roundw
    case rel=>exact ⟨k+1,by omega,by go_num,hbw.trans (Below.mono (Below.trans ((Below.refl _ _).drew) ‹_›) hz)⟩
    case measure=>simp[intOf];omega
  ·go_wp2;go_ret;exact ⟨rfl,hbw⟩
def yarq (k:Int) (i:Nat):St:=⟨k+3*(i:Int),k+3*(i:Int)+1,(k+3*(i:Int)+1+1) % 3 == 0⟩
def zev (k:Int) (n:Nat):List St:=(List.range n).map (yarq k)
theorem zcf (k:Int) (n:Nat):(zev k n).length=n:=by simp[zev]
theorem zxz (k:Int) (n i:Nat) (h:i < (zev k n).length):(zev k n)[i]=yarq k i:=by simp[zev]
def IsSts (xs:List Value) (n:Nat):Prop:=∀ k,k < n→∃ a b c,xs[k*3]?=some (.int .i64 a)∧xs[k*3+1]?=some (.int .i64 b)∧xs[k*3+2]?=some (.bool c)
theorem yavw (ps:List St):IsSts (sts ps) ps.length:=fun k hk=>⟨_,_,_,zey ps k hk,zie ps k hk,zhx ps k hk⟩
theorem IsSts.put3 {ys:List Value} {n:Nat} (h:IsSts ys n) (hl:ys.length=n*3) (k:Nat) (a b:Int) (c:Bool):IsSts (put3 ys k (.int .i64 a) (.int .i64 b) (.bool c)) n:=by
 intro j hj;rw[zgp (by omega),zgp (by omega),zgp (by omega)]
 by_cases e:j=k
 ·subst e;exact ⟨a,b,c,by simp,by simp,by simp⟩
 ·obtain ⟨x,y,z,h0,h1,h2⟩:=h j hj;refine ⟨x,y,z,?_,?_,?_⟩
  ·rw[if_neg (by omega),if_neg (by omega),if_neg (by omega)];exact h0
  ·rw[if_neg (by omega),if_neg (by omega),if_neg (by omega)];exact h1
  ·rw[if_neg (by omega),if_neg (by omega),if_neg (by omega)];exact h2
theorem zrd (v:Value) (n:Nat) (xs:List Value) (k0:Int) (lo hi:Nat) (w:World) (h:Row w 147 3 lo hi v n xs) (hx:IsSts xs n) (hn:n≤2147483648) (h0:0≤k0) (h1:k0≤1099511627776) :
  Calls Tryz.prog 77 #[v,.int .i64 k0] w fun e w'=>e=.returned (.int .i64 (k0+3*n))∧Row w' 147 3 lo hi v n (sts (zev k0 n))∧w.grownBy w' v.ownBlock∧w'.heap.size=w.heap.size:=by
 obtain ⟨hlen,ao,cap,rfl,hcap,hc⟩:=h.rd;go_enter Tryz.func77,Tryz.ntmps77;go_wp2
 go_loopw [1,5] (fun c i wr=>∃ k:Nat,k≤n∧i=.int .i64 k∧c=.int .i64 (k0+3*k)∧(∃ ys:List Value,Row wr 147 3 lo hi (.slice ao n cap) n ys∧IsSts ys n∧∀ j,j < k*3→ys[j]?=(sts (zev k0 n))[j]?)∧w.grownBy wr (Value.slice ao n cap).ownBlock∧wr.heap.size=w.heap.size) (fun _ i _=>n - (intOf i).toNat)
 case atStart=>exact ⟨0,by omega,rfl,by simp,⟨xs,h,hx,fun j hj=>absurd hj (by omega)⟩,World.grownBy.refl _ _,rfl⟩
 case round =>
  obtain ⟨k,hk,rfl,rfl,⟨ys,hrow,hys,hd⟩,hout,hz⟩:=hrel;clear h hx hc hlen
  by_cases hlt:k < n
  ·obtain ⟨hlen,ao',cap',e',_,hc⟩:=hrow.rd
   cases e'
   obtain ⟨b,o,rfl,hbl,_⟩:=hc (by omega)
   obtain ⟨rfl,hb1,hb2,_,hfr,hcl⟩:=hrow.at
   obtain ⟨x,y,z,q0,q1,q2⟩:=hys k hlt;have f0:=hfr (k*3);have f1:=hfr (k*3+1);have f2:=hfr (k*3+2);have e0:=(hcl (k*3) (by omega)).trans q0;have e1:=(hcl (k*3+1) (by omega)).trans q1;have e2:=(hcl (k*3+2) (by omega)).trans q2;have PH:=zaa (hrow.put3 k (.int .i64 (k0+3*k)) (.int .i64 (k0+3*k+1)) (.bool ((k0+3*k+1+1) % 3 == 0)));have OH:=zaa (zct (zct (zct hout (a:=⟨b,k*3,none⟩) rfl (.int .i64 (k0+3*k))) (a:=⟨b,k*3+1,none⟩) rfl (.int .i64 (k0+3*k+1))) (a:=⟨b,k*3+2,none⟩) rfl (.bool ((k0+3*k+1+1) % 3 == 0)));have IH:=zaa (hys.put3 hlen k (k0+3*k) (k0+3*k+1) ((k0+3*k+1+1) % 3 == 0))
   have DH:Hid (∀ j,j < (k+1)*3→(put3 ys k (.int .i64 (k0+3*k)) (.int .i64 (k0+3*k+1)) (.bool ((k0+3*k+1+1) % 3 == 0)))[j]?=(sts (zev k0 n))[j]?):=by
    have hk':k < (zev k0 n).length:=by rw[zcf];exact hlt
    have:=zye (ps:=zev k0 n) hk' (by rw[zcf];exact hlen) hd;rw[zxz] at this;exact this
   clear hrow hys hd hc hfr hcl q0 q1 q2;go_wp2
   go_roundw
   case rel=>exact ⟨k+1,by omega,by go_num,by go_num,⟨_,PH.o,IH.o,DH.o⟩,OH.o,by simp[hz]⟩
   case measure=>simp[intOf];omega
  ·have e:k=n:=by omega
   subst e;have hl:=hrow.len;have RH:=zaa hrow;have DH:=zaa hd;clear hrow hys hd;go_wp2;go_ret;have e:=yali (ps:=zev k0 k) (by rw[zcf];exact hl) (by rw[zcf];exact DH.o);exact ⟨rfl,e ▸ RH.o,hout,hz⟩
theorem zri (v:Value) (n:Nat) (k0:Int) (w:World) (h:RdS w v (zev k0 n)) (hn:n≤2147483648) (h0:0≤k0) (h1:k0≤1099511627776) :
  Calls Tryz.prog 79 #[v,.int .i64 k0] w fun e w'=>e=.returned (.int .i64 (k0+3*n))∧w'=w:=by
 obtain ⟨ao,cap,rfl,hcap,hc⟩:=h.shape;simp only[zcf] at hcap hc ⊢;clear h;go_enter Tryz.func79,Tryz.ntmps79;go_wp2
 go_loop [1,5] (fun c i=>∃ k:Nat,k≤n∧i=.int .i64 k∧c=.int .i64 (k0+3*k)) (fun _ i=>n - (intOf i).toNat)
 case atStart=>exact ⟨0,by omega,rfl,by simp⟩
 case round =>
  obtain ⟨k,hk,rfl,rfl⟩:=hrel
  by_cases hlt:k < n
  ·obtain ⟨b,o,rfl,hbl,hcell⟩:=hc (by omega);obtain ⟨c0,c1,c2⟩:=hcell k hlt;rw[zxz] at c0 c1 c2;simp only[yarq] at c0 c1 c2;clear hcell hc;go_wp2
   go_round
   case rel=>exact ⟨k+1,by omega,by go_num,by go_num⟩
   case measure=>simp[intOf];omega
  ·have e:k=n:=by omega
   subst e;go_wp2;go_ret;exact ⟨rfl,rfl⟩
def RdPm (w:World) (v:Value) (ws:List Int) (ps:List St):Prop:=∃ vW vP,v=.agg #[vW,vP]∧RdI w vW ws∧RdS w vP ps
def RowPm (w:World) (lo hi:Nat) (v:Value) (ws:List Int) (ps:List St):Prop:=∃ vW vP,v=.agg #[vW,vP]∧Row w 3 1 lo hi vW ws.length (zav ws)∧Row w 147 3 lo hi vP ps.length (sts ps)
theorem RowPm.rd {w:World} {lo hi:Nat} {v:Value} {ws:List Int} {ps:List St} (h:RowPm w lo hi v ws ps):RdPm w v ws ps:=by
 obtain ⟨vW,vP,rfl,h1,h2⟩:=h;exact ⟨vW,vP,rfl,h1.rd,h2.rd⟩
theorem RdPm.below {w w':World} {v:Value} {ws:List Int} {ps:List St} (h:RdPm w v ws ps) (hb:Below w.heap.size w w'):RdPm w' v ws ps:=by
 obtain ⟨vW,vP,rfl,h1,h2⟩:=h;exact ⟨vW,vP,rfl,Rd.below h1 hb,Rd.below h2 hb⟩
theorem RowPm.below {w w':World} {lo hi:Nat} {v:Value} {ws:List Int} {ps:List St} (h:RowPm w lo hi v ws ps) {B:Nat} (hb:Below B w w') (hB:hi≤B):RowPm w' lo hi v ws ps:=by
 obtain ⟨vW,vP,rfl,h1,h2⟩:=h;exact ⟨vW,vP,rfl,h1.below hb hB,h2.below hb hB⟩
theorem RowPm.outside {w w':World} {lo hi:Nat} {v:Value} {ws:List Int} {ps:List St} (h:RowPm w lo hi v ws ps) {lo' hi':Nat} (ho:Outside lo' hi' w w') (hd:hi≤lo'∨hi'≤lo) (hz:hi≤w.heap.size):RowPm w' lo hi v ws ps:=by
 obtain ⟨vW,vP,rfl,h1,h2⟩:=h;exact ⟨vW,vP,rfl,h1.outside ho hd hz,h2.outside ho hd hz⟩
theorem RowPm.wide {w:World} {lo hi:Nat} {v:Value} {ws:List Int} {ps:List St} (h:RowPm w lo hi v ws ps) {lo' hi':Nat} (h1:lo'≤lo) (h2:hi≤hi'):RowPm w lo' hi' v ws ps:=by
 obtain ⟨vW,vP,rfl,a,b⟩:=h;exact ⟨vW,vP,rfl,a.wide h1 h2,b.wide h1 h2⟩
theorem yamv (v:Value) (ws:List Int) (ps:List St) (w:World) (h:RdPm w v ws ps) (hw:ws.length≤1048576) (hp:ps.length≤1048576) :
  Calls Tryz.prog 68 #[v] w fun e w'=>∃ v',e=.returned v'∧RowPm w' w.heap.size w'.heap.size v' ws ps∧Below w.heap.size w w':=by
 obtain ⟨vW,vP,rfl,h1,h2⟩:=h;have H1:=zaa h1;have H2:=zaa h2;obtain ⟨aW,cW,eW,_⟩:=h1.shape;obtain ⟨aP,cP,eP,_⟩:=h2.shape;clear h1 h2;subst eW eP;go_enter Tryz.func68,Tryz.ntmps68;go_wp2_with fail
 have hb0:Below w.heap.size w (((w.alloc (.cells #[.slice aW ws.length cW,.slice aP ps.length cP] 25)).alloc (.cells #[.slice none 0 0,.slice none 0 0] 40)).alloc (.cells #[.slice none 0 0,.slice none 0 0] 40)):=by
  repeat (refine Below.alloc ?_ (by simp <;> omega) _)
  exact Below.refl _ _
 refine (zcn _ ws _ (Rd.below H1.o hb0) hw).mono ?_;rintro e w1 ⟨v1,rfl,hr1,hb1⟩;obtain ⟨_,a1,c1,rfl,_⟩:=hr1.rd
 have hz1:w.heap.size+3≤w1.heap.size:=by have:=hb1.size;simp at this;omega
 have V0:=(hb1.block w.heap.size (by simp <;> omega)).trans (zal (zal (zag rfl)));have V1:=(hb1.block (w.heap.size+1) (by simp <;> omega)).trans (zal (zag (by simp)));have V2:=(hb1.block (w.heap.size+1+1) (by simp <;> omega)).trans (zag (by simp));have B1:=zaa (hb0.trans (hb1.mono (by simp <;> omega)));have R1:=zaa hr1;obtain ⟨x1,x2,_,_⟩:=zad V0;obtain ⟨y1,y2,y3,y4⟩:=zad V2;have V2':=zep V2 (.slice a1 ws.length c1);have V1':=(Below.heap_setCell w1 ⟨w.heap.size+1+1,0,none⟩ (.slice a1 ws.length c1) (w.heap.size+1) (by simp)).trans V1;have VH:=zaa (And.intro V1' V2');clear hb0 hb1 hr1 V0 V1 V2 V1' V2';go_wp2_with fail;have hb2:=B1.o.setCell (p:=⟨w.heap.size+1+1,0,none⟩) (by simp;omega) (.slice a1 ws.length c1);refine (zzk _ ps _ (Rd.below H2.o hb2) hp).mono ?_;rintro e w2 ⟨v2,rfl,hr2,hb3⟩;obtain ⟨_,a2,c2,rfl,_⟩:=hr2.rd
 have hz2:w1.heap.size≤w2.heap.size:=by have:=hb3.size;simpa using this
 have V1:=(hb3.block _ (by simp;omega)).trans VH.o.1;have V2:=(hb3.block _ (by simp;omega)).trans VH.o.2;have B2:=zaa (hb2.trans (hb3.mono (by simp;omega)));have K2:=zaa hb3;have R2:=zaa hr2;clear hb2 hb3 hr2;obtain ⟨z1,z2,z3,z4⟩:=zad V2;obtain ⟨t1,t2,t3,t4⟩:=zad V1;clear V1 V2;go_wp2;refine bodyPost_ret (v:=.agg #[.slice a1 ws.length c1,.slice a2 ps.length c2]) (by simp[results,Tryz.results68,go_sem,t1,t2]) rfl ?_;refine ⟨_,rfl,⟨_,_,rfl,(R1.o.same fun b h1 h2=>?_).wide (by simp;omega) (by simp;omega),(R2.o.same fun b h1 h2=>?_).wide (by simp;omega) (by simp)⟩,?_⟩
 ·simp only[World.size_alloc] at h1;rw[Below.heap_setCell _ _ _ _ (by simp only;omega),Below.heap_setCell _ _ _ _ (by simp only;omega),Below.heap_setCell _ _ _ _ (by simp only;omega),K2.o.block b (by simp;omega),Below.heap_setCell _ _ _ _ (by simp only;omega)]
 ·simp at h1;rw[Below.heap_setCell _ _ _ _ (by simp only;omega),Below.heap_setCell _ _ _ _ (by simp only;omega),Below.heap_setCell _ _ _ _ (by simp only;omega)]
 ·exact ((B2.o.setCell (by simp only;omega) _).setCell (by simp only;omega) _).setCell (by simp only;omega) _
theorem yahe (va vb:Value) (ws:List Int) (ps:List St) (w:World) (ha:RdPm w va ws ps) (hb:RdPm w vb ws ps) (hw:ws.length≤2147483648) (hp:ps.length≤2147483648) :
  Calls Tryz.prog 33 #[va,vb] w fun e w'=>e=.returned (.bool true)∧Below w.heap.size w w':=by
 obtain ⟨vW,vP,rfl,h1,h2⟩:=ha;obtain ⟨uW,uP,rfl,h3,h4⟩:=hb;obtain ⟨aW,cW,rfl,_⟩:=h1.shape;obtain ⟨aP,cP,rfl,_⟩:=h2.shape;obtain ⟨bW,dW,rfl,_⟩:=h3.shape;obtain ⟨bP,dP,rfl,_⟩:=h4.shape;have H1:=zaa h1;have H2:=zaa h2;have H3:=zaa h3;have H4:=zaa h4;clear h1 h2 h3 h4;go_enter Tryz.func33,Tryz.ntmps33;go_wp2_with fail
 have hb0:Below w.heap.size w ((w.alloc (.cells #[.slice aW ws.length cW,.slice aP ps.length cP] 40)).alloc (.cells #[.slice bW ws.length dW,.slice bP ps.length dP] 40)):=by
  repeat (refine Below.alloc ?_ (by simp <;> omega) _)
  exact Below.refl _ _
 refine (zfu _ _ ws _ (Rd.below H1.o hb0) (Rd.below H3.o hb0) hw).mono ?_;rintro e w1 ⟨rfl,hb1⟩
 have hz1:w.heap.size+2≤w1.heap.size:=by have:=hb1.size;simp at this;omega
 have V0:=(hb1.block w.heap.size (by simp <;> omega)).trans (zal (zag rfl));have V1:=(hb1.block (w.heap.size+1) (by simp <;> omega)).trans (zag (by simp));have B1:=hb0.trans (hb1.mono (by simp <;> omega));obtain ⟨x1,x2,_,_⟩:=zad V0;obtain ⟨y1,y2,_,_⟩:=zad V1;clear hb0 hb1 V0 V1;go_wp2_with fail;refine (zut _ _ ps _ (Rd.below H2.o B1) (Rd.below H4.o B1) hp).mono ?_;rintro e w2 ⟨rfl,hb2⟩;go_wp2;go_ret;exact ⟨rfl,B1.trans (hb2.mono (by omega))⟩
theorem yaet (v:Value) (ws:List Int) (ps:List St) (k0:Int) (lo hi:Nat) (w:World) (h:RowPm w lo hi v ws ps) (hi1:hi≤w.heap.size) (hw:ws.length≤2147483648) (hp:ps.length≤2147483648) (h0:0≤k0) (h1:k0≤1073741824) :
  Calls Tryz.prog 39 #[v,.int .i64 k0] w fun e w'=>e=.returned (.int .i64 (k0+ws.length+3*ps.length))∧RowPm w' lo hi v (zgu k0 ws.length) (zev (k0+ws.length) ps.length)∧Outside lo hi w w':=by
 obtain ⟨vW,vP,rfl,h1,h2⟩:=h;obtain ⟨_,aW,cW,rfl,_⟩:=h1.rd;obtain ⟨_,aP,cP,rfl,_⟩:=h2.rd;have H1:=zaa h1;have H2:=zaa h2;clear h1 h2;go_enter Tryz.func39,Tryz.ntmps39;go_wp2_with fail;have hb0:Below w.heap.size w (w.alloc (.cells #[.slice aW ws.length cW,.slice aP ps.length cP] 40)):=(Below.refl _ _).alloc (Nat.le_refl _) _;refine (zeq _ _ (zav ws) k0 lo hi _ (H1.o.below hb0 hi1) (fun u hu=>by simp only[zav,List.mem_map] at hu;obtain ⟨z,_,rfl⟩:=hu;exact ⟨z,rfl⟩) hw h0 (by omega)).mono ?_;rintro e w1 ⟨rfl,hr1,hg1,hz1⟩;simp only[World.size_alloc] at hz1;have ho1:=Row.grown_outside H1.o hg1;have V0:=(ho1.block w.heap.size (by simp) (.inr hi1)).trans (zag rfl);obtain ⟨x1,x2,_,_⟩:=zad V0;have O1:=zaa ((Outside.of_below (lo:=lo) (hi:=hi) hb0).trans ho1);have R1:=zaa hr1;have R2:=zaa ((H2.o.below hb0 hi1).apart (H1.o.below hb0 hi1) (by decide) hg1);clear hr1 hg1 ho1 V0;go_wp2_with fail;refine (zrd _ _ (sts ps) (k0+ws.length) lo hi _ R2.o (yavw ps) hp (by omega) (by omega)).mono ?_;rintro e w2 ⟨rfl,hr2,hg2,hz2⟩;have O2:=zaa (O1.o.trans (Row.grown_outside R2.o hg2));have R3:=zaa (R1.o.apart R2.o (by decide) hg2);have R4:=zaa hr2;clear hr2 hg2;go_wp2;go_ret;refine ⟨rfl,⟨_,_,rfl,?_,?_⟩,O2.o⟩
 ·rw[zbo];exact R3.o
 ·rw[zcf];exact R4.o
theorem yagh (v:Value) (n m:Nat) (k0:Int) (w:World) (h:RdPm w v (zgu k0 n) (zev (k0+n) m)) (hw:n≤2147483648) (hp:m≤2147483648) (h0:0≤k0) (h1:k0≤1073741824) :
  Calls Tryz.prog 41 #[v,.int .i64 k0] w fun e w'=>e=.returned (.int .i64 (k0+n+3*m))∧Below w.heap.size w w':=by
 obtain ⟨vW,vP,rfl,h1,h2⟩:=h;obtain ⟨aW,cW,rfl,_⟩:=h1.shape;obtain ⟨aP,cP,rfl,_⟩:=h2.shape;simp only[zbo,zcf] at *;have H1:=zaa h1;have H2:=zaa h2;clear h1 h2;have hb0:Below w.heap.size w (w.alloc (.cells #[.slice aW n cW,.slice aP m cP] 40)):=(Below.refl _ _).alloc (Nat.le_refl _) _;go_enter Tryz.func41,Tryz.ntmps41;go_wp2_with fail;refine (zhz _ n k0 _ (Rd.below H1.o hb0) hw h0 (by omega)).mono ?_;rintro e w1 ⟨rfl,rfl⟩;go_wp2_with fail;refine (zri _ m (k0+n) _ (Rd.below H2.o hb0) hp (by omega) (by omega)).mono ?_;rintro e w2 ⟨rfl,rfl⟩;go_wp2;go_ret;exact ⟨rfl,hb0⟩
theorem ztv (aW aP:Option Addr) (n m cW cP:Nat) (w:World) (hn:n≤maxLen) (hm:m≤maxLen) :
  Calls Tryz.prog 56 #[.agg #[.slice aW n cW,.slice aP m cP],.int .i64 1048576] w fun e w'=>e=.returned (.int .i64 (if 1048576 < n+m then -1 else 1048576 - n - m))∧Below w.heap.size w w':=by
 have hb0:Below w.heap.size w (w.alloc (.cells #[.slice aW n cW,.slice aP m cP] 25)):=(Below.refl _ _).alloc (Nat.le_refl _) _
 by_cases c1:(1048576:Int) < (n:Int)
 ·have e1:zhb 1048576 n=-1:=by unfold zhb;rw[if_pos c1]
  have e2:(if 1048576 < n+m then -1 else 1048576 - n - m:Int)=-1:=by rw[if_pos (by omega)]
  rw[e2];have E1:=zaa e1;clear e1 e2;go_enter Tryz.func56,Tryz.ntmps56;go_wp2_with (go_at_call 21;refine (zek aW n cW _ _ hn (by omega) (by omega)).mono ?_;rw[E1.o];rintro e w' ⟨rfl,rfl⟩);go_ret;exact ⟨rfl,hb0⟩
 ·have e1:zhb 1048576 n=1048576 - n:=by unfold zhb;rw[if_neg c1]
  have E1:=zaa e1;clear e1
  by_cases c2:(1048576 - n:Int) < (m:Int)
  ·have e2:zhb (1048576 - n) m=-1:=by unfold zhb;rw[if_pos c2]
   have e3:(if 1048576 < n+m then -1 else 1048576 - n - m:Int)=-1:=by rw[if_pos (by omega)]
   rw[e3];have E2:=zaa e2;clear e2 e3;go_enter Tryz.func56,Tryz.ntmps56;go_wp2_with (first | (go_at_call 21;refine (zek aW n cW _ _ hn (by omega) (by omega)).mono ?_;rw[E1.o];rintro e w' ⟨rfl,rfl⟩) | (go_at_call 105;refine (zmz aP m cP _ _ hm (by omega) (by omega)).mono ?_;rw[E2.o];rintro e w' ⟨rfl,rfl⟩));go_ret;exact ⟨rfl,hb0⟩
  ·have e2:zhb (1048576 - n) m=1048576 - n - m:=by unfold zhb;rw[if_neg c2]
   have e3:(if 1048576 < n+m then -1 else 1048576 - n - m:Int)=1048576 - n - m:=by rw[if_neg (by omega)]
   rw[e3];have E2:=zaa e2;clear e2 e3;go_enter Tryz.func56,Tryz.ntmps56;go_wp2_with (first | (go_at_call 21;refine (zek aW n cW _ _ hn (by omega) (by omega)).mono ?_;rw[E1.o];rintro e w' ⟨rfl,rfl⟩) | (go_at_call 105;refine (zmz aP m cP _ _ hm (by omega) (by omega)).mono ?_;rw[E2.o];rintro e w' ⟨rfl,rfl⟩));go_ret;exact ⟨rfl,hb0⟩
structure Se where
 at_:Int
 val:Int
deriving DecidableEq
def Se.cells (s:Se):List Value:=[.int .i64 s.at_,.int .i64 s.val]
def ses (ps:List Se):List Value:=ps.flatMap Se.cells
theorem Se.cells_len (s:Se):s.cells.length=2:=rfl
theorem yaji (ps:List Se):(ses ps).length=ps.length*2:=zgt _ 2 Se.cells_len ps
theorem zgx (ps:List Se) (k:Nat) (h:k < ps.length):(ses ps)[k*2]?=some (.int .i64 ps[k].at_):=zbl _ 2 Se.cells_len ps k 0 h (by omega)
theorem zjj (ps:List Se) (k:Nat) (h:k < ps.length):(ses ps)[k*2+1]?=some (.int .i64 ps[k].val):=zbl _ 2 Se.cells_len ps k 1 h (by omega)
def RdE (w:World) (v:Value) (ps:List Se):Prop:=Rd w 2 v ps.length (ses ps)
theorem RdE.shape {w:World} {v:Value} {ps:List Se} (h:RdE w v ps):∃ ao cap,v=.slice ao ps.length cap∧ps.length≤cap∧(0 < ps.length→∃ b o,ao=some ⟨b,o,none⟩∧b < w.heap.size ∧
  ∀ k (h:k < ps.length),w.cell? ⟨b,o+k*2,none⟩=some (.int .i64 ps[k].at_)∧w.cell? ⟨b,o+k*2+1,none⟩=some (.int .i64 ps[k].val)):=by
 obtain ⟨_,ao,cap,rfl,h2,h3⟩:=h;refine ⟨ao,cap,rfl,h2.1,fun hn=>?_⟩;obtain ⟨b,o,rfl,hb,hc⟩:=h3 hn;exact ⟨b,o,rfl,hb,fun k hk=>⟨(hc (k*2) (by omega)).trans (zgx ps k hk),(hc (k*2+1) (by omega)).trans (zjj ps k hk)⟩⟩
theorem zmk:(Tryz.prog.info? 150).map (fun i=>(i.zero,i.size,i.bytes))=some (some (.agg #[.int .i64 0,.int .i64 0]),2,16):=by kernel_rfl
theorem zzi (a v:Int) (w:World):Calls Tryz.prog 160 #[.agg #[.int .i64 a,.int .i64 v]] w fun e w'=>e=.returned (.agg #[.int .i64 a,.int .i64 v])∧Below w.heap.size w w':=by
 go_enter Tryz.func160,Tryz.ntmps160;go_wp2;refine bodyPost_ret (v:=.agg #[.int .i64 a,.int .i64 v]) (by simp[results,Tryz.results160,go_sem]) rfl ⟨rfl,?_⟩
 repeat (refine Below.alloc ?_ (by simp <;> omega) _)
 exact Below.refl _ _
def put2 (ys:List Value) (k:Nat) (a b:Value):List Value:=(ys.set (k*2) a).set (k*2+1) b
theorem yabe {ys:List Value} {k:Nat} {a b:Value} {j:Nat} (hj:j < ys.length):(put2 ys k a b)[j]?=if j=k*2+1 then some b else if j=k*2 then some a else ys[j]?:=by
 unfold put2;rw[zmp (by simpa using hj),zmp hj]
theorem zwe {ys:List Value} {ps:List Se} {k:Nat} (hk:k < ps.length) (hl:ys.length=ps.length*2) (h:∀ j,j < k*2→ys[j]?=(ses ps)[j]?) :
  ∀ j,j < (k+1)*2→(put2 ys k (.int .i64 ps[k].at_) (.int .i64 ps[k].val))[j]?=(ses ps)[j]?:=by
 intro j hj;rw[yabe (by omega)]
 split
 ·rename_i e;rw[e,zjj ps k hk]
 ·split
  ·rename_i e;rw[e,zgx ps k hk]
  ·exact h j (by omega)
theorem yail {ys:List Value} {ps:List Se} (hl:ys.length=ps.length*2) (h:∀ j,j < ps.length*2→ys[j]?=(ses ps)[j]?):ys=ses ps:=by
 apply List.ext_getElem?;intro j
 by_cases hj:j < ps.length*2
 ·exact h j hj
 ·rw[List.getElem?_eq_none (by omega),List.getElem?_eq_none (by rw[yaji];omega)]
theorem Row.put2 {w:World} {e:TypeId} {lo hi:Nat} {b n cap:Nat} {ys:List Value} (h:Row w e 2 lo hi (.slice (some ⟨b,0,none⟩) n cap) n ys) (k:Nat) (x y:Value) :
  Row ((w.setCell ⟨b,k*2,none⟩ x).setCell ⟨b,k*2+1,none⟩ y) e 2 lo hi (.slice (some ⟨b,0,none⟩) n cap) n (put2 ys k x y) :=
 (h.stored (k*2) x).stored (k*2+1) y
theorem zvp (v:Value) (ps:List Se) (w:World) (h:RdE w v ps) (hn:ps.length≤1048576) :
  Calls Tryz.prog 115 #[v] w fun e w'=>∃ v',e=.returned v'∧Row w' 150 2 w.heap.size w'.heap.size v' ps.length (ses ps)∧Below w.heap.size w w':=by
 obtain ⟨ao,cap,rfl,hcap,hc⟩:=h.shape;clear h;have hmk:=zdu (P:=Tryz.prog) 41 150 (.agg #[.int .i64 0,.int .i64 0]) 2 16 Tryz.underlying41 zmk .i64 .i64 ps.length (by omega) (by omega);go_enter Tryz.func115,Tryz.ntmps115;go_wp2
 go_loopw [4] (fun i wr=>∃ k:Nat,k≤ps.length∧i=.int .i64 k∧(∃ ys,Row wr 150 2 w.heap.size (w.heap.size+1) (.slice (some ⟨w.heap.size,0,none⟩) ps.length ps.length) ps.length ys∧∀ j,j < k*2→ys[j]?=(ses ps)[j]?)∧Below w.heap.size w wr∧w.heap.size+1≤wr.heap.size) (fun i _=>ps.length - (intOf i).toNat)
 case atStart =>
  refine ⟨0,by omega,rfl,⟨_,ztz w (.agg #[.int .i64 0,.int .i64 0]) 2 ps.length 150 (by simp[maxLen];omega),fun j hj=>absurd hj (by omega)⟩,(Below.refl _ _).alloc (Nat.le_refl _) _,by simp⟩
 case round =>
  obtain ⟨k,hk,rfl,⟨ys,hrow,hys⟩,hb,hz⟩:=hrel
  by_cases hlt:k < ps.length
  ·obtain ⟨b,o,rfl,hbl,hcell⟩:=hc (by omega);obtain ⟨c0,c1⟩:=hcell k hlt;have d0:=(hb.cell (p:=⟨b,o+k*2,none⟩) hbl).trans c0;have d1:=(hb.cell (p:=⟨b,o+k*2+1,none⟩) hbl).trans c1;have RH:=zaa hrow;have YH:=zaa hys;clear hcell hc c0 c1 hrow hys;go_wp2_with fail;refine (zzi _ _ _).mono ?_;rintro e w1 ⟨rfl,hb1⟩;have R1:=zaa (RH.o.below hb1 (by omega))
   obtain ⟨_,_,_,hsz,hfr,hcl⟩:=R1.o.at
   have hl:=RH.o.len;have f0:=hfr (k*2);have f1:=hfr (k*2+1)
   have e0:w1.cell? ⟨w.heap.size,k*2,none⟩=some (ys[k*2]'(by omega)):=by rw[hcl _ (by omega)];simp
   have e1:w1.cell? ⟨w.heap.size,k*2+1,none⟩=some (ys[k*2+1]'(by omega)):=by rw[hcl _ (by omega)];simp
   have BH:=zaa (hb.trans (hb1.mono (show w.heap.size≤wr.heap.size by omega)));have hz1:=hb1.size;clear hfr hcl hb1 hb d0 d1;have P1:=zaa (R1.o.put2 k (.int .i64 ps[k].at_) (.int .i64 ps[k].val));have B1:=zaa ((BH.o.setCell (p:=⟨w.heap.size,k*2,none⟩) (Nat.le_refl _) (.int .i64 ps[k].at_)).setCell (p:=⟨w.heap.size,k*2+1,none⟩) (Nat.le_refl _) (.int .i64 ps[k].val));go_wp2
   go_roundw
   case rel=>exact ⟨k+1,by omega,by go_num,⟨_,P1.o,zwe hlt hl YH.o⟩,B1.o,by simp;omega⟩
   case measure=>simp[intOf];omega
  ·have e:k=ps.length:=by omega
   subst e;have hl:=hrow.len;have RH:=zaa hrow;have YH:=zaa hys;clear hrow hys hc;go_wp2;go_ret;have e:=yail hl YH.o;refine ⟨_,rfl,?_,hb⟩;rw[← e];exact RH.o.wide (Nat.le_refl _) hz
theorem zkz (ao:Option Addr) (n cap:Nat) (left:Int) (w:World) (hn:n≤maxLen) (h0:0≤left) (h1:left≤1048576) :
  Calls Tryz.prog 106 #[.slice ao n cap,.int .i64 left] w fun e w'=>e=.returned (.int .i64 (zhb left n))∧w'=w:=by
 unfold maxLen at hn
 by_cases h:left < n
 ·have e:zhb left n=-1:=by unfold zhb;rw[if_pos h]
  rw[e];clear e;go_enter Tryz.func106,Tryz.ntmps106;go_wp2;go_ret;exact ⟨rfl,rfl⟩
 ·have e:zhb left n=left - n:=by unfold zhb;rw[if_neg h]
  rw[e];clear e;go_enter Tryz.func106,Tryz.ntmps106;go_wp2;go_ret;exact ⟨rfl,rfl⟩
theorem zuq (a v:Int) (w:World):Calls Tryz.prog 117 #[.agg #[.int .i64 a,.int .i64 v],.agg #[.int .i64 a,.int .i64 v]] w fun e w'=>e=.returned (.bool true)∧Below w.heap.size w w':=by
 go_enter Tryz.func117,Tryz.ntmps117;go_wp2;go_ret;refine ⟨rfl,?_⟩
 repeat (refine Below.alloc ?_ (by simp <;> omega) _)
 exact Below.refl _ _
theorem zqz (va vb:Value) (ps:List Se) (w:World) (ha:RdE w va ps) (hb:RdE w vb ps) (hn:ps.length≤2147483648) :
  Calls Tryz.prog 73 #[va,vb] w fun e w'=>e=.returned (.bool true)∧Below w.heap.size w w':=by
 obtain ⟨ao,cap,rfl,hcap,hc⟩:=ha.shape;obtain ⟨ao2,cap2,rfl,hcap2,hc2⟩:=hb.shape;clear ha hb;go_enter Tryz.func73,Tryz.ntmps73;go_wp2
 go_loopw [5] (fun i wr=>∃ k:Nat,k≤ps.length∧i=.int .i64 k∧Below w.heap.size w wr) (fun i _=>ps.length - (intOf i).toNat)
 case atStart=>exact ⟨0,by omega,rfl,Below.refl _ _⟩
 case round =>
  obtain ⟨k,hk,rfl,hbw⟩:=hrel
  by_cases hlt:k < ps.length
  ·obtain ⟨b,o,rfl,hbl,hcell⟩:=hc (by omega);obtain ⟨b2,o2,rfl,hbl2,hcell2⟩:=hc2 (by omega);obtain ⟨c0,c1⟩:=hcell k hlt;obtain ⟨c3,c4⟩:=hcell2 k hlt;have d0:=(hbw.cell (p:=⟨b,o+k*2,none⟩) hbl).trans c0;have d1:=(hbw.cell (p:=⟨b,o+k*2+1,none⟩) hbl).trans c1;have d3:=(hbw.cell (p:=⟨b2,o2+k*2,none⟩) hbl2).trans c3;have d4:=(hbw.cell (p:=⟨b2,o2+k*2+1,none⟩) hbl2).trans c4
   have hlt':(k:Int) < (ps.length:Int):=by omega
   have hge:(0:Int)≤(k:Int):=by omega
   have hz:=hbw.size;clear hcell hcell2 hc hc2 c0 c1 c3 c4;go_wp2_with fail
   go_region_with (go_at_call 117;refine (zuq _ _ _).mono ?_;rintro e w1 ⟨rfl,hb1⟩)
   all_goals
    go_wp2
    go_roundw
    case rel=>exact ⟨k+1,by omega,by go_num,hbw.trans (Below.mono (Below.trans ((Below.refl _ _).drew) ‹_›) hz)⟩
    case measure=>simp[intOf];omega
  ·go_wp2;go_ret;exact ⟨rfl,hbw⟩
def yatd (k:Int) (i:Nat):Se:=⟨k+2*(i:Int),k+2*(i:Int)+1⟩
def zew (k:Int) (n:Nat):List Se:=(List.range n).map (yatd k)
theorem zce (k:Int) (n:Nat):(zew k n).length=n:=by simp[zew]
theorem zxv (k:Int) (n i:Nat) (h:i < (zew k n).length):(zew k n)[i]=yatd k i:=by simp[zew]
def IsSes (xs:List Value) (n:Nat):Prop:=∀ k,k < n→∃ a b,xs[k*2]?=some (.int .i64 a)∧xs[k*2+1]?=some (.int .i64 b)
theorem yawb (ps:List Se):IsSes (ses ps) ps.length:=fun k hk=>⟨_,_,zgx ps k hk,zjj ps k hk⟩
theorem IsSes.put2 {ys:List Value} {n:Nat} (h:IsSes ys n) (hl:ys.length=n*2) (k:Nat) (a b:Int):IsSes (put2 ys k (.int .i64 a) (.int .i64 b)) n:=by
 intro j hj;rw[yabe (by omega),yabe (by omega)]
 by_cases e:j=k
 ·subst e;exact ⟨a,b,by simp,by simp⟩
 ·obtain ⟨x,y,h0,h1⟩:=h j hj;refine ⟨x,y,?_,?_⟩
  ·rw[if_neg (by omega),if_neg (by omega)];exact h0
  ·rw[if_neg (by omega),if_neg (by omega)];exact h1
theorem zqm (v:Value) (n:Nat) (xs:List Value) (k0:Int) (lo hi:Nat) (w:World) (h:Row w 150 2 lo hi v n xs) (hx:IsSes xs n) (hn:n≤2147483648) (h0:0≤k0) (h1:k0≤1099511627776) :
  Calls Tryz.prog 78 #[v,.int .i64 k0] w fun e w'=>e=.returned (.int .i64 (k0+2*n))∧Row w' 150 2 lo hi v n (ses (zew k0 n))∧w.grownBy w' v.ownBlock∧w'.heap.size=w.heap.size:=by
 obtain ⟨hlen,ao,cap,rfl,hcap,hc⟩:=h.rd;go_enter Tryz.func78,Tryz.ntmps78;go_wp2
 go_loopw [1,5] (fun c i wr=>∃ k:Nat,k≤n∧i=.int .i64 k∧c=.int .i64 (k0+2*k)∧(∃ ys:List Value,Row wr 150 2 lo hi (.slice ao n cap) n ys∧IsSes ys n∧∀ j,j < k*2→ys[j]?=(ses (zew k0 n))[j]?)∧w.grownBy wr (Value.slice ao n cap).ownBlock∧wr.heap.size=w.heap.size) (fun _ i _=>n - (intOf i).toNat)
 case atStart=>exact ⟨0,by omega,rfl,by simp,⟨xs,h,hx,fun j hj=>absurd hj (by omega)⟩,World.grownBy.refl _ _,rfl⟩
 case round =>
  obtain ⟨k,hk,rfl,rfl,⟨ys,hrow,hys,hd⟩,hout,hz⟩:=hrel;clear h hx hc hlen
  by_cases hlt:k < n
  ·obtain ⟨hlen,ao',cap',e',_,hc⟩:=hrow.rd
   cases e'
   obtain ⟨b,o,rfl,hbl,_⟩:=hc (by omega)
   obtain ⟨rfl,hb1,hb2,_,hfr,hcl⟩:=hrow.at
   obtain ⟨x,y,q0,q1⟩:=hys k hlt;have f0:=hfr (k*2);have f1:=hfr (k*2+1);have e0:=(hcl (k*2) (by omega)).trans q0;have e1:=(hcl (k*2+1) (by omega)).trans q1;have PH:=zaa (hrow.put2 k (.int .i64 (k0+2*k)) (.int .i64 (k0+2*k+1)));have OH:=zaa (zct (zct hout (a:=⟨b,k*2,none⟩) rfl (.int .i64 (k0+2*k))) (a:=⟨b,k*2+1,none⟩) rfl (.int .i64 (k0+2*k+1)));have IH:=zaa (hys.put2 hlen k (k0+2*k) (k0+2*k+1))
   have DH:Hid (∀ j,j < (k+1)*2→(put2 ys k (.int .i64 (k0+2*k)) (.int .i64 (k0+2*k+1)))[j]?=(ses (zew k0 n))[j]?):=by
    have hk':k < (zew k0 n).length:=by rw[zce];exact hlt
    have:=zwe (ps:=zew k0 n) hk' (by rw[zce];exact hlen) hd;rw[zxv] at this;exact this
   clear hrow hys hd hc hfr hcl q0 q1;go_wp2
   go_roundw
   case rel=>exact ⟨k+1,by omega,by go_num,by go_num,⟨_,PH.o,IH.o,DH.o⟩,OH.o,by simp[hz]⟩
   case measure=>simp[intOf];omega
  ·have e:k=n:=by omega
   subst e;have hl:=hrow.len;have RH:=zaa hrow;have DH:=zaa hd;clear hrow hys hd;go_wp2;go_ret;have e:=yail (ps:=zew k0 k) (by rw[zce];exact hl) (by rw[zce];exact DH.o);exact ⟨rfl,e ▸ RH.o,hout,hz⟩
theorem zpv (v:Value) (n:Nat) (k0:Int) (w:World) (h:RdE w v (zew k0 n)) (hn:n≤2147483648) (h0:0≤k0) (h1:k0≤1099511627776) :
  Calls Tryz.prog 80 #[v,.int .i64 k0] w fun e w'=>e=.returned (.int .i64 (k0+2*n))∧w'=w:=by
 obtain ⟨ao,cap,rfl,hcap,hc⟩:=h.shape;simp only[zce] at hcap hc ⊢;clear h;go_enter Tryz.func80,Tryz.ntmps80;go_wp2
 go_loop [1,5] (fun c i=>∃ k:Nat,k≤n∧i=.int .i64 k∧c=.int .i64 (k0+2*k)) (fun _ i=>n - (intOf i).toNat)
 case atStart=>exact ⟨0,by omega,rfl,by simp⟩
 case round =>
  obtain ⟨k,hk,rfl,rfl⟩:=hrel
  by_cases hlt:k < n
  ·obtain ⟨b,o,rfl,hbl,hcell⟩:=hc (by omega);obtain ⟨c0,c1⟩:=hcell k hlt;rw[zxv] at c0 c1;simp only[yatd] at c0 c1;clear hcell hc;go_wp2
   go_round
   case rel=>exact ⟨k+1,by omega,by go_num,by go_num⟩
   case measure=>simp[intOf];omega
  ·have e:k=n:=by omega
   subst e;go_wp2;go_ret;exact ⟨rfl,rfl⟩
end Go.Proofs.YtahiphgmhndgaaaGreatDoor
