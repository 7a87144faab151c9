/- Several texts laid together: Pm, PmT, Blk. -/
import Derived.Test.YtbohndgbfbfldaaGreatDoorZAL
import Derived.Test.YtbohndgbfbfldaaGreatDoorZAF
set_option maxHeartbeats 2000000
namespace Go.Proofs.YtbohndgbfbfldaaGreatDoor
open Go.RowKit
def RdPm (w:World) (v:Value) (ws:List Int) (ps:List St):Prop:=∃ vW vP,v=.agg #[vW,vP]∧RdI w vW ws∧RdS w vP ps
def RowPm (w:World) (lo hi:Nat) (v:Value) (ws:List Int) (ps:List St):Prop:=∃ vW vP,v=.agg #[vW,vP]∧Row w 3 1 lo hi vW ws.length (zbk ws)∧Row w 207 3 lo hi vP ps.length (sts ps)
theorem RowPm.rd {w:World} {lo hi:Nat} {v:Value} {ws:List Int} {ps:List St} (h:RowPm w lo hi v ws ps):RdPm w v ws ps:=by
 obtain ⟨vW,vP,rfl,h1,h2⟩:=h;exact ⟨vW,vP,rfl,h1.rd,h2.rd⟩
theorem RdPm.below {w w':World} {v:Value} {ws:List Int} {ps:List St} (h:RdPm w v ws ps) (hb:Below w.heap.size w w'):RdPm w' v ws ps:=by
 obtain ⟨vW,vP,rfl,h1,h2⟩:=h;exact ⟨vW,vP,rfl,Rd.below h1 hb,Rd.below h2 hb⟩
theorem RowPm.below {w w':World} {lo hi:Nat} {v:Value} {ws:List Int} {ps:List St} (h:RowPm w lo hi v ws ps) {B:Nat} (hb:Below B w w') (hB:hi≤B):RowPm w' lo hi v ws ps:=by
 obtain ⟨vW,vP,rfl,h1,h2⟩:=h;exact ⟨vW,vP,rfl,h1.below hb hB,h2.below hb hB⟩
theorem RowPm.outside {w w':World} {lo hi:Nat} {v:Value} {ws:List Int} {ps:List St} (h:RowPm w lo hi v ws ps) {lo' hi':Nat} (ho:Outside lo' hi' w w') (hd:hi≤lo'∨hi'≤lo) (hz:hi≤w.heap.size):RowPm w' lo hi v ws ps:=by
 obtain ⟨vW,vP,rfl,h1,h2⟩:=h;exact ⟨vW,vP,rfl,h1.outside ho hd hz,h2.outside ho hd hz⟩
theorem RowPm.wide {w:World} {lo hi:Nat} {v:Value} {ws:List Int} {ps:List St} (h:RowPm w lo hi v ws ps) {lo' hi':Nat} (h1:lo'≤lo) (h2:hi≤hi'):RowPm w lo' hi' v ws ps:=by
 obtain ⟨vW,vP,rfl,a,b⟩:=h;exact ⟨vW,vP,rfl,a.wide h1 h2,b.wide h1 h2⟩
theorem zyb (v:Value) (ws:List Int) (ps:List St) (w:World) (h:RdPm w v ws ps) (hw:ws.length≤1048576) (hp:ps.length≤1048576) :
  Calls Tryz.prog 129 #[v] w fun e w'=>∃ v',e=.returned v'∧RowPm w' w.heap.size w'.heap.size v' ws ps∧Below w.heap.size w w':=by
 obtain ⟨vW,vP,rfl,h1,h2⟩:=h;have H1:=zaa h1;have H2:=zaa h2;obtain ⟨aW,cW,eW,_⟩:=h1.shape;obtain ⟨aP,cP,eP,_⟩:=h2.shape;clear h1 h2;subst eW eP;go_enter Tryz.func129,Tryz.ntmps129;go_wp2_with fail
 have hb0:Below w.heap.size w (((w.alloc (.cells #[.slice aW ws.length cW,.slice aP ps.length cP] 52)).alloc (.cells #[.slice none 0 0,.slice none 0 0] 25)).alloc (.cells #[.slice none 0 0,.slice none 0 0] 25)):=by
  repeat (refine Below.alloc ?_ (by simp <;> omega) _)
  exact Below.refl _ _
 refine (zjt _ ws _ (Rd.below H1.o hb0) hw).mono ?_;rintro e w1 ⟨v1,rfl,hr1,hb1⟩;obtain ⟨_,a1,c1,rfl,_⟩:=hr1.rd
 have hz1:w.heap.size+3≤w1.heap.size:=by have:=hb1.size;simp at this;omega
 have V0:=(hb1.block w.heap.size (by simp <;> omega)).trans (zao (zao (zae rfl)));have V1:=(hb1.block (w.heap.size+1) (by simp <;> omega)).trans (zao (zae (by simp)));have V2:=(hb1.block (w.heap.size+1+1) (by simp <;> omega)).trans (zae (by simp));have B1:=zaa (hb0.trans (hb1.mono (by simp <;> omega)));have R1:=zaa hr1;obtain ⟨x1,x2,_,_⟩:=zac V0;obtain ⟨y1,y2,y3,y4⟩:=zac V2;have V2':=zcx V2 (.slice a1 ws.length c1);have V1':=(Below.heap_setCell w1 ⟨w.heap.size+1+1,0,none⟩ (.slice a1 ws.length c1) (w.heap.size+1) (by simp)).trans V1;have VH:=zaa (And.intro V1' V2');clear hb0 hb1 hr1 V0 V1 V2 V1' V2';go_wp2_with fail;have hb2:=B1.o.setCell (p:=⟨w.heap.size+1+1,0,none⟩) (by simp;omega) (.slice a1 ws.length c1);refine (zmr _ ps _ (Rd.below H2.o hb2) hp).mono ?_;rintro e w2 ⟨v2,rfl,hr2,hb3⟩;obtain ⟨_,a2,c2,rfl,_⟩:=hr2.rd
 have hz2:w1.heap.size≤w2.heap.size:=by have:=hb3.size;simpa using this
 have V1:=(hb3.block _ (by simp;omega)).trans VH.o.1;have V2:=(hb3.block _ (by simp;omega)).trans VH.o.2;have B2:=zaa (hb2.trans (hb3.mono (by simp;omega)));have K2:=zaa hb3;have R2:=zaa hr2;clear hb2 hb3 hr2;obtain ⟨z1,z2,z3,z4⟩:=zac V2;obtain ⟨t1,t2,t3,t4⟩:=zac V1;clear V1 V2;go_wp2;refine bodyPost_ret (v:=.agg #[.slice a1 ws.length c1,.slice a2 ps.length c2]) (by simp[results,Tryz.results129,go_sem,t1,t2]) rfl ?_;refine ⟨_,rfl,⟨_,_,rfl,(R1.o.same fun b h1 h2=>?_).wide (by simp;omega) (by simp;omega),(R2.o.same fun b h1 h2=>?_).wide (by simp;omega) (by simp)⟩,?_⟩
 ·simp only[World.size_alloc] at h1;rw[Below.heap_setCell _ _ _ _ (by simp only;omega),Below.heap_setCell _ _ _ _ (by simp only;omega),Below.heap_setCell _ _ _ _ (by simp only;omega),K2.o.block b (by simp;omega),Below.heap_setCell _ _ _ _ (by simp only;omega)]
 ·simp at h1;rw[Below.heap_setCell _ _ _ _ (by simp only;omega),Below.heap_setCell _ _ _ _ (by simp only;omega),Below.heap_setCell _ _ _ _ (by simp only;omega)]
 ·exact ((B2.o.setCell (by simp only;omega) _).setCell (by simp only;omega) _).setCell (by simp only;omega) _
theorem ztq (va vb:Value) (ws:List Int) (ps:List St) (w:World) (ha:RdPm w va ws ps) (hb:RdPm w vb ws ps) (hw:ws.length≤2147483648) (hp:ps.length≤2147483648) :
  Calls Tryz.prog 105 #[va,vb] w fun e w'=>e=.returned (.bool true)∧Below w.heap.size w w':=by
 obtain ⟨vW,vP,rfl,h1,h2⟩:=ha;obtain ⟨uW,uP,rfl,h3,h4⟩:=hb;obtain ⟨aW,cW,rfl,_⟩:=h1.shape;obtain ⟨aP,cP,rfl,_⟩:=h2.shape;obtain ⟨bW,dW,rfl,_⟩:=h3.shape;obtain ⟨bP,dP,rfl,_⟩:=h4.shape;have H1:=zaa h1;have H2:=zaa h2;have H3:=zaa h3;have H4:=zaa h4;clear h1 h2 h3 h4;go_enter Tryz.func105,Tryz.ntmps105;go_wp2_with fail
 have hb0:Below w.heap.size w ((w.alloc (.cells #[.slice aW ws.length cW,.slice aP ps.length cP] 25)).alloc (.cells #[.slice bW ws.length dW,.slice bP ps.length dP] 25)):=by
  repeat (refine Below.alloc ?_ (by simp <;> omega) _)
  exact Below.refl _ _
 refine (zdq _ _ ws _ (Rd.below H1.o hb0) (Rd.below H3.o hb0) hw).mono ?_;rintro e w1 ⟨rfl,hb1⟩
 have hz1:w.heap.size+2≤w1.heap.size:=by have:=hb1.size;simp at this;omega
 have V0:=(hb1.block w.heap.size (by simp <;> omega)).trans (zao (zae rfl));have V1:=(hb1.block (w.heap.size+1) (by simp <;> omega)).trans (zae (by simp));have B1:=hb0.trans (hb1.mono (by simp <;> omega));obtain ⟨x1,x2,_,_⟩:=zac V0;obtain ⟨y1,y2,_,_⟩:=zac V1;clear hb0 hb1 V0 V1;go_wp2_with fail;refine (zlb _ _ ps _ (Rd.below H2.o B1) (Rd.below H4.o B1) hp).mono ?_;rintro e w2 ⟨rfl,hb2⟩;go_wp2;go_ret;exact ⟨rfl,B1.trans (hb2.mono (by omega))⟩
theorem zrk (v:Value) (ws:List Int) (ps:List St) (k0:Int) (lo hi:Nat) (w:World) (h:RowPm w lo hi v ws ps) (hi1:hi≤w.heap.size) (hw:ws.length≤2147483648) (hp:ps.length≤2147483648) (h0:0≤k0) (h1:k0≤1073741824) :
  Calls Tryz.prog 111 #[v,.int .i64 k0] w fun e w'=>e=.returned (.int .i64 (k0+ws.length+3*ps.length))∧RowPm w' lo hi v (zcg k0 ws.length) (zca (k0+ws.length) ps.length)∧Outside lo hi w w':=by
 obtain ⟨vW,vP,rfl,h1,h2⟩:=h;obtain ⟨_,aW,cW,rfl,_⟩:=h1.rd;obtain ⟨_,aP,cP,rfl,_⟩:=h2.rd;have H1:=zaa h1;have H2:=zaa h2;clear h1 h2;go_enter Tryz.func111,Tryz.ntmps111;go_wp2_with fail;have hb0:Below w.heap.size w (w.alloc (.cells #[.slice aW ws.length cW,.slice aP ps.length cP] 25)):=(Below.refl _ _).alloc (Nat.le_refl _) _;refine (zda _ _ (zbk ws) k0 lo hi _ (H1.o.below hb0 hi1) (fun u hu=>by simp only[zbk,List.mem_map] at hu;obtain ⟨z,_,rfl⟩:=hu;exact ⟨z,rfl⟩) hw h0 (by omega)).mono ?_;rintro e w1 ⟨rfl,hr1,hg1,hz1⟩;simp only[World.size_alloc] at hz1;have ho1:=Row.grown_outside H1.o hg1;have V0:=(ho1.block w.heap.size (by simp) (.inr hi1)).trans (zae rfl);obtain ⟨x1,x2,_,_⟩:=zac V0;have O1:=zaa ((Outside.of_below (lo:=lo) (hi:=hi) hb0).trans ho1);have R1:=zaa hr1;have R2:=zaa ((H2.o.below hb0 hi1).apart (H1.o.below hb0 hi1) (by decide) hg1);clear hr1 hg1 ho1 V0;go_wp2_with fail;refine (zjo _ _ (sts ps) (k0+ws.length) lo hi _ R2.o (yafk ps) hp (by omega) (by omega)).mono ?_;rintro e w2 ⟨rfl,hr2,hg2,hz2⟩;have O2:=zaa (O1.o.trans (Row.grown_outside R2.o hg2));have R3:=zaa (R1.o.apart R2.o (by decide) hg2);have R4:=zaa hr2;clear hr2 hg2;go_wp2;go_ret;refine ⟨rfl,⟨_,_,rfl,?_,?_⟩,O2.o⟩
 ·rw[zas];exact R3.o
 ·rw[zav];exact R4.o
theorem zss (v:Value) (n m:Nat) (k0:Int) (w:World) (h:RdPm w v (zcg k0 n) (zca (k0+n) m)) (hw:n≤2147483648) (hp:m≤2147483648) (h0:0≤k0) (h1:k0≤1073741824) :
  Calls Tryz.prog 114 #[v,.int .i64 k0] w fun e w'=>e=.returned (.int .i64 (k0+n+3*m))∧Below w.heap.size w w':=by
 obtain ⟨vW,vP,rfl,h1,h2⟩:=h;obtain ⟨aW,cW,rfl,_⟩:=h1.shape;obtain ⟨aP,cP,rfl,_⟩:=h2.shape;simp only[zas,zav] at *;have H1:=zaa h1;have H2:=zaa h2;clear h1 h2;have hb0:Below w.heap.size w (w.alloc (.cells #[.slice aW n cW,.slice aP m cP] 25)):=(Below.refl _ _).alloc (Nat.le_refl _) _;go_enter Tryz.func114,Tryz.ntmps114;go_wp2_with fail;refine (zcw _ n k0 _ (Rd.below H1.o hb0) hw h0 (by omega)).mono ?_;rintro e w1 ⟨rfl,rfl⟩;go_wp2_with fail;refine (zjp _ m (k0+n) _ (Rd.below H2.o hb0) hp (by omega) (by omega)).mono ?_;rintro e w2 ⟨rfl,rfl⟩;go_wp2;go_ret;exact ⟨rfl,hb0⟩
theorem zlc (aW aP:Option Addr) (n m cW cP:Nat) (w:World) (hn:n≤maxLen) (hm:m≤maxLen) :
  Calls Tryz.prog 116 #[.agg #[.slice aW n cW,.slice aP m cP],.int .i64 1048576] w fun e w'=>e=.returned (.int .i64 (if 1048576 < n+m then -1 else 1048576 - n - m))∧Below w.heap.size w w':=by
 have hb0:Below w.heap.size w (w.alloc (.cells #[.slice aW n cW,.slice aP m cP] 52)):=(Below.refl _ _).alloc (Nat.le_refl _) _
 by_cases c1:(1048576:Int) < (n:Int)
 ·have e1:zdr 1048576 n=-1:=by unfold zdr;rw[if_pos c1]
  have e2:(if 1048576 < n+m then -1 else 1048576 - n - m:Int)=-1:=by rw[if_pos (by omega)]
  rw[e2];have E1:=zaa e1;clear e1 e2;go_enter Tryz.func116,Tryz.ntmps116;go_wp2_with (go_at_call 67;refine (zbw aW n cW _ _ hn (by omega) (by omega)).mono ?_;rw[E1.o];rintro e w' ⟨rfl,rfl⟩);go_ret;exact ⟨rfl,hb0⟩
 ·have e1:zdr 1048576 n=1048576 - n:=by unfold zdr;rw[if_neg c1]
  have E1:=zaa e1;clear e1
  by_cases c2:(1048576 - n:Int) < (m:Int)
  ·have e2:zdr (1048576 - n) m=-1:=by unfold zdr;rw[if_pos c2]
   have e3:(if 1048576 < n+m then -1 else 1048576 - n - m:Int)=-1:=by rw[if_pos (by omega)]
   rw[e3];have E2:=zaa e2;clear e2 e3;go_enter Tryz.func116,Tryz.ntmps116;go_wp2_with (first | (go_at_call 67;refine (zbw aW n cW _ _ hn (by omega) (by omega)).mono ?_;rw[E1.o];rintro e w' ⟨rfl,rfl⟩) | (go_at_call 166;refine (zgh aP m cP _ _ hm (by omega) (by omega)).mono ?_;rw[E2.o];rintro e w' ⟨rfl,rfl⟩));go_ret;exact ⟨rfl,hb0⟩
  ·have e2:zdr (1048576 - n) m=1048576 - n - m:=by unfold zdr;rw[if_neg c2]
   have e3:(if 1048576 < n+m then -1 else 1048576 - n - m:Int)=1048576 - n - m:=by rw[if_neg (by omega)]
   rw[e3];have E2:=zaa e2;clear e2 e3;go_enter Tryz.func116,Tryz.ntmps116;go_wp2_with (first | (go_at_call 67;refine (zbw aW n cW _ _ hn (by omega) (by omega)).mono ?_;rw[E1.o];rintro e w' ⟨rfl,rfl⟩) | (go_at_call 166;refine (zgh aP m cP _ _ hm (by omega) (by omega)).mono ?_;rw[E2.o];rintro e w' ⟨rfl,rfl⟩));go_ret;exact ⟨rfl,hb0⟩
def RdBlk (w:World) (v:Value) (ws:List Int) (ps:List Se):Prop:=∃ vW vP,v=.agg #[vW,vP]∧RdI w vW ws∧RdE w vP ps
def RowZ (w:World) (lo hi:Nat) (v:Value) (n:Nat) (xs:List Value):Prop:=∃ e,e≠208∧Row w e 1 lo hi v n xs
theorem RowZ.rd {w:World} {lo hi:Nat} {v:Value} {n:Nat} {xs:List Value} (h:RowZ w lo hi v n xs):Rd w 1 v n xs:=by
 obtain ⟨_,_,h⟩:=h;exact h.rd
theorem RowZ.below {w w':World} {lo hi:Nat} {v:Value} {n:Nat} {xs:List Value} (h:RowZ w lo hi v n xs) {B:Nat} (hb:Below B w w') (hB:hi≤B):RowZ w' lo hi v n xs:=by
 obtain ⟨e,he,h⟩:=h;exact ⟨e,he,h.below hb hB⟩
theorem RowZ.outside {w w':World} {lo hi:Nat} {v:Value} {n:Nat} {xs:List Value} (h:RowZ w lo hi v n xs) {lo' hi':Nat} (ho:Outside lo' hi' w w') (hd:hi≤lo'∨hi'≤lo) (hz:hi≤w.heap.size):RowZ w' lo hi v n xs:=by
 obtain ⟨e,he,h⟩:=h;exact ⟨e,he,h.outside ho hd hz⟩
theorem RowZ.wide {w:World} {lo hi:Nat} {v:Value} {n:Nat} {xs:List Value} (h:RowZ w lo hi v n xs) {lo' hi':Nat} (h1:lo'≤lo) (h2:hi≤hi'):RowZ w lo' hi' v n xs:=by
 obtain ⟨e,he,h⟩:=h;exact ⟨e,he,h.wide h1 h2⟩
theorem Row.z {w:World} {lo hi:Nat} {v:Value} {n:Nat} {xs:List Value} (h:Row w 3 1 lo hi v n xs):RowZ w lo hi v n xs:=⟨3,by decide,h⟩
def RowBlk (w:World) (lo hi:Nat) (v:Value) (ws:List Int) (ps:List Se):Prop:=∃ vW vP,v=.agg #[vW,vP]∧RowZ w lo hi vW ws.length (zbk ws)∧Row w 208 2 lo hi vP ps.length (ses ps)
theorem RowBlk.rd {w:World} {lo hi:Nat} {v:Value} {ws:List Int} {ps:List Se} (h:RowBlk w lo hi v ws ps):RdBlk w v ws ps:=by
 obtain ⟨vW,vP,rfl,h1,h2⟩:=h;exact ⟨vW,vP,rfl,h1.rd,h2.rd⟩
theorem RdBlk.below {w w':World} {v:Value} {ws:List Int} {ps:List Se} (h:RdBlk w v ws ps) (hb:Below w.heap.size w w'):RdBlk w' v ws ps:=by
 obtain ⟨vW,vP,rfl,h1,h2⟩:=h;exact ⟨vW,vP,rfl,Rd.below h1 hb,Rd.below h2 hb⟩
theorem RowBlk.below {w w':World} {lo hi:Nat} {v:Value} {ws:List Int} {ps:List Se} (h:RowBlk w lo hi v ws ps) {B:Nat} (hb:Below B w w') (hB:hi≤B):RowBlk w' lo hi v ws ps:=by
 obtain ⟨vW,vP,rfl,h1,h2⟩:=h;exact ⟨vW,vP,rfl,h1.below hb hB,h2.below hb hB⟩
theorem RowBlk.outside {w w':World} {lo hi:Nat} {v:Value} {ws:List Int} {ps:List Se} (h:RowBlk w lo hi v ws ps) {lo' hi':Nat} (ho:Outside lo' hi' w w') (hd:hi≤lo'∨hi'≤lo) (hz:hi≤w.heap.size):RowBlk w' lo hi v ws ps:=by
 obtain ⟨vW,vP,rfl,h1,h2⟩:=h;exact ⟨vW,vP,rfl,h1.outside ho hd hz,h2.outside ho hd hz⟩
theorem RowBlk.wide {w:World} {lo hi:Nat} {v:Value} {ws:List Int} {ps:List Se} (h:RowBlk w lo hi v ws ps) {lo' hi':Nat} (h1:lo'≤lo) (h2:hi≤hi'):RowBlk w lo' hi' v ws ps:=by
 obtain ⟨vW,vP,rfl,a,b⟩:=h;exact ⟨vW,vP,rfl,a.wide h1 h2,b.wide h1 h2⟩
theorem zug (v:Value) (ws:List Int) (ps:List Se) (w:World) (h:RdBlk w v ws ps) (hw:ws.length≤1048576) (hp:ps.length≤1048576) :
  Calls Tryz.prog 130 #[v] w fun e w'=>∃ v',e=.returned v'∧RowBlk w' w.heap.size w'.heap.size v' ws ps∧Below w.heap.size w w':=by
 obtain ⟨vW,vP,rfl,h1,h2⟩:=h;have H1:=zaa h1;have H2:=zaa h2;obtain ⟨aW,cW,eW,_⟩:=h1.shape;obtain ⟨aP,cP,eP,_⟩:=h2.shape;clear h1 h2;subst eW eP;go_enter Tryz.func130,Tryz.ntmps130;go_wp2_with fail
 have hb0:Below w.heap.size w (((w.alloc (.cells #[.slice aW ws.length cW,.slice aP ps.length cP] 55)).alloc (.cells #[.slice none 0 0,.slice none 0 0] 28)).alloc (.cells #[.slice none 0 0,.slice none 0 0] 28)):=by
  repeat (refine Below.alloc ?_ (by simp <;> omega) _)
  exact Below.refl _ _
 refine (zjt _ ws _ (Rd.below H1.o hb0) hw).mono ?_;rintro e w1 ⟨v1,rfl,hr1,hb1⟩;obtain ⟨_,a1,c1,rfl,_⟩:=hr1.rd
 have hz1:w.heap.size+3≤w1.heap.size:=by have:=hb1.size;simp at this;omega
 have V0:=(hb1.block w.heap.size (by simp <;> omega)).trans (zao (zao (zae rfl)));have V1:=(hb1.block (w.heap.size+1) (by simp <;> omega)).trans (zao (zae (by simp)));have V2:=(hb1.block (w.heap.size+1+1) (by simp <;> omega)).trans (zae (by simp));have B1:=zaa (hb0.trans (hb1.mono (by simp <;> omega)));have R1:=zaa hr1;obtain ⟨x1,x2,_,_⟩:=zac V0;obtain ⟨y1,y2,y3,y4⟩:=zac V2;have V2':=zcx V2 (.slice a1 ws.length c1);have V1':=(Below.heap_setCell w1 ⟨w.heap.size+1+1,0,none⟩ (.slice a1 ws.length c1) (w.heap.size+1) (by simp)).trans V1;have VH:=zaa (And.intro V1' V2');clear hb0 hb1 hr1 V0 V1 V2 V1' V2';go_wp2_with fail;have hb2:=B1.o.setCell (p:=⟨w.heap.size+1+1,0,none⟩) (by simp;omega) (.slice a1 ws.length c1);refine (zlm _ ps _ (Rd.below H2.o hb2) hp).mono ?_;rintro e w2 ⟨v2,rfl,hr2,hb3⟩;obtain ⟨_,a2,c2,rfl,_⟩:=hr2.rd
 have hz2:w1.heap.size≤w2.heap.size:=by have:=hb3.size;simpa using this
 have V1:=(hb3.block _ (by simp;omega)).trans VH.o.1;have V2:=(hb3.block _ (by simp;omega)).trans VH.o.2;have B2:=zaa (hb2.trans (hb3.mono (by simp;omega)));have K2:=zaa hb3;have R2:=zaa hr2;clear hb2 hb3 hr2;obtain ⟨z1,z2,z3,z4⟩:=zac V2;obtain ⟨t1,t2,t3,t4⟩:=zac V1;clear V1 V2;go_wp2;refine bodyPost_ret (v:=.agg #[.slice a1 ws.length c1,.slice a2 ps.length c2]) (by simp[results,Tryz.results130,go_sem,t1,t2]) rfl ?_;refine ⟨_,rfl,⟨_,_,rfl,((R1.o.same fun b h1 h2=>?_).wide (by simp;omega) (by simp;omega)).z,(R2.o.same fun b h1 h2=>?_).wide (by simp;omega) (by simp)⟩,?_⟩
 ·simp only[World.size_alloc] at h1;rw[Below.heap_setCell _ _ _ _ (by simp only;omega),Below.heap_setCell _ _ _ _ (by simp only;omega),Below.heap_setCell _ _ _ _ (by simp only;omega),K2.o.block b (by simp;omega),Below.heap_setCell _ _ _ _ (by simp only;omega)]
 ·simp at h1;rw[Below.heap_setCell _ _ _ _ (by simp only;omega),Below.heap_setCell _ _ _ _ (by simp only;omega),Below.heap_setCell _ _ _ _ (by simp only;omega)]
 ·exact ((B2.o.setCell (by simp only;omega) _).setCell (by simp only;omega) _).setCell (by simp only;omega) _
end Go.Proofs.YtbohndgbfbfldaaGreatDoor
