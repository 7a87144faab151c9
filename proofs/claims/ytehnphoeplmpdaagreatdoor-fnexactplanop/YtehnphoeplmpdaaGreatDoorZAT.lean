/- Several texts laid together: Pm, PmT, PmOK, Ev, PmOKI. -/
import Derived.Test.YtehnphoeplmpdaaGreatDoorZAS
import Derived.Test.YtehnphoeplmpdaaGreatDoorZAE
set_option maxHeartbeats 4000000
namespace Go.Proofs.YtehnphoeplmpdaaGreatDoor
open Go.RowKit
def RdPm (w:World) (v:Value) (ws:List Int) (ps:List St):Prop:=∃ vW vP,v=.agg #[vW,vP]∧RdI w vW ws∧RdS w vP ps
def RowPm (w:World) (lo hi:Nat) (v:Value) (ws:List Int) (ps:List St):Prop:=∃ vW vP,v=.agg #[vW,vP]∧Row w 3 1 lo hi vW ws.length (zeg ws)∧Row w 190 3 lo hi vP ps.length (sts ps)
theorem RowPm.rd {w:World} {lo hi:Nat} {v:Value} {ws:List Int} {ps:List St} (h:RowPm w lo hi v ws ps):RdPm w v ws ps:=by
 obtain ⟨vW,vP,rfl,h1,h2⟩:=h;exact ⟨vW,vP,rfl,h1.rd,h2.rd⟩
theorem RdPm.below {w w':World} {v:Value} {ws:List Int} {ps:List St} (h:RdPm w v ws ps) (hb:Below w.heap.size w w'):RdPm w' v ws ps:=by
 obtain ⟨vW,vP,rfl,h1,h2⟩:=h;exact ⟨vW,vP,rfl,Rd.below h1 hb,Rd.below h2 hb⟩
theorem RowPm.below {w w':World} {lo hi:Nat} {v:Value} {ws:List Int} {ps:List St} (h:RowPm w lo hi v ws ps) {B:Nat} (hb:Below B w w') (hB:hi≤B):RowPm w' lo hi v ws ps:=by
 obtain ⟨vW,vP,rfl,h1,h2⟩:=h;exact ⟨vW,vP,rfl,h1.below hb hB,h2.below hb hB⟩
theorem RowPm.outside {w w':World} {lo hi:Nat} {v:Value} {ws:List Int} {ps:List St} (h:RowPm w lo hi v ws ps) {lo' hi':Nat} (ho:Outside lo' hi' w w') (hd:hi≤lo'∨hi'≤lo) (hz:hi≤w.heap.size):RowPm w' lo hi v ws ps:=by
 obtain ⟨vW,vP,rfl,h1,h2⟩:=h;exact ⟨vW,vP,rfl,h1.outside ho hd hz,h2.outside ho hd hz⟩
theorem RowPm.wide {w:World} {lo hi:Nat} {v:Value} {ws:List Int} {ps:List St} (h:RowPm w lo hi v ws ps) {lo' hi':Nat} (h1:lo'≤lo) (h2:hi≤hi'):RowPm w lo' hi' v ws ps:=by
 obtain ⟨vW,vP,rfl,a,b⟩:=h;exact ⟨vW,vP,rfl,a.wide h1 h2,b.wide h1 h2⟩
theorem yalp (v:Value) (ws:List Int) (ps:List St) (w:World) (h:RdPm w v ws ps) (hw:ws.length≤1048576) (hp:ps.length≤1048576) :
  Calls Tryz.prog 34 #[v] w fun e w'=>∃ v',e=.returned v'∧RowPm w' w.heap.size w'.heap.size v' ws ps∧Below w.heap.size w w':=by
 obtain ⟨vW,vP,rfl,h1,h2⟩:=h;have H1:=zaa h1;have H2:=zaa h2;obtain ⟨aW,cW,eW,_⟩:=h1.shape;obtain ⟨aP,cP,eP,_⟩:=h2.shape;clear h1 h2;subst eW eP;go_enter Tryz.func34,Tryz.ntmps34;go_wp2_with fail
 have hb0:Below w.heap.size w (((w.alloc (.cells #[.slice aW ws.length cW,.slice aP ps.length cP] 25)).alloc (.cells #[.slice none 0 0,.slice none 0 0] 43)).alloc (.cells #[.slice none 0 0,.slice none 0 0] 43)):=by
  repeat (refine Below.alloc ?_ (by simp <;> omega) _)
  exact Below.refl _ _
 refine (zre _ ws _ (Rd.below H1.o hb0) hw).mono ?_;rintro e w1 ⟨v1,rfl,hr1,hb1⟩;obtain ⟨_,a1,c1,rfl,_⟩:=hr1.rd
 have hz1:w.heap.size+3≤w1.heap.size:=by have:=hb1.size;simp at this;omega
 have V0:=(hb1.block w.heap.size (by simp <;> omega)).trans (zat (zat (zah rfl)));have V1:=(hb1.block (w.heap.size+1) (by simp <;> omega)).trans (zat (zah (by simp)));have V2:=(hb1.block (w.heap.size+1+1) (by simp <;> omega)).trans (zah (by simp));have B1:=zaa (hb0.trans (hb1.mono (by simp <;> omega)));have R1:=zaa hr1;obtain ⟨x1,x2,_,_⟩:=zac V0;obtain ⟨y1,y2,y3,y4⟩:=zac V2;have V2':=zte V2 (.slice a1 ws.length c1);have V1':=(Below.heap_setCell w1 ⟨w.heap.size+1+1,0,none⟩ (.slice a1 ws.length c1) (w.heap.size+1) (by simp)).trans V1;have VH:=zaa (And.intro V1' V2');clear hb0 hb1 hr1 V0 V1 V2 V1' V2';go_wp2_with fail;have hb2:=B1.o.setCell (p:=⟨w.heap.size+1+1,0,none⟩) (by simp;omega) (.slice a1 ws.length c1);refine (zuv _ ps _ (Rd.below H2.o hb2) hp).mono ?_;rintro e w2 ⟨v2,rfl,hr2,hb3⟩;obtain ⟨_,a2,c2,rfl,_⟩:=hr2.rd
 have hz2:w1.heap.size≤w2.heap.size:=by have:=hb3.size;simpa using this
 have V1:=(hb3.block _ (by simp;omega)).trans VH.o.1;have V2:=(hb3.block _ (by simp;omega)).trans VH.o.2;have B2:=zaa (hb2.trans (hb3.mono (by simp;omega)));have K2:=zaa hb3;have R2:=zaa hr2;clear hb2 hb3 hr2;obtain ⟨z1,z2,z3,z4⟩:=zac V2;obtain ⟨t1,t2,t3,t4⟩:=zac V1;clear V1 V2;go_wp2;refine bodyPost_ret (v:=.agg #[.slice a1 ws.length c1,.slice a2 ps.length c2]) (by simp[results,Tryz.results34,go_sem,t1,t2]) rfl ?_;refine ⟨_,rfl,⟨_,_,rfl,(R1.o.same fun b h1 h2=>?_).wide (by simp;omega) (by simp;omega),(R2.o.same fun b h1 h2=>?_).wide (by simp;omega) (by simp)⟩,?_⟩
 ·simp only[World.size_alloc] at h1;rw[Below.heap_setCell _ _ _ _ (by simp only;omega),Below.heap_setCell _ _ _ _ (by simp only;omega),Below.heap_setCell _ _ _ _ (by simp only;omega),K2.o.block b (by simp;omega),Below.heap_setCell _ _ _ _ (by simp only;omega)]
 ·simp at h1;rw[Below.heap_setCell _ _ _ _ (by simp only;omega),Below.heap_setCell _ _ _ _ (by simp only;omega),Below.heap_setCell _ _ _ _ (by simp only;omega)]
 ·exact ((B2.o.setCell (by simp only;omega) _).setCell (by simp only;omega) _).setCell (by simp only;omega) _
theorem yael (va vb:Value) (ws:List Int) (ps:List St) (w:World) (ha:RdPm w va ws ps) (hb:RdPm w vb ws ps) (hw:ws.length≤2147483648) (hp:ps.length≤2147483648) :
  Calls Tryz.prog 45 #[va,vb] w fun e w'=>e=.returned (.bool true)∧Below w.heap.size w w':=by
 obtain ⟨vW,vP,rfl,h1,h2⟩:=ha;obtain ⟨uW,uP,rfl,h3,h4⟩:=hb;obtain ⟨aW,cW,rfl,_⟩:=h1.shape;obtain ⟨aP,cP,rfl,_⟩:=h2.shape;obtain ⟨bW,dW,rfl,_⟩:=h3.shape;obtain ⟨bP,dP,rfl,_⟩:=h4.shape;have H1:=zaa h1;have H2:=zaa h2;have H3:=zaa h3;have H4:=zaa h4;clear h1 h2 h3 h4;go_enter Tryz.func45,Tryz.ntmps45;go_wp2_with fail
 have hb0:Below w.heap.size w ((w.alloc (.cells #[.slice aW ws.length cW,.slice aP ps.length cP] 43)).alloc (.cells #[.slice bW ws.length dW,.slice bP ps.length dP] 43)):=by
  repeat (refine Below.alloc ?_ (by simp <;> omega) _)
  exact Below.refl _ _
 refine (znv _ _ ws _ (Rd.below H1.o hb0) (Rd.below H3.o hb0) hw).mono ?_;rintro e w1 ⟨rfl,hb1⟩
 have hz1:w.heap.size+2≤w1.heap.size:=by have:=hb1.size;simp at this;omega
 have V0:=(hb1.block w.heap.size (by simp <;> omega)).trans (zat (zah rfl));have V1:=(hb1.block (w.heap.size+1) (by simp <;> omega)).trans (zah (by simp));have B1:=hb0.trans (hb1.mono (by simp <;> omega));obtain ⟨x1,x2,_,_⟩:=zac V0;obtain ⟨y1,y2,_,_⟩:=zac V1;clear hb0 hb1 V0 V1;go_wp2_with fail;refine (zsb _ _ ps _ (Rd.below H2.o B1) (Rd.below H4.o B1) hp).mono ?_;rintro e w2 ⟨rfl,hb2⟩;go_wp2;go_ret;exact ⟨rfl,B1.trans (hb2.mono (by omega))⟩
theorem yace (v:Value) (ws:List Int) (ps:List St) (k0:Int) (lo hi:Nat) (w:World) (h:RowPm w lo hi v ws ps) (hi1:hi≤w.heap.size) (hw:ws.length≤2147483648) (hp:ps.length≤2147483648) (h0:0≤k0) (h1:k0≤1073741824) :
  Calls Tryz.prog 47 #[v,.int .i64 k0] w fun e w'=>e=.returned (.int .i64 (k0+ws.length+3*ps.length))∧RowPm w' lo hi v (zis k0 ws.length) (zef (k0+ws.length) ps.length)∧Outside lo hi w w':=by
 obtain ⟨vW,vP,rfl,h1,h2⟩:=h;obtain ⟨_,aW,cW,rfl,_⟩:=h1.rd;obtain ⟨_,aP,cP,rfl,_⟩:=h2.rd;have H1:=zaa h1;have H2:=zaa h2;clear h1 h2;go_enter Tryz.func47,Tryz.ntmps47;go_wp2_with fail;have hb0:Below w.heap.size w (w.alloc (.cells #[.slice aW ws.length cW,.slice aP ps.length cP] 43)):=(Below.refl _ _).alloc (Nat.le_refl _) _;refine (zmo _ _ (zeg ws) k0 lo hi _ (H1.o.below hb0 hi1) (fun u hu=>by simp only[zeg,List.mem_map] at hu;obtain ⟨z,_,rfl⟩:=hu;exact ⟨z,rfl⟩) hw h0 (by omega)).mono ?_;rintro e w1 ⟨rfl,hr1,hg1,hz1⟩;simp only[World.size_alloc] at hz1;have ho1:=Row.grown_outside H1.o hg1;have V0:=(ho1.block w.heap.size (by simp) (.inr hi1)).trans (zah rfl);obtain ⟨x1,x2,_,_⟩:=zac V0;have O1:=zaa ((Outside.of_below (lo:=lo) (hi:=hi) hb0).trans ho1);have R1:=zaa hr1;have R2:=zaa ((H2.o.below hb0 hi1).apart (H1.o.below hb0 hi1) (by decide) hg1);clear hr1 hg1 ho1 V0;go_wp2_with fail;refine (zqu _ _ (sts ps) (k0+ws.length) lo hi _ R2.o (yasx ps) hp (by omega) (by omega)).mono ?_;rintro e w2 ⟨rfl,hr2,hg2,hz2⟩;have O2:=zaa (O1.o.trans (Row.grown_outside R2.o hg2));have R3:=zaa (R1.o.apart R2.o (by decide) hg2);have R4:=zaa hr2;clear hr2 hg2;go_wp2;go_ret;refine ⟨rfl,⟨_,_,rfl,?_,?_⟩,O2.o⟩
 ·rw[zcq];exact R3.o
 ·rw[zcv];exact R4.o
theorem yacg (v:Value) (n m:Nat) (k0:Int) (w:World) (h:RdPm w v (zis k0 n) (zef (k0+n) m)) (hw:n≤2147483648) (hp:m≤2147483648) (h0:0≤k0) (h1:k0≤1073741824) :
  Calls Tryz.prog 127 #[v,.int .i64 k0] w fun e w'=>e=.returned (.int .i64 (k0+n+3*m))∧Below w.heap.size w w':=by
 obtain ⟨vW,vP,rfl,h1,h2⟩:=h;obtain ⟨aW,cW,rfl,_⟩:=h1.shape;obtain ⟨aP,cP,rfl,_⟩:=h2.shape;simp only[zcq,zcv] at *;have H1:=zaa h1;have H2:=zaa h2;clear h1 h2;have hb0:Below w.heap.size w (w.alloc (.cells #[.slice aW n cW,.slice aP m cP] 43)):=(Below.refl _ _).alloc (Nat.le_refl _) _;go_enter Tryz.func127,Tryz.ntmps127;go_wp2_with fail;refine (zmi _ n k0 _ (Rd.below H1.o hb0) hw h0 (by omega)).mono ?_;rintro e w1 ⟨rfl,rfl⟩;go_wp2_with fail;refine (zqi _ m (k0+n) _ (Rd.below H2.o hb0) hp (by omega) (by omega)).mono ?_;rintro e w2 ⟨rfl,rfl⟩;go_wp2;go_ret;exact ⟨rfl,hb0⟩
theorem zta (aW aP:Option Addr) (n m cW cP:Nat) (w:World) (hn:n≤maxLen) (hm:m≤maxLen) :
  Calls Tryz.prog 29 #[.agg #[.slice aW n cW,.slice aP m cP],.int .i64 1048576] w fun e w'=>e=.returned (.int .i64 (if 1048576 < n+m then -1 else 1048576 - n - m))∧Below w.heap.size w w':=by
 have hb0:Below w.heap.size w (w.alloc (.cells #[.slice aW n cW,.slice aP m cP] 25)):=(Below.refl _ _).alloc (Nat.le_refl _) _
 by_cases c1:(1048576:Int) < (n:Int)
 ·have e1:zjg 1048576 n=-1:=by unfold zjg;rw[if_pos c1]
  have e2:(if 1048576 < n+m then -1 else 1048576 - n - m:Int)=-1:=by rw[if_pos (by omega)]
  rw[e2];have E1:=zaa e1;clear e1 e2;go_enter Tryz.func29,Tryz.ntmps29;go_wp2_with (go_at_call 51;refine (zet aW n cW _ _ hn (by omega) (by omega)).mono ?_;rw[E1.o];rintro e w' ⟨rfl,rfl⟩);go_ret;exact ⟨rfl,hb0⟩
 ·have e1:zjg 1048576 n=1048576 - n:=by unfold zjg;rw[if_neg c1]
  have E1:=zaa e1;clear e1
  by_cases c2:(1048576 - n:Int) < (m:Int)
  ·have e2:zjg (1048576 - n) m=-1:=by unfold zjg;rw[if_pos c2]
   have e3:(if 1048576 < n+m then -1 else 1048576 - n - m:Int)=-1:=by rw[if_pos (by omega)]
   rw[e3];have E2:=zaa e2;clear e2 e3;go_enter Tryz.func29,Tryz.ntmps29;go_wp2_with (first | (go_at_call 51;refine (zet aW n cW _ _ hn (by omega) (by omega)).mono ?_;rw[E1.o];rintro e w' ⟨rfl,rfl⟩) | (go_at_call 74;refine (zml aP m cP _ _ hm (by omega) (by omega)).mono ?_;rw[E2.o];rintro e w' ⟨rfl,rfl⟩));go_ret;exact ⟨rfl,hb0⟩
  ·have e2:zjg (1048576 - n) m=1048576 - n - m:=by unfold zjg;rw[if_neg c2]
   have e3:(if 1048576 < n+m then -1 else 1048576 - n - m:Int)=1048576 - n - m:=by rw[if_neg (by omega)]
   rw[e3];have E2:=zaa e2;clear e2 e3;go_enter Tryz.func29,Tryz.ntmps29;go_wp2_with (first | (go_at_call 51;refine (zet aW n cW _ _ hn (by omega) (by omega)).mono ?_;rw[E1.o];rintro e w' ⟨rfl,rfl⟩) | (go_at_call 74;refine (zml aP m cP _ _ hm (by omega) (by omega)).mono ?_;rw[E2.o];rintro e w' ⟨rfl,rfl⟩));go_ret;exact ⟨rfl,hb0⟩
def pmB (ws:List Int) (ps:List St):Bool:=decide (ws.length=336∧ps.length≤400∧(∀ k (h:k < ws.length),zbb ws[k]=true)∧∀ k (h:k < ps.length),zbn ps[k].at_=true∧zbb ps[k].val=true)
theorem yann {ws:List Int} {ps:List St} (h1:ws.length=336) (h2:ps.length≤400) (h3:∀ k (h:k < ws.length),zbb ws[k]=true) (h4:∀ k (h:k < ps.length),zbn ps[k].at_=true∧zbb ps[k].val=true):pmB ws ps=true:=decide_eq_true ⟨h1,h2,h3,h4⟩
theorem zlg {ws:List Int} {ps:List St} (h:pmB ws ps=true):ws.length=336∧ps.length≤400:=⟨(of_decide_eq_true h).1,(of_decide_eq_true h).2.1⟩
theorem yaln {ws:List Int} {ps:List St} (h:pmB ws ps=true) (k:Nat) (hk:k < ws.length):zbb ws[k]=true:=(of_decide_eq_true h).2.2.1 k hk
theorem zvg {ws:List Int} {ps:List St} (h:pmB ws ps=true) (k:Nat) (hk:k < ps.length):zbn ps[k].at_=true∧zbb ps[k].val=true:=(of_decide_eq_true h).2.2.2 k hk
theorem yabj {ws:List Int} {ps:List St} (h:¬ ws.length=336):pmB ws ps=false:=decide_eq_false (fun x=>h x.1)
theorem yacb {ws:List Int} {ps:List St} (h:400 < ps.length):pmB ws ps=false:=decide_eq_false (fun x=>absurd x.2.1 (by omega))
theorem yasi {ws:List Int} {ps:List St} {k:Nat} (hk:k < ws.length) (h:zbb ws[k]=false):pmB ws ps=false:=decide_eq_false (fun x=>by have:=x.2.2.1 k hk;rw[h] at this;cases this)
theorem yara {ws:List Int} {ps:List St} {k:Nat} (hk:k < ps.length) (h:zbn ps[k].at_=false):pmB ws ps=false:=decide_eq_false (fun x=>by have:=(x.2.2.2 k hk).1;rw[h] at this;cases this)
theorem yaru {ws:List Int} {ps:List St} {k:Nat} (hk:k < ps.length) (h:zbb ps[k].val=false):pmB ws ps=false:=decide_eq_false (fun x=>by have:=(x.2.2.2 k hk).2;rw[h] at this;cases this)
theorem zhm (v:Value) (ws:List Int) (ps:List St) (w:World) (h:RdPm w v ws ps) (hw:ws.length≤1048576) (hp:ps.length≤1048576) :
  Calls Tryz.prog 133 #[v] w fun e w'=>e=.returned (.bool (pmB ws ps))∧Below w.heap.size w w':=by
 obtain ⟨vW,vP,rfl,h1,h2⟩:=h;obtain ⟨aW,cW,rfl,_,hcW⟩:=h1.shape;obtain ⟨aP,cP,rfl,_,hcP⟩:=h2.shape;clear h1 h2;have hb0:Below w.heap.size w (w.alloc (.cells #[.slice aW ws.length cW,.slice aP ps.length cP] 43)):=(Below.refl _ _).alloc (Nat.le_refl _) _
 by_cases c1:ws.length=336
 case neg =>
  have E:=zaa (yabj (ps:=ps) c1)
  have c1':((ws.length:Int) != 336)=true:=by simp;omega
  clear c1;go_enter Tryz.func133,Tryz.ntmps133;go_wp2;go_ret;exact ⟨zaf E.o.symm,hb0⟩
 have c1n:((ws.length:Int) != 336)=false:=by simp;omega
 have hpos:0 < ws.length:=by omega
 have C1:=zaa c1;clear c1
 by_cases c2:400 < ps.length
 ·have E:=zaa (yacb (ws:=ws) c2);go_enter Tryz.func133,Tryz.ntmps133;go_wp2;go_ret;exact ⟨zaf E.o.symm,hb0⟩
 obtain ⟨b,o,rfl,hbl,hcell⟩:=hcW hpos;clear hcW hpos;go_enter Tryz.func133,Tryz.ntmps133;go_wp2
 go_loop [3] (fun i=>∃ k:Nat,k≤ws.length∧i=.int .i64 k∧Hid (∀ j (h:j < ws.length),j < k→zbb ws[j]=true)) (fun i=>ws.length - (intOf i).toNat)
 case atStart=>exact ⟨0,by omega,rfl,fun j h a=>absurd a (by omega)⟩
 case round =>
  obtain ⟨k,hk,rfl,H⟩:=hrel
  by_cases hlt:k < ws.length
  ·have hck:=(hb0.cell (p:=⟨b,o+k,none⟩) hbl).trans (hcell k hlt);clear hcell hcP
   by_cases q:zbb ws[k]=true
   ·go_wp2_with (go_at_call 138;refine (zbv _ _).mono ?_;rintro e w' ⟨rfl,rfl⟩)
    go_round
    case rel =>
     refine ⟨k+1,by omega,by go_num,fun j h a=>?_⟩
     by_cases e:j=k
     ·subst e;exact q
     ·exact H.o j h (by omega)
    case measure=>simp[intOf];omega
   ·have q':zbb ws[k]=false:=by simpa using q
    have E:=zaa (yasi (ps:=ps) hlt q');go_wp2_with (go_at_call 138;refine (zbv _ _).mono ?_;rintro e w' ⟨rfl,rfl⟩);go_ret;exact ⟨zaf E.o.symm,hb0⟩
  ·have HW:=zaa (fun j (h:j < ws.length)=>H.o j h (by omega));clear H hcell;go_wp2
   go_loop [4] (fun i=>∃ k:Nat,k≤ps.length∧i=.int .i64 k∧Hid (∀ j (h:j < ps.length),j < k→zbn ps[j].at_=true∧zbb ps[j].val=true)) (fun i=>ps.length - (intOf i).toNat)
   case atStart=>exact ⟨0,by omega,rfl,fun j h a=>absurd a (by omega)⟩
   case round =>
    obtain ⟨m,hm,rfl,H⟩:=hrel
    by_cases hlt2:m < ps.length
    ·obtain ⟨b2,o2,rfl,hbl2,hcell2⟩:=hcP (by omega);obtain ⟨d0,d1,_⟩:=hcell2 m hlt2;have e0:=(hb0.cell (p:=⟨b2,o2+m*3,none⟩) hbl2).trans d0;have e1:=(hb0.cell (p:=⟨b2,o2+m*3+1,none⟩) hbl2).trans d1;clear d0 d1 hcell2 hcP
     by_cases q:zbn ps[m].at_=true
     ·by_cases q2:zbb ps[m].val=true
      ·go_wp2_with (first | (go_at_call 78;refine (zfo _ _).mono ?_;rintro e w' ⟨rfl,rfl⟩) | (go_at_call 138;refine (zbv _ _).mono ?_;rintro e w' ⟨rfl,rfl⟩))
       go_round
       case rel =>
        refine ⟨m+1,by omega,by go_num,fun j h a=>?_⟩
        by_cases e:j=m
        ·subst e;exact ⟨q,q2⟩
        ·exact H.o j h (by omega)
       case measure=>simp[intOf];omega
      ·have q2':zbb ps[m].val=false:=by simpa using q2
       have E:=zaa (yaru (ws:=ws) hlt2 q2');go_wp2_with (first | (go_at_call 78;refine (zfo _ _).mono ?_;rintro e w' ⟨rfl,rfl⟩) | (go_at_call 138;refine (zbv _ _).mono ?_;rintro e w' ⟨rfl,rfl⟩));go_ret;exact ⟨zaf E.o.symm,hb0⟩
     ·have q':zbn ps[m].at_=false:=by simpa using q
      have E:=zaa (yara (ws:=ws) hlt2 q');go_wp2_with (first | (go_at_call 78;refine (zfo _ _).mono ?_;rintro e w' ⟨rfl,rfl⟩) | (go_at_call 138;refine (zbv _ _).mono ?_;rintro e w' ⟨rfl,rfl⟩));go_ret;exact ⟨zaf E.o.symm,hb0⟩
    ·have E:=zaa (yann C1.o (by omega) HW.o (fun j h=>H.o j h (by omega)));go_wp2;go_ret;exact ⟨zaf E.o.symm,hb0⟩
def zov (zs:List Int):Bool:=decide (∀ k (h:k < zs.length),zbn zs[k]=true)
theorem yacl {zs:List Int} (h:∀ k (h:k < zs.length),zbn zs[k]=true):zov zs=true:=decide_eq_true h
theorem zxy {zs:List Int} {k:Nat} (hk:k < zs.length) (h:zbn zs[k]=false):zov zs=false:=decide_eq_false (fun x=>by have:=x k hk;rw[h] at this;cases this)
theorem zcw (v:Value) (zs:List Int) (w:World) (h:RdI w v zs) (hn:zs.length≤2147483648) :
  Calls Tryz.prog 155 #[v,.func (.func 156) #[] #[]] w fun e w'=>e=.returned (.bool (ziu zs))∧w'=w:=by
 obtain ⟨ao,cap,rfl,_,hc⟩:=h.shape;clear h;go_enter Tryz.func155,Tryz.ntmps155;go_wp2
 go_loop [6,9] (fun _ i=>∃ k:Nat,k≤zs.length∧i=.int .i64 k∧Hid (∀ j (h:j < zs.length),j < k→zbb zs[j]=true)) (fun _ i=>zs.length - (intOf i).toNat)
 case atStart=>exact ⟨0,by omega,rfl,fun j h a=>absurd a (by omega)⟩
 case round =>
  obtain ⟨k,hk,rfl,H⟩:=hrel
  by_cases hlt:k < zs.length
  ·obtain ⟨b,o,rfl,hbl,hcell⟩:=hc (by omega);have hck:=hcell k hlt;clear hcell hc
   by_cases q:zbb zs[k]=true
   ·go_wp2_with (go_at_call 156;refine (zdo _ _).mono ?_;rintro e w' ⟨rfl,rfl⟩)
    go_round
    case rel =>
     refine ⟨k+1,by omega,by go_num,fun j h a=>?_⟩
     by_cases e:j=k
     ·subst e;exact q
     ·exact H.o j h (by omega)
    case measure=>simp[intOf];omega
   ·have q':zbb zs[k]=false:=by simpa using q
    have E:=zaa (yadz hlt q');go_wp2_with (go_at_call 156;refine (zdo _ _).mono ?_;rintro e w' ⟨rfl,rfl⟩);go_ret;exact ⟨zaf E.o.symm,rfl⟩
  ·have E:=zaa (zxe (fun j h=>H.o j h (by omega)));clear H;go_wp2;go_ret;exact ⟨zaf E.o.symm,rfl⟩
theorem zix (v:Value) (zs:List Int) (w:World) (h:RdI w v zs) (hn:zs.length≤2147483648) :
  Calls Tryz.prog 155 #[v,.func (.func 261) #[] #[]] w fun e w'=>e=.returned (.bool (zov zs))∧w'=w:=by
 obtain ⟨ao,cap,rfl,_,hc⟩:=h.shape;clear h;go_enter Tryz.func155,Tryz.ntmps155;go_wp2
 go_loop [6,9] (fun _ i=>∃ k:Nat,k≤zs.length∧i=.int .i64 k∧Hid (∀ j (h:j < zs.length),j < k→zbn zs[j]=true)) (fun _ i=>zs.length - (intOf i).toNat)
 case atStart=>exact ⟨0,by omega,rfl,fun j h a=>absurd a (by omega)⟩
 case round =>
  obtain ⟨k,hk,rfl,H⟩:=hrel
  by_cases hlt:k < zs.length
  ·obtain ⟨b,o,rfl,hbl,hcell⟩:=hc (by omega);have hck:=hcell k hlt;clear hcell hc
   by_cases q:zbn zs[k]=true
   ·go_wp2_with (go_at_call 261;refine (zcf _ _).mono ?_;rintro e w' ⟨rfl,rfl⟩)
    go_round
    case rel =>
     refine ⟨k+1,by omega,by go_num,fun j h a=>?_⟩
     by_cases e:j=k
     ·subst e;exact q
     ·exact H.o j h (by omega)
    case measure=>simp[intOf];omega
   ·have q':zbn zs[k]=false:=by simpa using q
    have E:=zaa (zxy hlt q');go_wp2_with (go_at_call 261;refine (zcf _ _).mono ?_;rintro e w' ⟨rfl,rfl⟩);go_ret;exact ⟨zaf E.o.symm,rfl⟩
  ·have E:=zaa (yacl (fun j h=>H.o j h (by omega)));clear H;go_wp2;go_ret;exact ⟨zaf E.o.symm,rfl⟩
def stB (s:St):Bool:=zbn s.at_ && zbb s.val
theorem yalo {s:St} (h:stB s=true):zbn s.at_=true∧zbb s.val=true:=by unfold stB at h;simpa using h
theorem yaic {s:St} {p:Prop} (h:stB s=false) (h1:zbn s.at_=false→p) (h2:zbb s.val=false→p):p:=by
 unfold stB at h;rw[Bool.and_eq_false_iff] at h;exact h.elim h1 h2
def stsB (ps:List St):Bool:=decide (∀ k (h:k < ps.length),stB ps[k]=true)
theorem yagi {ps:List St} (h:stsB ps=true):∀ k (h:k < ps.length),stB ps[k]=true:=of_decide_eq_true h
theorem yahu {ps:List St} (h:∀ k (h:k < ps.length),stB ps[k]=true):stsB ps=true:=decide_eq_true h
theorem yalq {ps:List St} {k:Nat} (hk:k < ps.length) (h:stB ps[k]=false):stsB ps=false:=decide_eq_false (fun x=>by have:=x k hk;rw[h] at this;cases this)
theorem yaqf {ps:List St} (h:stsB ps=false):∃ k,∃ h:k < ps.length,stB ps[k]=false:=by
 apply Classical.byContradiction;intro hn
 have:stsB ps=true:=yahu (fun k hk=>by
  cases e:stB ps[k] with
  | true=>rfl
  | false=>exact absurd ⟨k,hk,e⟩ hn)
 rw[h] at this
 cases this
theorem zoh (s:St) (w:World):Calls Tryz.prog 267 #[.agg #[.int .i64 s.at_,.int .i64 s.val,.bool s.fl]] w fun e w'=>e=.returned (.bool (stB s))∧Below w.heap.size w w':=by
 have hb0:Below w.heap.size w (w.alloc (.cells #[.int .i64 s.at_,.int .i64 s.val,.bool s.fl] 190)):=(Below.refl _ _).alloc (Nat.le_refl _) _
 by_cases q:zbn s.at_=true
 ·have E:=zaa (show stB s=zbb s.val by unfold stB;rw[q];rfl);have Q:=zaa q;clear q;go_enter Tryz.func267,Tryz.ntmps267;go_wp2_with (first | (go_at_call 261;refine (zcf _ _).mono ?_;rw[Q.o];rintro e w' ⟨rfl,rfl⟩) | (go_at_call 156;refine (zdo _ _).mono ?_;rintro e w' ⟨rfl,rfl⟩));go_ret;exact ⟨zaf E.o.symm,hb0⟩
 ·have q':zbn s.at_=false:=by simpa using q
  have E:=zaa (show stB s=false by unfold stB;rw[q'];rfl);have Q:=zaa q';clear q q';go_enter Tryz.func267,Tryz.ntmps267;go_wp2_with (go_at_call 261;refine (zcf _ _).mono ?_;rw[Q.o];rintro e w' ⟨rfl,rfl⟩);go_ret;exact ⟨zaf E.o.symm,hb0⟩
theorem zjc (v:Value) (ps:List St) (w:World) (h:RdS w v ps) (hn:ps.length≤1048576) :
  Calls Tryz.prog 266 #[v,.func (.func 267) #[] #[]] w fun e w'=>e=.returned (.bool (stsB ps))∧Below w.heap.size w w':=by
 obtain ⟨aP,cP,rfl,_,hcP⟩:=h.shape;clear h;go_enter Tryz.func266,Tryz.ntmps266;go_wp2
 go_loopw [6,9] (fun _ i wr=>∃ k:Nat,k≤ps.length∧i=.int .i64 k∧Hid (∀ j (h:j < ps.length),j < k→stB ps[j]=true)∧Below w.heap.size w wr) (fun _ i _=>ps.length - (intOf i).toNat)
 case atStart=>exact ⟨0,by omega,rfl,fun j h a=>absurd a (by omega),Below.refl _ _⟩
 case round =>
  obtain ⟨m,hm,rfl,H,hbw⟩:=hrel;have hz:=hbw.size
  by_cases hlt2:m < ps.length
  ·obtain ⟨b2,o2,rfl,hbl2,hcell2⟩:=hcP (by omega);obtain ⟨d0,d1,d2⟩:=hcell2 m hlt2;have e0:=(hbw.cell (p:=⟨b2,o2+m*3,none⟩) hbl2).trans d0;have e1:=(hbw.cell (p:=⟨b2,o2+m*3+1,none⟩) hbl2).trans d1;have e2:=(hbw.cell (p:=⟨b2,o2+m*3+2,none⟩) hbl2).trans d2;have hb1:=zaa (hbw.alloc hz (.cells #[.int .i64 ps[m].at_,.int .i64 ps[m].val,.bool ps[m].fl] 190));clear d0 d1 d2 hcell2 hcP
   by_cases q:stB ps[m]=true
   ·have Q:=zaa q;clear q;go_wp2_with (go_at_call 267;refine (zoh ps[m] _).mono ?_;rw[Q.o];rintro e w' ⟨rfl,hw'⟩);have hw2:=hb1.o.trans (hw'.mono (by simp;omega));clear hb1 hw'
    go_roundw
    case rel =>
     refine ⟨m+1,by omega,by go_num,fun j h a=>?_,hw2⟩
     by_cases e:j=m
     ·subst e;exact Q.o
     ·exact H.o j h (by omega)
    case measure=>simp[intOf];omega
   ·have Q:=zaa (show stB ps[m]=false by simpa using q);have E:=zaa (yalq hlt2 Q.o);clear q;go_wp2_with (go_at_call 267;refine (zoh ps[m] _).mono ?_;rw[Q.o];rintro e w' ⟨rfl,hw'⟩);have hw2:=hb1.o.trans (hw'.mono (by simp;omega));go_ret;exact ⟨zaf E.o.symm,hw2⟩
  ·have E:=zaa (yahu (fun j h=>H.o j h (by omega)));go_wp2;go_ret;exact ⟨zaf E.o.symm,hbw⟩
theorem zeb (v:Value) (ws:List Int) (ps:List St) (w:World) (h:RdPm w v ws ps) (hw:ws.length≤1048576) (hp:ps.length≤1048576) :
  Calls Tryz.prog 198 #[v] w fun e w'=>e=.returned (.bool (pmB ws ps))∧Below w.heap.size w w':=by
 obtain ⟨vW,vP,rfl,h1,h2⟩:=h;obtain ⟨aW,cW,rfl,_,hcW⟩:=h1.shape;obtain ⟨aP,cP,rfl,_,hcP⟩:=h2.shape;have H1:=zaa h1;have H2:=zaa h2;clear h1 h2 hcW hcP;have hb0:Below w.heap.size w (w.alloc (.cells #[.slice aW ws.length cW,.slice aP ps.length cP] 43)):=(Below.refl _ _).alloc (Nat.le_refl _) _;have HB:=zaa hb0
 by_cases c1:ws.length=336
 case neg =>
  have E:=zaa (yabj (ps:=ps) c1)
  have c1':((ws.length:Int) == 336)=false:=by rw[beq_eq_false_iff_ne];omega
  clear c1;go_enter Tryz.func198,Tryz.ntmps198;go_wp2;go_ret;exact ⟨zaf E.o.symm,HB.o⟩
 have c1n:((ws.length:Int) == 336)=true:=by simp;omega
 have C1:=zaa c1;clear c1
 by_cases c2:400 < ps.length
 ·have E:=zaa (yacb (ws:=ws) c2)
  have c2':decide ((ps.length:Int)≤400)=false:=by simp;omega
  go_enter Tryz.func198,Tryz.ntmps198;go_wp2;go_ret;exact ⟨zaf E.o.symm,HB.o⟩
 by_cases c3:ziu ws=true
 case neg =>
  have c3':ziu ws=false:=by simpa using c3
  obtain ⟨k,hk,hkf⟩:=zvk c3';have E:=zaa (yasi (ps:=ps) hk hkf);have W0:=zaa c3';clear c3 c3' hkf hk;go_enter Tryz.func198,Tryz.ntmps198;go_wp2_with (go_at_call 155;refine (zcw _ ws _ (Rd.below H1.o HB.o) (by omega)).mono ?_;rw[W0.o];rintro e w' ⟨rfl,rfl⟩);go_ret;exact ⟨zaf E.o.symm,HB.o⟩
 have HW:=zaa (zob c3);have W1:=zaa c3;clear c3
 cases c4:stsB ps with
 | true =>
  have E:=zaa (yann C1.o (by omega) HW.o (fun j h=>yalo (yagi c4 j h)));have W2:=zaa c4;clear c4;go_enter Tryz.func198,Tryz.ntmps198;go_wp2_with (first | (go_at_call 155;refine (zcw _ ws _ (Rd.below H1.o HB.o) (by omega)).mono ?_;rw[W1.o];rintro e w' ⟨rfl,rfl⟩) | (go_at_call 266;refine (zjc _ ps _ (Rd.below H2.o HB.o) (by omega)).mono ?_;rw[W2.o];rintro e w' ⟨rfl,hw'⟩));go_ret;exact ⟨zaf E.o.symm,HB.o.trans (hw'.mono (by simp))⟩
 | false =>
  obtain ⟨k,hk,hkf⟩:=yaqf c4;have E:=zaa (show pmB ws ps=false from yaic hkf (yara (ws:=ws) hk) (yaru (ws:=ws) hk));have W2:=zaa c4;clear c4 hk hkf;go_enter Tryz.func198,Tryz.ntmps198;go_wp2_with (first | (go_at_call 155;refine (zcw _ ws _ (Rd.below H1.o HB.o) (by omega)).mono ?_;rw[W1.o];rintro e w' ⟨rfl,rfl⟩) | (go_at_call 266;refine (zjc _ ps _ (Rd.below H2.o HB.o) (by omega)).mono ?_;rw[W2.o];rintro e w' ⟨rfl,hw'⟩));go_ret;exact ⟨zaf E.o.symm,HB.o.trans (hw'.mono (by simp))⟩
end Go.Proofs.YtehnphoeplmpdaaGreatDoor
