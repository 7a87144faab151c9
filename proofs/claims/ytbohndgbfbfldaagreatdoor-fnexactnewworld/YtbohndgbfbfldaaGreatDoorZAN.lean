/- Several texts laid together: BlkT, PmOK, BlkOK. -/
import Derived.Test.YtbohndgbfbfldaaGreatDoorZAM
import Derived.Test.YtbohndgbfbfldaaGreatDoorZAG
set_option maxHeartbeats 4000000
namespace Go.Proofs.YtbohndgbfbfldaaGreatDoor
open Go.RowKit
theorem zsu (va vb:Value) (ws:List Int) (ps:List Se) (w:World) (ha:RdBlk w va ws ps) (hb:RdBlk w vb ws ps) (hw:ws.length≤2147483648) (hp:ps.length≤2147483648) :
  Calls Tryz.prog 106 #[va,vb] w fun e w'=>e=.returned (.bool true)∧Below w.heap.size w w':=by
 obtain ⟨vW,vP,rfl,h1,h2⟩:=ha;obtain ⟨uW,uP,rfl,h3,h4⟩:=hb;obtain ⟨aW,cW,rfl,_⟩:=h1.shape;obtain ⟨aP,cP,rfl,_⟩:=h2.shape;obtain ⟨bW,dW,rfl,_⟩:=h3.shape;obtain ⟨bP,dP,rfl,_⟩:=h4.shape;have H1:=zaa h1;have H2:=zaa h2;have H3:=zaa h3;have H4:=zaa h4;clear h1 h2 h3 h4;go_enter Tryz.func106,Tryz.ntmps106;go_wp2_with fail
 have hb0:Below w.heap.size w ((w.alloc (.cells #[.slice aW ws.length cW,.slice aP ps.length cP] 28)).alloc (.cells #[.slice bW ws.length dW,.slice bP ps.length dP] 28)):=by
  repeat (refine Below.alloc ?_ (by simp <;> omega) _)
  exact Below.refl _ _
 refine (zdq _ _ ws _ (Rd.below H1.o hb0) (Rd.below H3.o hb0) hw).mono ?_;rintro e w1 ⟨rfl,hb1⟩
 have hz1:w.heap.size+2≤w1.heap.size:=by have:=hb1.size;simp at this;omega
 have V0:=(hb1.block w.heap.size (by simp <;> omega)).trans (zao (zae rfl));have V1:=(hb1.block (w.heap.size+1) (by simp <;> omega)).trans (zae (by simp));have B1:=hb0.trans (hb1.mono (by simp <;> omega));obtain ⟨x1,x2,_,_⟩:=zac V0;obtain ⟨y1,y2,_,_⟩:=zac V1;clear hb0 hb1 V0 V1;go_wp2_with fail;refine (zjm _ _ ps _ (Rd.below H2.o B1) (Rd.below H4.o B1) hp).mono ?_;rintro e w2 ⟨rfl,hb2⟩;go_wp2;go_ret;exact ⟨rfl,B1.trans (hb2.mono (by omega))⟩
theorem zpr (v:Value) (ws:List Int) (ps:List Se) (k0:Int) (lo hi:Nat) (w:World) (h:RowBlk w lo hi v ws ps) (hi1:hi≤w.heap.size) (hw:ws.length≤2147483648) (hp:ps.length≤2147483648) (h0:0≤k0) (h1:k0≤1073741824) :
  Calls Tryz.prog 112 #[v,.int .i64 k0] w fun e w'=>e=.returned (.int .i64 (k0+ws.length+2*ps.length))∧RowBlk w' lo hi v (zcg k0 ws.length) (zcc (k0+ws.length) ps.length)∧Outside lo hi w w':=by
 obtain ⟨vW,vP,rfl,h1,h2⟩:=h;obtain ⟨_,aW,cW,rfl,_⟩:=h1.rd;obtain ⟨_,aP,cP,rfl,_⟩:=h2.rd;obtain ⟨e1,he1,h1⟩:=h1;have HE:=zaa he1;have H1:=zaa h1;have H2:=zaa h2;clear h1 h2 he1;go_enter Tryz.func112,Tryz.ntmps112;go_wp2_with fail;have hb0:Below w.heap.size w (w.alloc (.cells #[.slice aW ws.length cW,.slice aP ps.length cP] 28)):=(Below.refl _ _).alloc (Nat.le_refl _) _;refine (zda _ _ (zbk ws) k0 lo hi _ (H1.o.below hb0 hi1) (fun u hu=>by simp only[zbk,List.mem_map] at hu;obtain ⟨z,_,rfl⟩:=hu;exact ⟨z,rfl⟩) hw h0 (by omega)).mono ?_;rintro e w1 ⟨rfl,hr1,hg1,hz1⟩;simp only[World.size_alloc] at hz1;have ho1:=Row.grown_outside H1.o hg1;have V0:=(ho1.block w.heap.size (by simp) (.inr hi1)).trans (zae rfl);obtain ⟨x1,x2,_,_⟩:=zac V0;have O1:=zaa ((Outside.of_below (lo:=lo) (hi:=hi) hb0).trans ho1);have R1:=zaa hr1;have R2:=zaa ((H2.o.below hb0 hi1).apart (H1.o.below hb0 hi1) (Ne.symm HE.o) hg1);clear hr1 hg1 ho1 V0;go_wp2_with fail;refine (zit _ _ (ses ps) (k0+ws.length) lo hi _ R2.o (yafp ps) hp (by omega) (by omega)).mono ?_;rintro e w2 ⟨rfl,hr2,hg2,hz2⟩;have O2:=zaa (O1.o.trans (Row.grown_outside R2.o hg2));have R3:=zaa (R1.o.apart R2.o HE.o hg2);have R4:=zaa hr2;clear hr2 hg2;go_wp2;go_ret;refine ⟨rfl,⟨_,_,rfl,?_,?_⟩,O2.o⟩
 ·rw[zas];exact ⟨e1,HE.o,R3.o⟩
 ·rw[zaw];exact R4.o
theorem zov (v:Value) (n m:Nat) (k0:Int) (w:World) (h:RdBlk w v (zcg k0 n) (zcc (k0+n) m)) (hw:n≤2147483648) (hp:m≤2147483648) (h0:0≤k0) (h1:k0≤1073741824) :
  Calls Tryz.prog 115 #[v,.int .i64 k0] w fun e w'=>e=.returned (.int .i64 (k0+n+2*m))∧Below w.heap.size w w':=by
 obtain ⟨vW,vP,rfl,h1,h2⟩:=h;obtain ⟨aW,cW,rfl,_⟩:=h1.shape;obtain ⟨aP,cP,rfl,_⟩:=h2.shape;simp only[zas,zaw] at *;have H1:=zaa h1;have H2:=zaa h2;clear h1 h2;have hb0:Below w.heap.size w (w.alloc (.cells #[.slice aW n cW,.slice aP m cP] 28)):=(Below.refl _ _).alloc (Nat.le_refl _) _;go_enter Tryz.func115,Tryz.ntmps115;go_wp2_with fail;refine (zcw _ n k0 _ (Rd.below H1.o hb0) hw h0 (by omega)).mono ?_;rintro e w1 ⟨rfl,rfl⟩;go_wp2_with fail;refine (zid _ m (k0+n) _ (Rd.below H2.o hb0) hp (by omega) (by omega)).mono ?_;rintro e w2 ⟨rfl,rfl⟩;go_wp2;go_ret;exact ⟨rfl,hb0⟩
def pmB (ws:List Int) (ps:List St):Bool:=decide (ws.length=336∧ps.length≤400∧(∀ k (h:k < ws.length),zar ws[k]=true)∧∀ k (h:k < ps.length),zaz ps[k].at_=true∧zar ps[k].val=true)
theorem yaaz {ws:List Int} {ps:List St} (h1:ws.length=336) (h2:ps.length≤400) (h3:∀ k (h:k < ws.length),zar ws[k]=true) (h4:∀ k (h:k < ps.length),zaz ps[k].at_=true∧zar ps[k].val=true):pmB ws ps=true:=decide_eq_true ⟨h1,h2,h3,h4⟩
theorem zlv {ws:List Int} {ps:List St} (h:pmB ws ps=true):ws.length=336∧ps.length≤400:=⟨(of_decide_eq_true h).1,(of_decide_eq_true h).2.1⟩
theorem zyn {ws:List Int} {ps:List St} (h:pmB ws ps=true) (k:Nat) (hk:k < ws.length):zar ws[k]=true:=(of_decide_eq_true h).2.2.1 k hk
theorem znv {ws:List Int} {ps:List St} (h:pmB ws ps=true) (k:Nat) (hk:k < ps.length):zaz ps[k].at_=true∧zar ps[k].val=true:=(of_decide_eq_true h).2.2.2 k hk
theorem zqm {ws:List Int} {ps:List St} (h:¬ ws.length=336):pmB ws ps=false:=decide_eq_false (fun x=>h x.1)
theorem zqi {ws:List Int} {ps:List St} (h:400 < ps.length):pmB ws ps=false:=decide_eq_false (fun x=>absurd x.2.1 (by omega))
theorem yaep {ws:List Int} {ps:List St} {k:Nat} (hk:k < ws.length) (h:zar ws[k]=false):pmB ws ps=false:=decide_eq_false (fun x=>by have:=x.2.2.1 k hk;rw[h] at this;cases this)
theorem yadx {ws:List Int} {ps:List St} {k:Nat} (hk:k < ps.length) (h:zaz ps[k].at_=false):pmB ws ps=false:=decide_eq_false (fun x=>by have:=(x.2.2.2 k hk).1;rw[h] at this;cases this)
theorem yaew {ws:List Int} {ps:List St} {k:Nat} (hk:k < ps.length) (h:zar ps[k].val=false):pmB ws ps=false:=decide_eq_false (fun x=>by have:=(x.2.2.2 k hk).2;rw[h] at this;cases this)
theorem zgl (v:Value) (ws:List Int) (ps:List St) (w:World) (h:RdPm w v ws ps) (hw:ws.length≤1048576) (hp:ps.length≤1048576) :
  Calls Tryz.prog 121 #[v] w fun e w'=>e=.returned (.bool (pmB ws ps))∧Below w.heap.size w w':=by
 obtain ⟨vW,vP,rfl,h1,h2⟩:=h;obtain ⟨aW,cW,rfl,_,hcW⟩:=h1.shape;obtain ⟨aP,cP,rfl,_,hcP⟩:=h2.shape;clear h1 h2;have hb0:Below w.heap.size w (w.alloc (.cells #[.slice aW ws.length cW,.slice aP ps.length cP] 25)):=(Below.refl _ _).alloc (Nat.le_refl _) _
 by_cases c1:ws.length=336
 case neg =>
  have E:=zaa (zqm (ps:=ps) c1)
  have c1':((ws.length:Int) != 336)=true:=by simp;omega
  clear c1;go_enter Tryz.func121,Tryz.ntmps121;go_wp2;go_ret;exact ⟨zad E.o.symm,hb0⟩
 have c1n:((ws.length:Int) != 336)=false:=by simp;omega
 have hpos:0 < ws.length:=by omega
 have C1:=zaa c1;clear c1
 by_cases c2:400 < ps.length
 ·have E:=zaa (zqi (ws:=ws) c2);go_enter Tryz.func121,Tryz.ntmps121;go_wp2;go_ret;exact ⟨zad E.o.symm,hb0⟩
 obtain ⟨b,o,rfl,hbl,hcell⟩:=hcW hpos;clear hcW hpos;go_enter Tryz.func121,Tryz.ntmps121;go_wp2
 go_loop [3] (fun i=>∃ k:Nat,k≤ws.length∧i=.int .i64 k∧Hid (∀ j (h:j < ws.length),j < k→zar ws[j]=true)) (fun i=>ws.length - (intOf i).toNat)
 case atStart=>exact ⟨0,by omega,rfl,fun j h a=>absurd a (by omega)⟩
 case round =>
  obtain ⟨k,hk,rfl,H⟩:=hrel
  by_cases hlt:k < ws.length
  ·have hck:=(hb0.cell (p:=⟨b,o+k,none⟩) hbl).trans (hcell k hlt);clear hcell hcP
   by_cases q:zar ws[k]=true
   ·go_wp2_with (go_at_call 77;refine (zax _ _).mono ?_;rintro e w' ⟨rfl,rfl⟩)
    go_round
    case rel =>
     refine ⟨k+1,by omega,by go_num,fun j h a=>?_⟩
     by_cases e:j=k
     ·subst e;exact q
     ·exact H.o j h (by omega)
    case measure=>simp[intOf];omega
   ·have q':zar ws[k]=false:=by simpa using q
    have E:=zaa (yaep (ps:=ps) hlt q');go_wp2_with (go_at_call 77;refine (zax _ _).mono ?_;rintro e w' ⟨rfl,rfl⟩);go_ret;exact ⟨zad E.o.symm,hb0⟩
  ·have HW:=zaa (fun j (h:j < ws.length)=>H.o j h (by omega));clear H hcell;go_wp2
   go_loop [4] (fun i=>∃ k:Nat,k≤ps.length∧i=.int .i64 k∧Hid (∀ j (h:j < ps.length),j < k→zaz ps[j].at_=true∧zar ps[j].val=true)) (fun i=>ps.length - (intOf i).toNat)
   case atStart=>exact ⟨0,by omega,rfl,fun j h a=>absurd a (by omega)⟩
   case round =>
    obtain ⟨m,hm,rfl,H⟩:=hrel
    by_cases hlt2:m < ps.length
    ·obtain ⟨b2,o2,rfl,hbl2,hcell2⟩:=hcP (by omega);obtain ⟨d0,d1,_⟩:=hcell2 m hlt2;have e0:=(hb0.cell (p:=⟨b2,o2+m*3,none⟩) hbl2).trans d0;have e1:=(hb0.cell (p:=⟨b2,o2+m*3+1,none⟩) hbl2).trans d1;clear d0 d1 hcell2 hcP
     by_cases q:zaz ps[m].at_=true
     ·by_cases q2:zar ps[m].val=true
      ·go_wp2_with (first | (go_at_call 80;refine (zde _ _).mono ?_;rintro e w' ⟨rfl,rfl⟩) | (go_at_call 77;refine (zax _ _).mono ?_;rintro e w' ⟨rfl,rfl⟩))
       go_round
       case rel =>
        refine ⟨m+1,by omega,by go_num,fun j h a=>?_⟩
        by_cases e:j=m
        ·subst e;exact ⟨q,q2⟩
        ·exact H.o j h (by omega)
       case measure=>simp[intOf];omega
      ·have q2':zar ps[m].val=false:=by simpa using q2
       have E:=zaa (yaew (ws:=ws) hlt2 q2');go_wp2_with (first | (go_at_call 80;refine (zde _ _).mono ?_;rintro e w' ⟨rfl,rfl⟩) | (go_at_call 77;refine (zax _ _).mono ?_;rintro e w' ⟨rfl,rfl⟩));go_ret;exact ⟨zad E.o.symm,hb0⟩
     ·have q':zaz ps[m].at_=false:=by simpa using q
      have E:=zaa (yadx (ws:=ws) hlt2 q');go_wp2_with (first | (go_at_call 80;refine (zde _ _).mono ?_;rintro e w' ⟨rfl,rfl⟩) | (go_at_call 77;refine (zax _ _).mono ?_;rintro e w' ⟨rfl,rfl⟩));go_ret;exact ⟨zad E.o.symm,hb0⟩
    ·have E:=zaa (yaaz C1.o (by omega) HW.o (fun j h=>H.o j h (by omega)));go_wp2;go_ret;exact ⟨zad E.o.symm,hb0⟩
def zfa (ws:List Int) (ps:List Se):Bool:=decide (ws.length=32∧ps.length≤400∧(∀ k (h:k < ws.length),zar ws[k]=true)∧∀ k (h:k < ps.length),zgi ps[k].at_=true∧zar ps[k].val=true)
theorem zwv {ws:List Int} {ps:List Se} (h1:ws.length=32) (h2:ps.length≤400) (h3:∀ k (h:k < ws.length),zar ws[k]=true) (h4:∀ k (h:k < ps.length),zgi ps[k].at_=true∧zar ps[k].val=true):zfa ws ps=true:=decide_eq_true ⟨h1,h2,h3,h4⟩
theorem zkq {ws:List Int} {ps:List Se} (h:zfa ws ps=true):ws.length=32∧ps.length≤400:=⟨(of_decide_eq_true h).1,(of_decide_eq_true h).2.1⟩
theorem znc {ws:List Int} {ps:List Se} (h:¬ ws.length=32):zfa ws ps=false:=decide_eq_false (fun x=>h x.1)
theorem zmz {ws:List Int} {ps:List Se} (h:400 < ps.length):zfa ws ps=false:=decide_eq_false (fun x=>absurd x.2.1 (by omega))
theorem yaak {ws:List Int} {ps:List Se} {k:Nat} (hk:k < ws.length) (h:zar ws[k]=false):zfa ws ps=false:=decide_eq_false (fun x=>by have:=x.2.2.1 k hk;rw[h] at this;cases this)
theorem yaal {ws:List Int} {ps:List Se} {k:Nat} (hk:k < ps.length) (h:zgi ps[k].at_=false):zfa ws ps=false:=decide_eq_false (fun x=>by have:=(x.2.2.2 k hk).1;rw[h] at this;cases this)
theorem yaaj {ws:List Int} {ps:List Se} {k:Nat} (hk:k < ps.length) (h:zar ps[k].val=false):zfa ws ps=false:=decide_eq_false (fun x=>by have:=(x.2.2.2 k hk).2;rw[h] at this;cases this)
theorem zkp (v:Value) (ws:List Int) (ps:List Se) (w:World) (h:RdBlk w v ws ps) (hw:ws.length≤1048576) (hp:ps.length≤1048576) :
  Calls Tryz.prog 122 #[v] w fun e w'=>e=.returned (.bool (zfa ws ps))∧Below w.heap.size w w':=by
 obtain ⟨vW,vP,rfl,h1,h2⟩:=h;obtain ⟨aW,cW,rfl,_,hcW⟩:=h1.shape;obtain ⟨aP,cP,rfl,_,hcP⟩:=h2.shape;clear h1 h2;have hb0:Below w.heap.size w (w.alloc (.cells #[.slice aW ws.length cW,.slice aP ps.length cP] 28)):=(Below.refl _ _).alloc (Nat.le_refl _) _
 by_cases c1:ws.length=32
 case neg =>
  have E:=zaa (znc (ps:=ps) c1)
  have c1':((ws.length:Int) != 32)=true:=by simp;omega
  clear c1;go_enter Tryz.func122,Tryz.ntmps122;go_wp2;go_ret;exact ⟨zad E.o.symm,hb0⟩
 have c1n:((ws.length:Int) != 32)=false:=by simp;omega
 have hpos:0 < ws.length:=by omega
 have C1:=zaa c1;clear c1
 by_cases c2:400 < ps.length
 ·have E:=zaa (zmz (ws:=ws) c2);go_enter Tryz.func122,Tryz.ntmps122;go_wp2;go_ret;exact ⟨zad E.o.symm,hb0⟩
 obtain ⟨b,o,rfl,hbl,hcell⟩:=hcW hpos;clear hcW hpos;go_enter Tryz.func122,Tryz.ntmps122;go_wp2
 go_loop [3] (fun i=>∃ k:Nat,k≤ws.length∧i=.int .i64 k∧Hid (∀ j (h:j < ws.length),j < k→zar ws[j]=true)) (fun i=>ws.length - (intOf i).toNat)
 case atStart=>exact ⟨0,by omega,rfl,fun j h a=>absurd a (by omega)⟩
 case round =>
  obtain ⟨k,hk,rfl,H⟩:=hrel
  by_cases hlt:k < ws.length
  ·have hck:=(hb0.cell (p:=⟨b,o+k,none⟩) hbl).trans (hcell k hlt);clear hcell hcP
   by_cases q:zar ws[k]=true
   ·go_wp2_with (go_at_call 77;refine (zax _ _).mono ?_;rintro e w' ⟨rfl,rfl⟩)
    go_round
    case rel =>
     refine ⟨k+1,by omega,by go_num,fun j h a=>?_⟩
     by_cases e:j=k
     ·subst e;exact q
     ·exact H.o j h (by omega)
    case measure=>simp[intOf];omega
   ·have q':zar ws[k]=false:=by simpa using q
    have E:=zaa (yaak (ps:=ps) hlt q');go_wp2_with (go_at_call 77;refine (zax _ _).mono ?_;rintro e w' ⟨rfl,rfl⟩);go_ret;exact ⟨zad E.o.symm,hb0⟩
  ·have HW:=zaa (fun j (h:j < ws.length)=>H.o j h (by omega));clear H hcell;go_wp2
   go_loop [4] (fun i=>∃ k:Nat,k≤ps.length∧i=.int .i64 k∧Hid (∀ j (h:j < ps.length),j < k→zgi ps[j].at_=true∧zar ps[j].val=true)) (fun i=>ps.length - (intOf i).toNat)
   case atStart=>exact ⟨0,by omega,rfl,fun j h a=>absurd a (by omega)⟩
   case round =>
    obtain ⟨m,hm,rfl,H⟩:=hrel
    by_cases hlt2:m < ps.length
    ·obtain ⟨b2,o2,rfl,hbl2,hcell2⟩:=hcP (by omega);obtain ⟨d0,d1⟩:=hcell2 m hlt2;have e0:=(hb0.cell (p:=⟨b2,o2+m*2,none⟩) hbl2).trans d0;have e1:=(hb0.cell (p:=⟨b2,o2+m*2+1,none⟩) hbl2).trans d1;clear d0 d1 hcell2 hcP
     by_cases q:zgi ps[m].at_=true
     ·by_cases q2:zar ps[m].val=true
      ·go_wp2_with (first | (go_at_call 80;refine (zdt _ _).mono ?_;rintro e w' ⟨rfl,rfl⟩) | (go_at_call 77;refine (zax _ _).mono ?_;rintro e w' ⟨rfl,rfl⟩))
       go_round
       case rel =>
        refine ⟨m+1,by omega,by go_num,fun j h a=>?_⟩
        by_cases e:j=m
        ·subst e;exact ⟨q,q2⟩
        ·exact H.o j h (by omega)
       case measure=>simp[intOf];omega
      ·have q2':zar ps[m].val=false:=by simpa using q2
       have E:=zaa (yaaj (ws:=ws) hlt2 q2');go_wp2_with (first | (go_at_call 80;refine (zdt _ _).mono ?_;rintro e w' ⟨rfl,rfl⟩) | (go_at_call 77;refine (zax _ _).mono ?_;rintro e w' ⟨rfl,rfl⟩));go_ret;exact ⟨zad E.o.symm,hb0⟩
     ·have q':zgi ps[m].at_=false:=by simpa using q
      have E:=zaa (yaal (ws:=ws) hlt2 q');go_wp2_with (first | (go_at_call 80;refine (zdt _ _).mono ?_;rintro e w' ⟨rfl,rfl⟩) | (go_at_call 77;refine (zax _ _).mono ?_;rintro e w' ⟨rfl,rfl⟩));go_ret;exact ⟨zad E.o.symm,hb0⟩
    ·have E:=zaa (zwv C1.o (by omega) HW.o (fun j h=>H.o j h (by omega)));go_wp2;go_ret;exact ⟨zad E.o.symm,hb0⟩
end Go.Proofs.YtbohndgbfbfldaaGreatDoor
