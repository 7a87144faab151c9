/- Several texts laid together: PmOK, BlkOK. -/
import Derived.Test.YtbohndgbfbfldaaGreatDoorZAK
import Derived.Test.YtbohndgbfbfldaaGreatDoorZAG
set_option maxHeartbeats 4000000
namespace Go.Proofs.YtbohndgbfbfldaaGreatDoor
open Go.RowKit
def pmB (ws:List Int) (ps:List St):Bool:=decide (ws.length=336∧ps.length≤400∧(∀ k (h:k < ws.length),zap ws[k]=true)∧∀ k (h:k < ps.length),zbu ps[k].at_=true∧zap ps[k].val=true)
theorem zzq {ws:List Int} {ps:List St} (h1:ws.length=336) (h2:ps.length≤400) (h3:∀ k (h:k < ws.length),zap ws[k]=true) (h4:∀ k (h:k < ps.length),zbu ps[k].at_=true∧zap ps[k].val=true):pmB ws ps=true:=decide_eq_true ⟨h1,h2,h3,h4⟩
theorem zll {ws:List Int} {ps:List St} (h:pmB ws ps=true):ws.length=336∧ps.length≤400:=⟨(of_decide_eq_true h).1,(of_decide_eq_true h).2.1⟩
theorem zzb {ws:List Int} {ps:List St} (h:pmB ws ps=true) (k:Nat) (hk:k < ws.length):zap ws[k]=true:=(of_decide_eq_true h).2.2.1 k hk
theorem zna {ws:List Int} {ps:List St} (h:pmB ws ps=true) (k:Nat) (hk:k < ps.length):zbu ps[k].at_=true∧zap ps[k].val=true:=(of_decide_eq_true h).2.2.2 k hk
theorem zqx {ws:List Int} {ps:List St} (h:¬ ws.length=336):pmB ws ps=false:=decide_eq_false (fun x=>h x.1)
theorem zqp {ws:List Int} {ps:List St} (h:400 < ps.length):pmB ws ps=false:=decide_eq_false (fun x=>absurd x.2.1 (by omega))
theorem yadf {ws:List Int} {ps:List St} {k:Nat} (hk:k < ws.length) (h:zap ws[k]=false):pmB ws ps=false:=decide_eq_false (fun x=>by have:=x.2.2.1 k hk;rw[h] at this;cases this)
theorem yadu {ws:List Int} {ps:List St} {k:Nat} (hk:k < ps.length) (h:zbu ps[k].at_=false):pmB ws ps=false:=decide_eq_false (fun x=>by have:=(x.2.2.2 k hk).1;rw[h] at this;cases this)
theorem yadz {ws:List Int} {ps:List St} {k:Nat} (hk:k < ps.length) (h:zap ps[k].val=false):pmB ws ps=false:=decide_eq_false (fun x=>by have:=(x.2.2.2 k hk).2;rw[h] at this;cases this)
theorem zdu (v:Value) (ws:List Int) (ps:List St) (w:World) (h:RdPm w v ws ps) (hw:ws.length≤1048576) (hp:ps.length≤1048576) :
  Calls Tryz.prog 121 #[v] w fun e w'=>e=.returned (.bool (pmB ws ps))∧Below w.heap.size w w':=by
 obtain ⟨vW,vP,rfl,h1,h2⟩:=h;obtain ⟨aW,cW,rfl,_,hcW⟩:=h1.shape;obtain ⟨aP,cP,rfl,_,hcP⟩:=h2.shape;clear h1 h2;have hb0:Below w.heap.size w (w.alloc (.cells #[.slice aW ws.length cW,.slice aP ps.length cP] 25)):=(Below.refl _ _).alloc (Nat.le_refl _) _
 by_cases c1:ws.length=336
 case neg =>
  have E:=zaa (zqx (ps:=ps) c1)
  have c1':((ws.length:Int) != 336)=true:=by simp;omega
  clear c1;go_enter Tryz.func121,Tryz.ntmps121;go_wp2;go_ret;exact ⟨zac E.o.symm,hb0⟩
 have c1n:((ws.length:Int) != 336)=false:=by simp;omega
 have hpos:0 < ws.length:=by omega
 have C1:=zaa c1;clear c1
 by_cases c2:400 < ps.length
 ·have E:=zaa (zqp (ws:=ws) c2);go_enter Tryz.func121,Tryz.ntmps121;go_wp2;go_ret;exact ⟨zac E.o.symm,hb0⟩
 obtain ⟨b,o,rfl,hbl,hcell⟩:=hcW hpos;clear hcW hpos;go_enter Tryz.func121,Tryz.ntmps121;go_wp2
 go_loop [3] (fun i=>∃ k:Nat,k≤ws.length∧i=.int .i64 k∧Hid (∀ j (h:j < ws.length),j < k→zap ws[j]=true)) (fun i=>ws.length - (intOf i).toNat)
 case atStart=>exact ⟨0,by omega,rfl,fun j h a=>absurd a (by omega)⟩
 case round =>
  obtain ⟨k,hk,rfl,H⟩:=hrel
  by_cases hlt:k < ws.length
  ·have hck:=(hb0.cell (p:=⟨b,o+k,none⟩) hbl).trans (hcell k hlt);clear hcell hcP
   by_cases q:zap ws[k]=true
   ·go_wp2_with (go_at_call 77;refine (zau _ _).mono ?_;rintro e w' ⟨rfl,rfl⟩)
    go_round
    case rel =>
     refine ⟨k+1,by omega,by go_num,fun j h a=>?_⟩
     by_cases e:j=k
     ·subst e;exact q
     ·exact H.o j h (by omega)
    case measure=>simp[intOf];omega
   ·have q':zap ws[k]=false:=by simpa using q
    have E:=zaa (yadf (ps:=ps) hlt q');go_wp2_with (go_at_call 77;refine (zau _ _).mono ?_;rintro e w' ⟨rfl,rfl⟩);go_ret;exact ⟨zac E.o.symm,hb0⟩
  ·have HW:=zaa (fun j (h:j < ws.length)=>H.o j h (by omega));clear H hcell;go_wp2
   go_loop [4] (fun i=>∃ k:Nat,k≤ps.length∧i=.int .i64 k∧Hid (∀ j (h:j < ps.length),j < k→zbu ps[j].at_=true∧zap ps[j].val=true)) (fun i=>ps.length - (intOf i).toNat)
   case atStart=>exact ⟨0,by omega,rfl,fun j h a=>absurd a (by omega)⟩
   case round =>
    obtain ⟨m,hm,rfl,H⟩:=hrel
    by_cases hlt2:m < ps.length
    ·obtain ⟨b2,o2,rfl,hbl2,hcell2⟩:=hcP (by omega);obtain ⟨d0,d1,_⟩:=hcell2 m hlt2;have e0:=(hb0.cell (p:=⟨b2,o2+m*3,none⟩) hbl2).trans d0;have e1:=(hb0.cell (p:=⟨b2,o2+m*3+1,none⟩) hbl2).trans d1;clear d0 d1 hcell2 hcP
     by_cases q:zbu ps[m].at_=true
     ·by_cases q2:zap ps[m].val=true
      ·go_wp2_with (first | (go_at_call 80;refine (zcx _ _).mono ?_;rintro e w' ⟨rfl,rfl⟩) | (go_at_call 77;refine (zau _ _).mono ?_;rintro e w' ⟨rfl,rfl⟩))
       go_round
       case rel =>
        refine ⟨m+1,by omega,by go_num,fun j h a=>?_⟩
        by_cases e:j=m
        ·subst e;exact ⟨q,q2⟩
        ·exact H.o j h (by omega)
       case measure=>simp[intOf];omega
      ·have q2':zap ps[m].val=false:=by simpa using q2
       have E:=zaa (yadz (ws:=ws) hlt2 q2');go_wp2_with (first | (go_at_call 80;refine (zcx _ _).mono ?_;rintro e w' ⟨rfl,rfl⟩) | (go_at_call 77;refine (zau _ _).mono ?_;rintro e w' ⟨rfl,rfl⟩));go_ret;exact ⟨zac E.o.symm,hb0⟩
     ·have q':zbu ps[m].at_=false:=by simpa using q
      have E:=zaa (yadu (ws:=ws) hlt2 q');go_wp2_with (first | (go_at_call 80;refine (zcx _ _).mono ?_;rintro e w' ⟨rfl,rfl⟩) | (go_at_call 77;refine (zau _ _).mono ?_;rintro e w' ⟨rfl,rfl⟩));go_ret;exact ⟨zac E.o.symm,hb0⟩
    ·have E:=zaa (zzq C1.o (by omega) HW.o (fun j h=>H.o j h (by omega)));go_wp2;go_ret;exact ⟨zac E.o.symm,hb0⟩
def zir (ws:List Int) (ps:List Se):Bool:=decide (ws.length=32∧ps.length≤400∧(∀ k (h:k < ws.length),zap ws[k]=true)∧∀ k (h:k < ps.length),zlq ps[k].at_=true∧zap ps[k].val=true)
theorem zsv {ws:List Int} {ps:List Se} (h1:ws.length=32) (h2:ps.length≤400) (h3:∀ k (h:k < ws.length),zap ws[k]=true) (h4:∀ k (h:k < ps.length),zlq ps[k].at_=true∧zap ps[k].val=true):zir ws ps=true:=decide_eq_true ⟨h1,h2,h3,h4⟩
theorem zmj {ws:List Int} {ps:List Se} (h:¬ ws.length=32):zir ws ps=false:=decide_eq_false (fun x=>h x.1)
theorem zod {ws:List Int} {ps:List Se} (h:400 < ps.length):zir ws ps=false:=decide_eq_false (fun x=>absurd x.2.1 (by omega))
theorem yaah {ws:List Int} {ps:List Se} {k:Nat} (hk:k < ws.length) (h:zap ws[k]=false):zir ws ps=false:=decide_eq_false (fun x=>by have:=x.2.2.1 k hk;rw[h] at this;cases this)
theorem yaak {ws:List Int} {ps:List Se} {k:Nat} (hk:k < ps.length) (h:zlq ps[k].at_=false):zir ws ps=false:=decide_eq_false (fun x=>by have:=(x.2.2.2 k hk).1;rw[h] at this;cases this)
theorem yaag {ws:List Int} {ps:List Se} {k:Nat} (hk:k < ps.length) (h:zap ps[k].val=false):zir ws ps=false:=decide_eq_false (fun x=>by have:=(x.2.2.2 k hk).2;rw[h] at this;cases this)
theorem zlm (v:Value) (ws:List Int) (ps:List Se) (w:World) (h:RdBlk w v ws ps) (hw:ws.length≤1048576) (hp:ps.length≤1048576) :
  Calls Tryz.prog 122 #[v] w fun e w'=>e=.returned (.bool (zir ws ps))∧Below w.heap.size w w':=by
 obtain ⟨vW,vP,rfl,h1,h2⟩:=h;obtain ⟨aW,cW,rfl,_,hcW⟩:=h1.shape;obtain ⟨aP,cP,rfl,_,hcP⟩:=h2.shape;clear h1 h2;have hb0:Below w.heap.size w (w.alloc (.cells #[.slice aW ws.length cW,.slice aP ps.length cP] 28)):=(Below.refl _ _).alloc (Nat.le_refl _) _
 by_cases c1:ws.length=32
 case neg =>
  have E:=zaa (zmj (ps:=ps) c1)
  have c1':((ws.length:Int) != 32)=true:=by simp;omega
  clear c1;go_enter Tryz.func122,Tryz.ntmps122;go_wp2;go_ret;exact ⟨zac E.o.symm,hb0⟩
 have c1n:((ws.length:Int) != 32)=false:=by simp;omega
 have hpos:0 < ws.length:=by omega
 have C1:=zaa c1;clear c1
 by_cases c2:400 < ps.length
 ·have E:=zaa (zod (ws:=ws) c2);go_enter Tryz.func122,Tryz.ntmps122;go_wp2;go_ret;exact ⟨zac E.o.symm,hb0⟩
 obtain ⟨b,o,rfl,hbl,hcell⟩:=hcW hpos;clear hcW hpos;go_enter Tryz.func122,Tryz.ntmps122;go_wp2
 go_loop [3] (fun i=>∃ k:Nat,k≤ws.length∧i=.int .i64 k∧Hid (∀ j (h:j < ws.length),j < k→zap ws[j]=true)) (fun i=>ws.length - (intOf i).toNat)
 case atStart=>exact ⟨0,by omega,rfl,fun j h a=>absurd a (by omega)⟩
 case round =>
  obtain ⟨k,hk,rfl,H⟩:=hrel
  by_cases hlt:k < ws.length
  ·have hck:=(hb0.cell (p:=⟨b,o+k,none⟩) hbl).trans (hcell k hlt);clear hcell hcP
   by_cases q:zap ws[k]=true
   ·go_wp2_with (go_at_call 77;refine (zau _ _).mono ?_;rintro e w' ⟨rfl,rfl⟩)
    go_round
    case rel =>
     refine ⟨k+1,by omega,by go_num,fun j h a=>?_⟩
     by_cases e:j=k
     ·subst e;exact q
     ·exact H.o j h (by omega)
    case measure=>simp[intOf];omega
   ·have q':zap ws[k]=false:=by simpa using q
    have E:=zaa (yaah (ps:=ps) hlt q');go_wp2_with (go_at_call 77;refine (zau _ _).mono ?_;rintro e w' ⟨rfl,rfl⟩);go_ret;exact ⟨zac E.o.symm,hb0⟩
  ·have HW:=zaa (fun j (h:j < ws.length)=>H.o j h (by omega));clear H hcell;go_wp2
   go_loop [4] (fun i=>∃ k:Nat,k≤ps.length∧i=.int .i64 k∧Hid (∀ j (h:j < ps.length),j < k→zlq ps[j].at_=true∧zap ps[j].val=true)) (fun i=>ps.length - (intOf i).toNat)
   case atStart=>exact ⟨0,by omega,rfl,fun j h a=>absurd a (by omega)⟩
   case round =>
    obtain ⟨m,hm,rfl,H⟩:=hrel
    by_cases hlt2:m < ps.length
    ·obtain ⟨b2,o2,rfl,hbl2,hcell2⟩:=hcP (by omega);obtain ⟨d0,d1⟩:=hcell2 m hlt2;have e0:=(hb0.cell (p:=⟨b2,o2+m*2,none⟩) hbl2).trans d0;have e1:=(hb0.cell (p:=⟨b2,o2+m*2+1,none⟩) hbl2).trans d1;clear d0 d1 hcell2 hcP
     by_cases q:zlq ps[m].at_=true
     ·by_cases q2:zap ps[m].val=true
      ·go_wp2_with (first | (go_at_call 80;refine (zdr _ _).mono ?_;rintro e w' ⟨rfl,rfl⟩) | (go_at_call 77;refine (zau _ _).mono ?_;rintro e w' ⟨rfl,rfl⟩))
       go_round
       case rel =>
        refine ⟨m+1,by omega,by go_num,fun j h a=>?_⟩
        by_cases e:j=m
        ·subst e;exact ⟨q,q2⟩
        ·exact H.o j h (by omega)
       case measure=>simp[intOf];omega
      ·have q2':zap ps[m].val=false:=by simpa using q2
       have E:=zaa (yaag (ws:=ws) hlt2 q2');go_wp2_with (first | (go_at_call 80;refine (zdr _ _).mono ?_;rintro e w' ⟨rfl,rfl⟩) | (go_at_call 77;refine (zau _ _).mono ?_;rintro e w' ⟨rfl,rfl⟩));go_ret;exact ⟨zac E.o.symm,hb0⟩
     ·have q':zlq ps[m].at_=false:=by simpa using q
      have E:=zaa (yaak (ws:=ws) hlt2 q');go_wp2_with (first | (go_at_call 80;refine (zdr _ _).mono ?_;rintro e w' ⟨rfl,rfl⟩) | (go_at_call 77;refine (zau _ _).mono ?_;rintro e w' ⟨rfl,rfl⟩));go_ret;exact ⟨zac E.o.symm,hb0⟩
    ·have E:=zaa (zsv C1.o (by omega) HW.o (fun j h=>H.o j h (by omega)));go_wp2;go_ret;exact ⟨zac E.o.symm,hb0⟩
end Go.Proofs.YtbohndgbfbfldaaGreatDoor
