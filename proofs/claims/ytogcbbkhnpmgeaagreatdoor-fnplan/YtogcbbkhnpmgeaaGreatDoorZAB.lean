import Derived.Test.YtogcbbkhnpmgeaaGreatDoorZAA
set_option maxHeartbeats 4000000
namespace Go.Proofs.YtogcbbkhnpmgeaaGreatDoor
open Go.RowKit
def zfp(ws:List Int)(ps:List Se):Bool:=decide (ws.length=32/\ps.length<=400/\(∀ k (h:k<ws.length),zbd ws[k]=true)/\∀ k (h:k<ps.length),znd ps[k].at_=true/\zbd ps[k].val=true)
theorem yacs{ws:List Int}{ps:List Se}(h1:ws.length=32)(h2:ps.length<=400)(h3:∀ k (h:k<ws.length),zbd ws[k]=true)(h4:∀ k (h:k<ps.length),znd ps[k].at_=true/\zbd ps[k].val=true):zfp ws ps=true:=decide_eq_true ⟨h1,h2,h3,h4⟩
theorem zdu{ws:List Int}{ps:List Se}(h:zfp ws ps=true):ws.length=32/\ps.length<=400:=⟨(of_decide_eq_true h).1,(of_decide_eq_true h).2.1⟩
theorem yapq{ws:List Int}{ps:List Se}(h:zfp ws ps=true)(k:Nat)(hk:k<ws.length):zbd ws[k]=true:=(of_decide_eq_true h).2.2.1 k hk
theorem zug{ws:List Int}{ps:List Se}(h:zfp ws ps=true)(k:Nat)(hk:k<ps.length):znd ps[k].at_=true/\zbd ps[k].val=true:=(of_decide_eq_true h).2.2.2 k hk
theorem yaaf{ws:List Int}{ps:List Se}(h:¬ ws.length=32):zfp ws ps=false:=decide_eq_false (fun x=>h x.1)
theorem zxx{ws:List Int}{ps:List Se}(h:400<ps.length):zfp ws ps=false:=decide_eq_false (fun x=>absurd x.2.1 (by omega))
theorem yavz{ws:List Int}{ps:List Se}{k:Nat}(hk:k<ws.length)(h:zbd ws[k]=false):zfp ws ps=false:=decide_eq_false (fun x=>by have:=x.2.2.1 k hk;rw[h]at this;cases this)
theorem yawa{ws:List Int}{ps:List Se}{k:Nat}(hk:k<ps.length)(h:znd ps[k].at_=false):zfp ws ps=false:=decide_eq_false (fun x=>by have:=(x.2.2.2 k hk).1;rw[h]at this;cases this)
theorem yawx{ws:List Int}{ps:List Se}{k:Nat}(hk:k<ps.length)(h:zbd ps[k].val=false):zfp ws ps=false:=decide_eq_false (fun x=>by have:=(x.2.2.2 k hk).2;rw[h]at this;cases this)
theorem zwr(v:Value)(ws:List Int)(ps:List Se)(w:World)(h:RdBlk w v ws ps)(hw:ws.length<=1048576)(hp:ps.length<=1048576) :
  zC 138 #[v] w fun e w'=>e=.returned (.bool (zfp ws ps))/\zB w w':=by
 obtain⟨vW,vP,rfl,h1,h2⟩:=h;obtain⟨aW,cW,rfl,_,hcW⟩:=h1.shape;obtain⟨aP,cP,rfl,_,hcP⟩:=h2.shape;clear h1 h2;have hb0:zB w (w.alloc (.cells #[.slice aW ws.length cW,.slice aP ps.length cP] 29)):=zR.alloc zL _
 by_cases c1:ws.length=32
 case neg =>
  have E:=zaa (yaaf (ps:=ps) c1)
  have c1':((ws.length:Int) != 32)=true:=by simp;omega
  clear c1;go_enter Tryz.func138,Tryz.ntmps138;go_wp2;go_ret;exact⟨zai E.o.symm,hb0⟩
 have c1n:((ws.length:Int) != 32)=false:=by simp;omega
 have hpos:0<ws.length:=by omega
 have C1:=zaa c1;clear c1
 by_cases c2:400<ps.length
 ·have E:=zaa (zxx (ws:=ws) c2);go_enter Tryz.func138,Tryz.ntmps138;go_wp2;go_ret;exact⟨zai E.o.symm,hb0⟩
 obtain⟨b,o,rfl,hbl,hcell⟩:=hcW hpos;clear hcW hpos;go_enter Tryz.func138,Tryz.ntmps138;go_wp2
 go_loop [3] (fun i=>∃ k:Nat,k<=ws.length/\i=.I k/\Hid (∀ j (h:j<ws.length),j<k->zbd ws[j]=true)) (fun i=>ws.length-(intOf i).toNat)
 case atStart=>exact⟨0,by omega,rfl,fun j h a=>absurd a (by omega)⟩
 case round =>
  obtain⟨k,hk,rfl,H⟩:=hrel
  by_cases hlt:k<ws.length
  ·have hck:=(hb0.cell (p:=⟨b,o+k,none⟩) hbl).trans (hcell k hlt);clear hcell hcP
   by_cases q:zbd ws[k]=true
   ·go_wp2_with (go_at_call 140;refine(zck _ _).mono ?_;rintro e w' ⟨rfl,rfl⟩)
    go_round
    case rel =>
     refine⟨k+1,by omega,by go_num,fun j h a=>?_⟩
     by_cases e:j=k
     ·subst e;exact q
     ·exact H.o j h (by omega)
    case measure=>simp[intOf];omega
   ·have q':zbd ws[k]=false:=by simpa using q
    have E:=zaa (yavz (ps:=ps) hlt q');go_wp2_with (go_at_call 140;refine(zck _ _).mono ?_;rintro e w' ⟨rfl,rfl⟩);go_ret;exact⟨zai E.o.symm,hb0⟩
  ·have HW:=zaa (fun j (h:j<ws.length)=>H.o j h (by omega));clear H hcell;go_wp2
   go_loop [4] (fun i=>∃ k:Nat,k<=ps.length/\i=.I k/\Hid (∀ j (h:j<ps.length),j<k->znd ps[j].at_=true/\zbd ps[j].val=true)) (fun i=>ps.length-(intOf i).toNat)
   case atStart=>exact⟨0,by omega,rfl,fun j h a=>absurd a (by omega)⟩
   case round =>
    obtain⟨m,hm,rfl,H⟩:=hrel
    by_cases hlt2:m<ps.length
    ·obtain⟨b2,o2,rfl,hbl2,hcell2⟩:=hcP (by omega);obtain⟨d0,d1⟩:=hcell2 m hlt2;have e0:=(hb0.cell (p:=⟨b2,o2+m*2,none⟩) hbl2).trans d0;have e1:=(hb0.cell (p:=⟨b2,o2+m*2+1,none⟩) hbl2).trans d1;clear d0 d1 hcell2 hcP
     by_cases q:znd ps[m].at_=true
     ·by_cases q2:zbd ps[m].val=true
      ·go_wp2_with (first | (go_at_call 75;refine(zjk _ _).mono ?_;rintro e w' ⟨rfl,rfl⟩) | (go_at_call 140;refine(zck _ _).mono ?_;rintro e w' ⟨rfl,rfl⟩))
       go_round
       case rel =>
        refine⟨m+1,by omega,by go_num,fun j h a=>?_⟩
        by_cases e:j=m
        ·subst e;exact⟨q,q2⟩
        ·exact H.o j h (by omega)
       case measure=>simp[intOf];omega
      ·have q2':zbd ps[m].val=false:=by simpa using q2
       have E:=zaa (yawx (ws:=ws) hlt2 q2');go_wp2_with (first | (go_at_call 75;refine(zjk _ _).mono ?_;rintro e w' ⟨rfl,rfl⟩) | (go_at_call 140;refine(zck _ _).mono ?_;rintro e w' ⟨rfl,rfl⟩));go_ret;exact⟨zai E.o.symm,hb0⟩
     ·have q':znd ps[m].at_=false:=by simpa using q
      have E:=zaa (yawa (ws:=ws) hlt2 q');go_wp2_with (first | (go_at_call 75;refine(zjk _ _).mono ?_;rintro e w' ⟨rfl,rfl⟩) | (go_at_call 140;refine(zck _ _).mono ?_;rintro e w' ⟨rfl,rfl⟩));go_ret;exact⟨zai E.o.symm,hb0⟩
    ·have E:=zaa (yacs C1.o (by omega) HW.o (fun j h=>H.o j h (by omega)));go_wp2;go_ret;exact⟨zai E.o.symm,hb0⟩
theorem zaq{w:World}{b:Nat}{t:TypeId}{x y z u:Value}(h:w.heap[b]?=some (.cells #[x,y,z,u] t (0,0))) :
  w.cell? ⟨b,0,none⟩=some x/\w.cell? ⟨b,1,none⟩=some y/\w.cell? ⟨b,2,none⟩=some z/\w.cell? ⟨b,3,none⟩=some u/\w.frozen? ⟨b,0,none⟩=false/\w.frozen? ⟨b,1,none⟩=false/\w.frozen? ⟨b,2,none⟩=false/\w.frozen? ⟨b,3,none⟩=false:=by
 simp[World.cell?,World.frozen?,h]
def RdDev(w:World)(v:Value)(ws:List Int)(ps:List St)(es:List Int)(qs:List Se):Prop:=∃ vW vP vS vQ,v=.agg #[vW,vP,vS,vQ]/\RdPm w (.agg #[vW,vP]) ws ps/\RdBlk w (.agg #[vS,vQ]) es qs
def RowDev(w:World)(lo hi:Nat)(v:Value)(ws:List Int)(ps:List St)(es:List Int)(qs:List Se):Prop :=
 ∃ vW vP vS vQ l1 h1 l2 h2,v=.agg #[vW,vP,vS,vQ]/\RowPm w l1 h1 (.agg #[vW,vP]) ws ps/\RowBlk w l2 h2 (.agg #[vS,vQ]) es qs/\(lo<=l1/\h1<=hi/\lo<=l2/\h2<=hi/\(h1<=l2\/h2<=l1))
theorem RowDev.rd{w:World}{lo hi:Nat}{v:Value}{ws:List Int}{ps:List St}{es:List Int}{qs:List Se}(h:RowDev w lo hi v ws ps es qs):RdDev w v ws ps es qs:=by
 obtain⟨vW,vP,vS,vQ,_,_,_,_,e,h1,h2,_⟩:=h;exact⟨vW,vP,vS,vQ,e,h1.rd,h2.rd⟩
theorem RdDev.below{w w':World}{v:Value}{ws:List Int}{ps:List St}{es:List Int}{qs:List Se}(h:RdDev w v ws ps es qs)(hb:zB w w'):RdDev w' v ws ps es qs:=by
 obtain⟨vW,vP,vS,vQ,e,h1,h2⟩:=h;exact⟨vW,vP,vS,vQ,e,h1.below hb,h2.below hb⟩
theorem RdDev.form{w:World}{v:Value}{ws:List Int}{ps:List St}{es:List Int}{qs:List Se}(h:RdDev w v ws ps es qs):∃ aW cW aP cP aS cS aQ cQ,v=.agg #[.slice aW ws.length cW,.slice aP ps.length cP,.slice aS es.length cS,.slice aQ qs.length cQ]/\RdPm w (.agg #[.slice aW ws.length cW,.slice aP ps.length cP]) ws ps/\RdBlk w (.agg #[.slice aS es.length cS,.slice aQ qs.length cQ]) es qs:=by
 obtain⟨vW,vP,vS,vQ,rfl,⟨_,_,e1,h1,h2⟩,⟨_,_,e2,h3,h4⟩⟩:=h
 cases e1
 cases e2
 obtain⟨aW,cW,rfl,_⟩:=h1.shape;obtain⟨aP,cP,rfl,_⟩:=h2.shape;obtain⟨aS,cS,rfl,_⟩:=h3.shape;obtain⟨aQ,cQ,rfl,_⟩:=h4.shape;exact⟨aW,cW,aP,cP,aS,cS,aQ,cQ,rfl,⟨_,_,rfl,h1,h2⟩,⟨_,_,rfl,h3,h4⟩⟩
theorem RowPm.form{w:World}{lo hi:Nat}{v:Value}{ws:List Int}{ps:List St}(h:RowPm w lo hi v ws ps):∃ aW cW aP cP,v=.agg #[.slice aW ws.length cW,.slice aP ps.length cP]:=by
 obtain⟨vW,vP,rfl,h1,h2⟩:=h.rd;obtain⟨aW,cW,rfl,_⟩:=h1.shape;obtain⟨aP,cP,rfl,_⟩:=h2.shape;exact⟨aW,cW,aP,cP,rfl⟩
theorem RowBlk.form{w:World}{lo hi:Nat}{v:Value}{ws:List Int}{ps:List Se}(h:RowBlk w lo hi v ws ps):∃ aW cW aP cP,v=.agg #[.slice aW ws.length cW,.slice aP ps.length cP]:=by
 obtain⟨vW,vP,rfl,h1,h2⟩:=h.rd;obtain⟨aW,cW,rfl,_⟩:=h1.shape;obtain⟨aP,cP,rfl,_⟩:=h2.shape;exact⟨aW,cW,aP,cP,rfl⟩
theorem znv(v:Value)(ws:List Int)(ps:List St)(es:List Int)(qs:List Se)(w:World)(h:RdDev w v ws ps es qs)(hw:ws.length<=1048576)(hp:ps.length<=1048576)(he:es.length<=1048576)(hq:qs.length<=1048576) :
  zC 73 #[v] w fun e w'=>e=.returned (.bool (pmB ws ps&&zfp es qs))/\zB w w':=by
 obtain⟨aW,cW,aP,cP,aS,cS,aQ,cQ,rfl,h1,h2⟩:=h.form;have H1:=zaa h1;have H2:=zaa h2;clear h h1 h2;have hb0:zB w (w.alloc (.cells #[.slice aW ws.length cW,.slice aP ps.length cP,.slice aS es.length cS,.slice aQ qs.length cQ] 31)):=zR.alloc zL _
 by_cases c:pmB ws ps=true
 ·have C:=zaa c;rw[c];clear c;go_enter Tryz.func73,Tryz.ntmps73;go_wp2_with fail;refine(zjo _ ws ps _ (H1.o.below hb0) hw hp).mono ?_;rw[C.o];rintro e w1 ⟨rfl,hb1⟩;obtain⟨x0,x1,x2,x3,-,-,-,-⟩:=zaq ((hb1.block w.heap.size (by simp)).trans (zaf rfl));have B1:=zaa (zab hb0 hb1 (by simp));clear hb0 hb1;go_wp2_with fail;refine(zwr _ es qs _ (H2.o.below B1.o) he hq).mono ?_;rintro e w2 ⟨rfl,hb2⟩;have B2:=zaa (zab B1.o hb2 B1.o.size);clear hb2;go_wp2;go_ret;exact⟨rfl,B2.o⟩
 ·have c':pmB ws ps=false:=by simpa using c
  have C:=zaa c';rw[c'];clear c c';go_enter Tryz.func73,Tryz.ntmps73;go_wp2_with fail;refine(zjo _ ws ps _ (H1.o.below hb0) hw hp).mono ?_;rw[C.o];rintro e w1 ⟨rfl,hb1⟩;have B1:=zaa (zab hb0 hb1 (by simp));clear hb0 hb1;go_wp2;go_ret;exact⟨rfl,B1.o⟩
theorem zaw(n lo hi:Int)(w:World)(h:lo<=n/\n<=hi):zC 75 #[.I n,.I lo,.I hi] w fun e w'=>e=.returned (.bool true)/\w'=w:=by
 obtain⟨h1,h2⟩:=h;go_enter Tryz.func75,Tryz.ntmps75;go_wp2;go_ret;exact⟨rfl,rfl⟩
theorem zdd(n lo hi:Int)(w:World)(h:¬ (lo<=n/\n<=hi)):zC 75 #[.I n,.I lo,.I hi] w fun e w'=>e=.returned (.bool false)/\w'=w:=by
 rcases(show ¬ lo<=n\/(lo<=n/\¬ n<=hi) by omega)with h1 | ⟨h1,h2⟩
 all_goals
  clear h;go_enter Tryz.func75,Tryz.ntmps75;go_wp2;go_ret;exact⟨rfl,rfl⟩
theorem zav(n hi:Int)(w:World)(h:0<=n/\n<hi):zC 39 #[.I n,.I hi] w fun e w'=>e=.returned (.bool true)/\w'=w:=by
 obtain⟨h1,h2⟩:=h;go_enter Tryz.func39,Tryz.ntmps39;go_wp2;go_ret;exact⟨rfl,rfl⟩
theorem zbv(n hi:Int)(w:World)(h:¬ (0<=n/\n<hi)):zC 39 #[.I n,.I hi] w fun e w'=>e=.returned (.bool false)/\w'=w:=by
 rcases(show ¬ 0<=n\/(0<=n/\¬ n<hi) by omega)with h1 | ⟨h1,h2⟩
 all_goals
  clear h;go_enter Tryz.func39,Tryz.ntmps39;go_wp2;go_ret;exact⟨rfl,rfl⟩
def inoV(i f:Int):Int:=if (0<=i/\i<16)/\0<=f/\f<11 then 48+12*i+f else 0
def inoC(i f:Int):Int:=if (0<=i/\i<16)/\0<=f/\f<11 then 0 else 4
theorem yago{i f:Int}(h:0<=i/\i<16)(k:0<=f/\f<11):inoV i f=48+12*i+f/\inoC i f=0:=by unfold inoV inoC;rw[if_pos ⟨h,k⟩,if_pos ⟨h,k⟩];exact⟨rfl,rfl⟩
theorem yacj{i f:Int}(h:¬ ((0<=i/\i<16)/\0<=f/\f<11)):inoV i f=0/\inoC i f=4:=by unfold inoV inoC;rw[if_neg h,if_neg h];exact⟨rfl,rfl⟩
theorem zbh(i f:Int)(w:World)(h:0<=i/\i<16)(k:0<=f/\f<11):zC 93 #[.I i,.I f] w fun e w'=>e=.returned (.I (48+12*i+f))/\w'=w:=by
 go_enter Tryz.func93,Tryz.ntmps93;go_wp2;go_ret;exact⟨zcx (by first | rfl | omega | (go_num;omega)),rfl⟩
theorem zfo(i f:Int)(w:World):zC 205 #[.I i,.I f] w fun e w'=>e=.returned (.tuple #[.I (inoV i f),.I (inoC i f)])/\w'=w:=by
 by_cases c1:0<=i/\i<16
 ·by_cases c2:0<=f/\f<11
  ·have c3:=c1.1;have c4:=c1.2;have E:=zaa (yago c1 c2);go_enter Tryz.func205,Tryz.ntmps205;go_wp2_with (first | (go_at_call 39;refine(zav _ _ _ (by omega)).mono ?_;rintro e w' ⟨rfl,rfl⟩) | (go_at_call 39;refine(zbv _ _ _ (by omega)).mono ?_;rintro e w' ⟨rfl,rfl⟩));go_ret2;exact⟨zcg (by rw[E.o.1]) E.o.2.symm,rfl⟩
  ·have c3:¬ ((0<=i/\i<16)/\0<=f/\f<11):=fun x=>c2 x.2
   have E:=zaa (yacj c3);go_enter Tryz.func205,Tryz.ntmps205;go_wp2_with (first | (go_at_call 39;refine(zav _ _ _ (by omega)).mono ?_;rintro e w' ⟨rfl,rfl⟩) | (go_at_call 39;refine(zbv _ _ _ (by omega)).mono ?_;rintro e w' ⟨rfl,rfl⟩));go_ret2;exact⟨zcg (by rw[E.o.1]) E.o.2.symm,rfl⟩
 ·have c3:¬ ((0<=i/\i<16)/\0<=f/\f<11):=fun x=>c1 x.1
  have E:=zaa (yacj c3);go_enter Tryz.func205,Tryz.ntmps205;go_wp2_with (first | (go_at_call 39;refine(zav _ _ _ (by omega)).mono ?_;rintro e w' ⟨rfl,rfl⟩) | (go_at_call 39;refine(zbv _ _ _ (by omega)).mono ?_;rintro e w' ⟨rfl,rfl⟩));go_ret2;exact⟨zcg (by rw[E.o.1]) E.o.2.symm,rfl⟩
def denV(i f:Int):Int:=if (0<=i/\i<24)/\0<=f/\f<3 then 240+3*i+f else 0
def denC(i f:Int):Int:=if (0<=i/\i<24)/\0<=f/\f<3 then 0 else 4
theorem yapk{i f:Int}(h:0<=i/\i<24)(k:0<=f/\f<3):denV i f=240+3*i+f/\denC i f=0:=by unfold denV denC;rw[if_pos ⟨h,k⟩,if_pos ⟨h,k⟩];exact⟨rfl,rfl⟩
theorem yael{i f:Int}(h:¬ ((0<=i/\i<24)/\0<=f/\f<3)):denV i f=0/\denC i f=4:=by unfold denV denC;rw[if_neg h,if_neg h];exact⟨rfl,rfl⟩
theorem zep(i f:Int)(w:World)(h:0<=i/\i<24)(k:0<=f/\f<3):zC 161 #[.I i,.I f] w fun e w'=>e=.returned (.I (240+3*i+f))/\w'=w:=by
 go_enter Tryz.func161,Tryz.ntmps161;go_wp2;go_ret;exact⟨zcx (by first | rfl | omega | (go_num;omega)),rfl⟩
theorem zha(i f:Int)(w:World):zC 233 #[.I i,.I f] w fun e w'=>e=.returned (.tuple #[.I (denV i f),.I (denC i f)])/\w'=w:=by
 by_cases c1:0<=i/\i<24
 ·by_cases c2:0<=f/\f<3
  ·have c3:=c1.1;have c4:=c1.2;have E:=zaa (yapk c1 c2);go_enter Tryz.func233,Tryz.ntmps233;go_wp2_with (first | (go_at_call 39;refine(zav _ _ _ (by omega)).mono ?_;rintro e w' ⟨rfl,rfl⟩) | (go_at_call 39;refine(zbv _ _ _ (by omega)).mono ?_;rintro e w' ⟨rfl,rfl⟩));go_ret2;exact⟨zcg (by rw[E.o.1]) E.o.2.symm,rfl⟩
  ·have c3:¬ ((0<=i/\i<24)/\0<=f/\f<3):=fun x=>c2 x.2
   have E:=zaa (yael c3);go_enter Tryz.func233,Tryz.ntmps233;go_wp2_with (first | (go_at_call 39;refine(zav _ _ _ (by omega)).mono ?_;rintro e w' ⟨rfl,rfl⟩) | (go_at_call 39;refine(zbv _ _ _ (by omega)).mono ?_;rintro e w' ⟨rfl,rfl⟩));go_ret2;exact⟨zcg (by rw[E.o.1]) E.o.2.symm,rfl⟩
 ·have c3:¬ ((0<=i/\i<24)/\0<=f/\f<3):=fun x=>c1 x.1
  have E:=zaa (yael c3);go_enter Tryz.func233,Tryz.ntmps233;go_wp2_with (first | (go_at_call 39;refine(zav _ _ _ (by omega)).mono ?_;rintro e w' ⟨rfl,rfl⟩) | (go_at_call 39;refine(zbv _ _ _ (by omega)).mono ?_;rintro e w' ⟨rfl,rfl⟩));go_ret2;exact⟨zcg (by rw[E.o.1]) E.o.2.symm,rfl⟩
structure Mi where
 kind:Int
 at_:Int
 val:Int
def Mi.v(m:Mi):Value:=.agg #[.I m.kind,.I m.at_,.I m.val]
def miB(m:Mi):Bool:=decide ((m.kind=1/\(0<=m.at_/\m.at_<336)/\0<=m.val/\m.val<1099511627776)\/(m.kind=2/\(0<=m.at_/\m.at_<336)/\m.val=0)\/(m.kind=4/\(0<=m.at_/\m.at_<32)/\0<=m.val/\m.val<1099511627776)\/((m.kind=3\/m.kind=5)/\m.at_=0/\m.val=0))
theorem yayl{m:Mi}:miB m=true↔((m.kind=1/\(0<=m.at_/\m.at_<336)/\0<=m.val/\m.val<1099511627776)\/(m.kind=2/\(0<=m.at_/\m.at_<336)/\m.val=0)\/(m.kind=4/\(0<=m.at_/\m.at_<32)/\0<=m.val/\m.val<1099511627776)\/((m.kind=3\/m.kind=5)/\m.at_=0/\m.val=0)):=by unfold miB;exact decide_eq_true_iff
theorem zol(k a v:Int):miB ⟨k,a,v⟩=true↔((k=1/\(0<=a/\a<336)/\0<=v/\v<1099511627776)\/(k=2/\(0<=a/\a<336)/\v=0)\/(k=4/\(0<=a/\a<32)/\0<=v/\v<1099511627776)\/((k=3\/k=5)/\a=0/\v=0)):=yayl
def zrk(zs:List Int):Bool:=decide (∀ k (h:k<zs.length),zbx zs[k]=true)
theorem yaio{zs:List Int}(h:∀ k (h:k<zs.length),zbx zs[k]=true):zrk zs=true:=decide_eq_true h
theorem yaej{zs:List Int}{k:Nat}(hk:k<zs.length)(h:zbx zs[k]=false):zrk zs=false:=decide_eq_false (fun x=>by have:=x k hk;rw[h]at this;cases this)
theorem zds(v:Value)(zs:List Int)(w:World)(h:RdI w v zs)(hn:zs.length<=2147483648) :
  zC 94 #[v,.func (.func 95) #[] #[]] w fun e w'=>e=.returned (.bool (zku zs))/\w'=w:=by
 obtain⟨ao,cap,rfl,_,hc⟩:=h.shape;clear h;go_enter Tryz.func94,Tryz.ntmps94;go_wp2
 go_loop [6,9] (fun _ i=>∃ k:Nat,k<=zs.length/\i=.I k/\Hid (∀ j (h:j<zs.length),j<k->zbd zs[j]=true)) (fun _ i=>zs.length-(intOf i).toNat)
 case atStart=>exact⟨0,by omega,rfl,fun j h a=>absurd a (by omega)⟩
 case round =>
  obtain⟨k,hk,rfl,H⟩:=hrel
  by_cases hlt:k<zs.length
  ·obtain⟨b,o,rfl,hbl,hcell⟩:=hc (by omega);have hck:=hcell k hlt;clear hcell hc
   by_cases q:zbd zs[k]=true
   ·go_wp2_with (go_at_call 95;refine(zes _ _).mono ?_;rintro e w' ⟨rfl,rfl⟩)
    go_round
    case rel =>
     refine⟨k+1,by omega,by go_num,fun j h a=>?_⟩
     by_cases e:j=k
     ·subst e;exact q
     ·exact H.o j h (by omega)
    case measure=>simp[intOf];omega
   ·have q':zbd zs[k]=false:=by simpa using q
    have E:=zaa (yajw hlt q');go_wp2_with (go_at_call 95;refine(zes _ _).mono ?_;rintro e w' ⟨rfl,rfl⟩);go_ret;exact⟨zai E.o.symm,rfl⟩
  ·have E:=zaa (zzw (fun j h=>H.o j h (by omega)));clear H;go_wp2;go_ret;exact⟨zai E.o.symm,rfl⟩
theorem zkp(v:Value)(zs:List Int)(w:World)(h:RdI w v zs)(hn:zs.length<=2147483648) :
  zC 94 #[v,.func (.func 98) #[] #[]] w fun e w'=>e=.returned (.bool (zrk zs))/\w'=w:=by
 obtain⟨ao,cap,rfl,_,hc⟩:=h.shape;clear h;go_enter Tryz.func94,Tryz.ntmps94;go_wp2
 go_loop [6,9] (fun _ i=>∃ k:Nat,k<=zs.length/\i=.I k/\Hid (∀ j (h:j<zs.length),j<k->zbx zs[j]=true)) (fun _ i=>zs.length-(intOf i).toNat)
 case atStart=>exact⟨0,by omega,rfl,fun j h a=>absurd a (by omega)⟩
 case round =>
  obtain⟨k,hk,rfl,H⟩:=hrel
  by_cases hlt:k<zs.length
  ·obtain⟨b,o,rfl,hbl,hcell⟩:=hc (by omega);have hck:=hcell k hlt;clear hcell hc
   by_cases q:zbx zs[k]=true
   ·go_wp2_with (go_at_call 98;refine(zdf _ _).mono ?_;rintro e w' ⟨rfl,rfl⟩)
    go_round
    case rel =>
     refine⟨k+1,by omega,by go_num,fun j h a=>?_⟩
     by_cases e:j=k
     ·subst e;exact q
     ·exact H.o j h (by omega)
    case measure=>simp[intOf];omega
   ·have q':zbx zs[k]=false:=by simpa using q
    have E:=zaa (yaej hlt q');go_wp2_with (go_at_call 98;refine(zdf _ _).mono ?_;rintro e w' ⟨rfl,rfl⟩);go_ret;exact⟨zai E.o.symm,rfl⟩
  ·have E:=zaa (yaio (fun j h=>H.o j h (by omega)));clear H;go_wp2;go_ret;exact⟨zai E.o.symm,rfl⟩
def stB(s:St):Bool:=zbx s.at_&&zbd s.val
theorem yatq{s:St}(h:stB s=true):zbx s.at_=true/\zbd s.val=true:=by unfold stB at h;simpa using h
theorem yams{s:St}{p:Prop}(h:stB s=false)(h1:zbx s.at_=false->p)(h2:zbd s.val=false->p):p:=by
 unfold stB at h;rw[Bool.and_eq_false_iff]at h;exact h.elim h1 h2
def stsB(ps:List St):Bool:=decide (∀ k (h:k<ps.length),stB ps[k]=true)
theorem yani{ps:List St}(h:stsB ps=true):∀ k (h:k<ps.length),stB ps[k]=true:=of_decide_eq_true h
theorem yapb{ps:List St}(h:∀ k (h:k<ps.length),stB ps[k]=true):stsB ps=true:=decide_eq_true h
theorem yavl{ps:List St}{k:Nat}(hk:k<ps.length)(h:stB ps[k]=false):stsB ps=false:=decide_eq_false (fun x=>by have:=x k hk;rw[h]at this;cases this)
theorem yaxs{ps:List St}(h:stsB ps=false):∃ k,∃ h:k<ps.length,stB ps[k]=false:=by
 apply Classical.byContradiction;intro hn
 have:stsB ps=true:=yapb (fun k hk=>by
  cases e:stB ps[k] with
  | true=>rfl
  | false=>exact absurd ⟨k,hk,e⟩ hn)
 rw[h]at this
 cases this
theorem zru(s:St)(w:World):zC 97 #[.agg #[.I s.at_,.I s.val,.bool s.fl]] w fun e w'=>e=.returned (.bool (stB s))/\zB w w':=by
 have hb0:zB w (w.alloc (.cells #[.I s.at_,.I s.val,.bool s.fl] 138)):=zR.alloc zL _
 by_cases q:zbx s.at_=true
 ·have E:=zaa (show stB s=zbd s.val by unfold stB;rw[q];rfl);have Q:=zaa q;clear q;go_enter Tryz.func97,Tryz.ntmps97;go_wp2_with (first | (go_at_call 98;refine(zdf _ _).mono ?_;rw[Q.o];rintro e w' ⟨rfl,rfl⟩) | (go_at_call 95;refine(zes _ _).mono ?_;rintro e w' ⟨rfl,rfl⟩));go_ret;exact⟨zai E.o.symm,hb0⟩
 ·have q':zbx s.at_=false:=by simpa using q
  have E:=zaa (show stB s=false by unfold stB;rw[q'];rfl);have Q:=zaa q';clear q q';go_enter Tryz.func97,Tryz.ntmps97;go_wp2_with (go_at_call 98;refine(zdf _ _).mono ?_;rw[Q.o];rintro e w' ⟨rfl,rfl⟩);go_ret;exact⟨zai E.o.symm,hb0⟩
theorem zko(v:Value)(ps:List St)(w:World)(h:RdS w v ps)(hn:ps.length<=1048576) :
  zC 96 #[v,.func (.func 97) #[] #[]] w fun e w'=>e=.returned (.bool (stsB ps))/\zB w w':=by
 obtain⟨aP,cP,rfl,_,hcP⟩:=h.shape;clear h;go_enter Tryz.func96,Tryz.ntmps96;go_wp2
 go_loopw [6,9] (fun _ i wr=>∃ k:Nat,k<=ps.length/\i=.I k/\Hid (∀ j (h:j<ps.length),j<k->stB ps[j]=true)/\zB w wr) (fun _ i _=>ps.length-(intOf i).toNat)
 case atStart=>exact⟨0,by omega,rfl,fun j h a=>absurd a (by omega),zR⟩
 case round =>
  obtain⟨m,hm,rfl,H,hbw⟩:=hrel;have hz:=hbw.size
  by_cases hlt2:m<ps.length
  ·obtain⟨b2,o2,rfl,hbl2,hcell2⟩:=hcP (by omega);obtain⟨d0,d1,d2⟩:=hcell2 m hlt2;have e0:=(hbw.cell (p:=⟨b2,o2+m*3,none⟩) hbl2).trans d0;have e1:=(hbw.cell (p:=⟨b2,o2+m*3+1,none⟩) hbl2).trans d1;have e2:=(hbw.cell (p:=⟨b2,o2+m*3+2,none⟩) hbl2).trans d2;have hb1:=zaa (hbw.alloc hz (.cells #[.I ps[m].at_,.I ps[m].val,.bool ps[m].fl] 138));clear d0 d1 d2 hcell2 hcP
   by_cases q:stB ps[m]=true
   ·have Q:=zaa q;clear q;go_wp2_with (go_at_call 97;refine(zru ps[m] _).mono ?_;rw[Q.o];rintro e w' ⟨rfl,hw'⟩);have hw2:=hb1.o.trans (hw'.mono (by simp;omega));clear hb1 hw'
    go_roundw
    case rel =>
     refine⟨m+1,by omega,by go_num,fun j h a=>?_,hw2⟩
     by_cases e:j=m
     ·subst e;exact Q.o
     ·exact H.o j h (by omega)
    case measure=>simp[intOf];omega
   ·have Q:=zaa (show stB ps[m]=false by simpa using q);have E:=zaa (yavl hlt2 Q.o);clear q;go_wp2_with (go_at_call 97;refine(zru ps[m] _).mono ?_;rw[Q.o];rintro e w' ⟨rfl,hw'⟩);have hw2:=hb1.o.trans (hw'.mono (by simp;omega));go_ret;exact⟨zai E.o.symm,hw2⟩
  ·have E:=zaa (yapb (fun j h=>H.o j h (by omega)));go_wp2;go_ret;exact⟨zai E.o.symm,hbw⟩
theorem zfi(v:Value)(ws:List Int)(ps:List St)(w:World)(h:RdPm w v ws ps)(hw:ws.length<=1048576)(hp:ps.length<=1048576) :
  zC 43 #[v] w fun e w'=>e=.returned (.bool (pmB ws ps))/\zB w w':=by
 obtain⟨vW,vP,rfl,h1,h2⟩:=h;obtain⟨aW,cW,rfl,_,hcW⟩:=h1.shape;obtain⟨aP,cP,rfl,_,hcP⟩:=h2.shape;have H1:=zaa h1;have H2:=zaa h2;clear h1 h2 hcW hcP;have hb0:zB w (w.alloc (.cells #[.slice aW ws.length cW,.slice aP ps.length cP] 26)):=zR.alloc zL _;have HB:=zaa hb0
 by_cases c1:ws.length=336
 case neg =>
  have E:=zaa (yaev (ps:=ps) c1)
  have c1':((ws.length:Int) == 336)=false:=by rw[beq_eq_false_iff_ne];omega
  clear c1;go_enter Tryz.func43,Tryz.ntmps43;go_wp2;go_ret;exact⟨zai E.o.symm,HB.o⟩
 have c1n:((ws.length:Int) == 336)=true:=by simp;omega
 have C1:=zaa c1;clear c1
 by_cases c2:400<ps.length
 ·have E:=zaa (yahh (ws:=ws) c2)
  have c2':decide ((ps.length:Int)<=400)=false:=by simp;omega
  go_enter Tryz.func43,Tryz.ntmps43;go_wp2;go_ret;exact⟨zai E.o.symm,HB.o⟩
 by_cases c3:zku ws=true
 case neg =>
  have c3':zku ws=false:=by simpa using c3
  obtain⟨k,hk,hkf⟩:=yaap c3';have E:=zaa (ybcm (ps:=ps) hk hkf);have W0:=zaa c3';clear c3 c3' hkf hk;go_enter Tryz.func43,Tryz.ntmps43;go_wp2_with (go_at_call 94;refine(zds _ ws _ (Rd.below H1.o HB.o) (by omega)).mono ?_;rw[W0.o];rintro e w' ⟨rfl,rfl⟩);go_ret;exact⟨zai E.o.symm,HB.o⟩
 have HW:=zaa (zqx c3);have W1:=zaa c3;clear c3
 cases c4:stsB ps with
 | true =>
  have E:=zaa (yapf C1.o (by omega) HW.o (fun j h=>yatq (yani c4 j h)));have W2:=zaa c4;clear c4;go_enter Tryz.func43,Tryz.ntmps43;go_wp2_with (first | (go_at_call 94;refine(zds _ ws _ (Rd.below H1.o HB.o) (by omega)).mono ?_;rw[W1.o];rintro e w' ⟨rfl,rfl⟩) | (go_at_call 96;refine(zko _ ps _ (Rd.below H2.o HB.o) (by omega)).mono ?_;rw[W2.o];rintro e w' ⟨rfl,hw'⟩));go_ret;exact⟨zai E.o.symm,HB.o.trans (hw'.mono (by simp))⟩
 | false =>
  obtain⟨k,hk,hkf⟩:=yaxs c4;have E:=zaa (show pmB ws ps=false from yams hkf (ybbj (ws:=ws) hk) (ybcw (ws:=ws) hk));have W2:=zaa c4;clear c4 hk hkf;go_enter Tryz.func43,Tryz.ntmps43;go_wp2_with (first | (go_at_call 94;refine(zds _ ws _ (Rd.below H1.o HB.o) (by omega)).mono ?_;rw[W1.o];rintro e w' ⟨rfl,rfl⟩) | (go_at_call 96;refine(zko _ ps _ (Rd.below H2.o HB.o) (by omega)).mono ?_;rw[W2.o];rintro e w' ⟨rfl,hw'⟩));go_ret;exact⟨zai E.o.symm,HB.o.trans (hw'.mono (by simp))⟩
def zxk(ws:List Int)(ps:List St)(at_:Int):Int:=if pmB ws ps=false then 1 else if zbx at_=false then 14 else 0
theorem yafm{ws:List Int}{ps:List St}{at_:Int}(h:pmB ws ps=false):zxk ws ps at_=1:=by unfold zxk;rw[if_pos h]
theorem zuk{ws:List Int}{ps:List St}{at_:Int}(h:pmB ws ps=true)(h2:zbx at_=false):zxk ws ps at_=14:=by unfold zxk;rw[if_neg (by rw[h];simp),if_pos h2]
theorem yaqy{ws:List Int}{ps:List St}{at_:Int}(h:pmB ws ps=true)(h2:zbx at_=true):zxk ws ps at_=0:=by unfold zxk;rw[if_neg (by rw[h];simp),if_neg (by rw[h2];simp)]
theorem zks(v:Value)(ws:List Int)(ps:List St)(at_:Int)(w:World)(h:RdPm w v ws ps)(hw:ws.length<=1048576)(hp:ps.length<=1048576) :
  zC 173 #[v,.I at_] w fun e w'=>e=.returned (.I (zxk ws ps at_))/\zB w w':=by
 have HR:=zaa h;obtain⟨vW,vP,rfl,h1,h2⟩:=h;obtain⟨aW,cW,rfl,_⟩:=h1.shape;obtain⟨aP,cP,rfl,_⟩:=h2.shape;clear h1 h2;have hb0:zB w (w.alloc (.cells #[.slice aW ws.length cW,.slice aP ps.length cP] 26)):=zR.alloc zL _
 by_cases c1:pmB ws ps=true
 ·by_cases c2:zbx at_=true
  ·rw[yaqy c1 c2];go_enter Tryz.func173,Tryz.ntmps173;go_wp2_with (first | (go_at_call 43;refine(zfi _ ws ps _ (HR.o.below hb0) hw hp).mono ?_;rintro e w1 ⟨rfl,hb1⟩) | (go_at_call 98;refine(zdf _ _).mono ?_;rintro e w2 ⟨rfl,rfl⟩));go_ret;exact⟨rfl,zab hb0 hb1 (by simp)⟩
  ·have c2':zbx at_=false:=by simpa using c2
   rw[zuk c1 c2'];clear c2;go_enter Tryz.func173,Tryz.ntmps173;go_wp2_with (first | (go_at_call 43;refine(zfi _ ws ps _ (HR.o.below hb0) hw hp).mono ?_;rintro e w1 ⟨rfl,hb1⟩) | (go_at_call 98;refine(zdf _ _).mono ?_;rintro e w2 ⟨rfl,rfl⟩));go_ret;exact⟨rfl,zab hb0 hb1 (by simp)⟩
 ·have c1':pmB ws ps=false:=by simpa using c1
  rw[yafm c1'];clear c1;go_enter Tryz.func173,Tryz.ntmps173;go_wp2_with (first | (go_at_call 43;refine(zfi _ ws ps _ (HR.o.below hb0) hw hp).mono ?_;rintro e w1 ⟨rfl,hb1⟩) | (go_at_call 98;refine(zdf _ _).mono ?_;rintro e w2 ⟨rfl,rfl⟩));go_ret;exact⟨rfl,zab hb0 hb1 (by simp)⟩
def zlj(at_ d:Int)(ps:List St):Int:=ps.foldl (fun acc p=>if p.at_=at_ then p.val else acc) d
theorem zkf{at_ d:Int}:∀ {ps:List St},(∀ p∈ps,¬ p.at_=at_)->zlj at_ d ps=d
 | [],_=>rfl
 | p::ps,h=>by
  show zlj at_ (if p.at_=at_ then p.val else d) ps=d
  rw[if_neg (h p (by simp))];exact zkf (fun q hq=>h q (by simp[hq]))
theorem zxp(at_ d:Int)(ps qs:List St):zlj at_ d (ps++qs)=zlj at_ (zlj at_ d ps) qs:=by simp[zlj]
theorem zxu{at_ d:Int}{ps:List St}{k:Nat}(hk:k<ps.length)(h:ps[k].at_=at_)(ha:∀ j (hj:j<ps.length),k<j->¬ ps[j].at_=at_):zlj at_ d ps=ps[k].val:=by
 have e:ps=ps.take k++(ps[k]::ps.drop (k+1)):=by rw[<- List.drop_eq_getElem_cons hk,List.take_append_drop]
 conv=>lhs;rw[e]
 rw[zxp]
 show zlj at_ (if ps[k].at_=at_ then ps[k].val else _) (ps.drop (k+1))=_
 rw[if_pos h];apply zkf;intro p hp;obtain⟨i,hi,rfl⟩:=List.getElem_of_mem hp;rw[List.getElem_drop];exact ha _ _ (by omega)
theorem zrq(v:Value)(ws:List Int)(ps:List St)(at_:Nat)(w:World)(h:RdPm w v ws ps)(hw:ws.length<=1048576)(hp:ps.length<=1048576)(ha:at_<ws.length) :
  zC 139 #[v,.I (at_:Int)] w fun e w'=>e=.returned (.I (zlj (at_:Int) ws[at_] ps))/\zB w w':=by
 obtain⟨vW,vP,rfl,h1,h2⟩:=h;obtain⟨aW,cW,rfl,_,hcW⟩:=h1.shape;obtain⟨aP,cP,rfl,_,hcP⟩:=h2.shape;clear h1 h2;obtain⟨bW,oW,rfl,hbW,hcellW⟩:=hcW (by omega);have hb0:zB w (w.alloc (.cells #[.slice (some ⟨bW,oW,none⟩) ws.length cW,.slice aP ps.length cP] 26)):=zR.alloc zL _;have hcw:=(hb0.cell (p:=⟨bW,oW+at_,none⟩) hbW).trans (hcellW at_ ha);clear hcW hcellW;go_enter Tryz.func139,Tryz.ntmps139;go_wp2
 go_loop [5] (fun i=>∃ k:Nat,k<=ps.length/\i=.I ((k:Int)-1)/\Hid (∀ j (h:j<ps.length),k<=j->¬ ps[j].at_=(at_:Int))) (fun i=>(intOf i+1).toNat)
 case atStart=>exact⟨ps.length,Nat.le_refl _,rfl,fun j h a=>absurd h (by omega)⟩
 case round =>
  obtain⟨k,hk,rfl,H⟩:=hrel
  cases k with
  | zero =>
   have E:=zaa (zkf (d:=ws[at_]) (fun p hp=>by obtain⟨i,hi,rfl⟩:=List.getElem_of_mem hp;exact H.o i hi (by omega)));clear H hcP;go_wp2;go_ret;exact⟨zcx E.o.symm,hb0⟩
  | succ m =>
   have em:(((m+1:Nat):Int)-1)=(m:Int):=by omega
   rw[em];clear em;obtain⟨b,o,rfl,hbl,hcell⟩:=hcP (by omega);obtain⟨d0,d1,_⟩:=hcell m (by omega);have e0:=(hb0.cell (p:=⟨b,o+m*3,none⟩) hbl).trans d0;have e1:=(hb0.cell (p:=⟨b,o+m*3+1,none⟩) hbl).trans d1;clear d0 d1 hcell hcP
   have hm:m<ps.length:=by omega
   by_cases c:ps[m].at_=(at_:Int)
   ·have c':(ps[m].at_ == (at_:Int))=true:=by simpa using c
    have E:=zaa (zxu (d:=ws[at_]) hm c (fun j hj hlt=>H.o j hj (by omega)));clear H c;go_wp2;go_ret;exact⟨zcx E.o.symm,hb0⟩
   ·have c':(ps[m].at_ == (at_:Int))=false:=by simpa using c
    have C:=zaa c;clear c;go_wp2
    go_round
    case rel =>
     refine⟨m,by omega,by go_num,fun j hj hle=>?_⟩
     by_cases e:j=m
     ·subst e;exact C.o
     ·exact H.o j hj (by omega)
    case measure=>simp[intOf]<;>omega
def yabn(ws:List Int)(ps:List St)(at_:Int):Int:=if zxk ws ps at_=0 then zlj at_ (ws[at_.toNat]?.getD 0) ps else 0
theorem yanu{ws:List Int}{ps:List St}{at_:Int}(h:¬ zxk ws ps at_=0):yabn ws ps at_=0:=by unfold yabn;rw[if_neg h]
theorem yavr{ws:List Int}{ps:List St}{k:Nat}(h:zxk ws ps (k:Int)=0)(hk:k<ws.length):yabn ws ps (k:Int)=zlj (k:Int) ws[k] ps:=by
 unfold yabn;rw[if_pos h];simp[hk]
theorem yail(ws:List Int)(ps:List St)(at_:Int):(zxk ws ps at_=1\/zxk ws ps at_=14)\/(zxk ws ps at_=0/\pmB ws ps=true/\∃ k:Nat,at_=(k:Int)/\k<336/\k<ws.length):=by
 by_cases c1:pmB ws ps=true
 ·by_cases c2:zbx at_=true
  ·have:=zgd c2;have hl:=(zgj c1).1;exact .inr ⟨yaqy c1 c2,c1,at_.toNat,by omega,by omega,by omega⟩
  ·exact .inl (.inr (zuk c1 (by simpa using c2)))
 ·exact .inl (.inl (yafm (by simpa using c1)))
theorem ztm(v:Value)(ws:List Int)(ps:List St)(at_:Int)(w:World)(h:RdPm w v ws ps)(hw:ws.length<=1048576)(hp:ps.length<=1048576) :
  zC 121 #[v,.I at_] w fun e w'=>e=.returned (.tuple #[.I (yabn ws ps at_),.I (zxk ws ps at_)])/\zB w w':=by
 have HR:=zaa h;obtain⟨vW,vP,rfl,h1,h2⟩:=h;obtain⟨aW,cW,rfl,_,hcW⟩:=h1.shape;obtain⟨aP,cP,rfl,_,hcP⟩:=h2.shape;clear h1 h2;have hb0:zB w (w.alloc (.cells #[.slice aW ws.length cW,.slice aP ps.length cP] 26)):=zR.alloc zL _
 rcases yail ws ps at_ with hc | ⟨hc,hok,k,rfl,hk,hkl⟩
 ·have hne:(zxk ws ps at_ != 0)=true:=by rcases hc with hc | hc<;>simp[hc]
  have E:=zaa (yanu (ws:=ws) (ps:=ps) (at_:=at_) (by rcases hc with hc | hc<;>simp[hc]));clear hc hcW hcP;go_enter Tryz.func121,Tryz.ntmps121;go_wp2_with (go_at_call 173;refine(zks _ ws ps _ _ (HR.o.below hb0) hw hp).mono ?_;rintro e w1 ⟨rfl,hb1⟩);go_ret2;exact⟨zcg E.o.symm rfl,zab hb0 hb1 (by simp)⟩
 ·have E:=zaa (yavr hc hkl);have C:=zaa hc;obtain⟨bW,oW,rfl,hbW,hcellW⟩:=hcW (by omega);have hcw:=zaa (hcellW k hkl);have HP:=zaa hcP;clear hc hcW hcellW hcP;go_enter Tryz.func121,Tryz.ntmps121;go_wp2_with fail;refine(zks _ ws ps _ _ (HR.o.below hb0) hw hp).mono ?_;rw[C.o];rintro e w1 ⟨rfl,hb1⟩;have V1:=(hb1.block w.heap.size (by simp)).trans (zaf rfl);obtain⟨x1,x2,_,_⟩:=zac V1;have B1:=zaa (zab hb0 hb1 (by simp));have hcw1:=(B1.o.cell (p:=⟨bW,oW+k,none⟩) hbW).trans hcw.o;clear V1 hb1 hb0;go_wp2
  go_loop [7] (fun i=>∃ m:Nat,m<=ps.length/\i=.I ((m:Int)-1)/\Hid (∀ j (h:j<ps.length),m<=j->¬ ps[j].at_=(k:Int))) (fun i=>(intOf i+1).toNat)
  case atStart=>exact⟨ps.length,Nat.le_refl _,rfl,fun j h a=>absurd h (by omega)⟩
  case round =>
   obtain⟨m,hm,rfl,H⟩:=hrel
   cases m with
   | zero =>
    have E2:=zaa (zkf (d:=ws[k]) (fun p hp=>by obtain⟨i,hi,rfl⟩:=List.getElem_of_mem hp;exact H.o i hi (by omega)));clear H;go_wp2;go_ret2;exact⟨zcg (E.o.trans E2.o).symm C.o.symm,B1.o⟩
   | succ m =>
    have em:(((m+1:Nat):Int)-1)=(m:Int):=by omega
    rw[em];clear em;obtain⟨b,o,rfl,hbl,hcell⟩:=HP.o (by omega);obtain⟨d0,d1,_⟩:=hcell m (by omega);have e0:=(B1.o.cell (p:=⟨b,o+m*3,none⟩) hbl).trans d0;have e1:=(B1.o.cell (p:=⟨b,o+m*3+1,none⟩) hbl).trans d1;clear d0 d1 hcell
    have hml:m<ps.length:=by omega
    by_cases c:ps[m].at_=(k:Int)
    ·have c':(ps[m].at_ == (k:Int))=true:=by simpa using c
     have E2:=zaa (zxu (d:=ws[k]) hml c (fun j hj hlt=>H.o j hj (by omega)));clear H c;go_wp2;go_ret2;exact⟨zcg (E.o.trans E2.o).symm C.o.symm,B1.o⟩
    ·have c':(ps[m].at_ == (k:Int))=false:=by simpa using c
     have C2:=zaa c;clear c;go_wp2
     go_round
     case rel =>
      refine⟨m,by omega,by go_num,fun j hj hle=>?_⟩
      by_cases e:j=m
      ·subst e;exact C2.o
      ·exact H.o j hj (by omega)
     case measure=>simp[intOf]<;>omega
end Go.Proofs.YtogcbbkhnpmgeaaGreatDoor
