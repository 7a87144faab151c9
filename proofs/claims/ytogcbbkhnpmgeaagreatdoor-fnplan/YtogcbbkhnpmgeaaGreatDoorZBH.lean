import Derived.Test.YtogcbbkhnpmgeaaGreatDoorZAQ
import Derived.WalkMore
import Derived.Shelf.Small.Strs
import Derived.Shelf.Small.Wraps
import Derived.Shelf.Strings.Search3
import Derived.Shelf.Strings.Count
import Derived.Shelf.Strings.Split
set_option maxRecDepth 100000
set_option maxHeartbeats 4000000
namespace Go.Proofs.YtogcbbkhnpmgeaaGreatDoor
open Go.RowKit
theorem zji(v:Value)(ws:List Ino)(ps:List Den)(i:Int)(w:World)(h:RdIm w v ws ps)(hl:ws.length=16)(h0:0<=i/\i<=15) :
  zC 84 #[v,.I i] w fun e w'=>e=.returned (.bool (zaj ws i == 2))/\zB w w':=by
 obtain⟨vW,vP,rfl,h1,h2⟩:=h;obtain⟨aW,cW,rfl,_,hcW⟩:=h1.shape;obtain⟨aP,cP,rfl,_,_⟩:=h2.shape
 obtain⟨n,rfl⟩:∃ n:Nat,i=(n:Int):=⟨i.toNat,by omega⟩
 have hn:n<ws.length:=by omega
 obtain⟨bW,oW,rfl,hblW,hcellW⟩:=hcW (by omega);have BW:Hid (zB w (w.alloc (.cells #[.slice (some ⟨bW,oW,none⟩) ws.length cW,.slice aP ps.length cP] 51))):=zR.alloc zL _;have k0:=(BW.o.cell (p:=⟨bW,oW+n*11,none⟩) hblW).trans (hcellW n hn).1;rw[<- zbk hn]at k0
 have n0:(0:Int)<=(n:Int):=by omega
 have n1:(n:Int)<(ws.length:Int):=by omega
 clear h1 h2 hcW hcellW hl h0 hn;generalize zaj ws (n:Int)=kk at *;go_enter Tryz.func84,Tryz.ntmps84;go_wp2;go_ret;exact⟨rfl,BW.o⟩
theorem yash{ps:List Den}(u0:upD ps 0=-1){x b:Int}(h:zcz ps 16 x=true)(hx:0<=x)(q:¬ x=b):(x=0->ziv ps 16 x b=false)/\(¬ x=0->0<=upD ps x/\zcz ps 16 (upD ps x)=true/\ziv ps 16 x b=ziv ps 16 (upD ps x) b):=by
 have n0:¬ x<0:=by omega
 have e:ziv ps 16 x b=ziv ps 15 (upD ps x) b:=by rw[show(16:Nat)=15+1 from rfl,zhk,if_neg n0,if_neg q]
 refine⟨fun z=>?_,fun z=>?_⟩
 ·rw[e,z,u0,zwn ps 15 (-1) b (by omega)]
 ·obtain⟨h1,h2⟩:=zhv (k:=15) h z;refine⟨h1,zuf 15 _ h2,?_⟩;rw[e,zwp u0 15 16 _ b h2 h1 (by omega)]
def deep(ps:List Den):Nat->Int->Nat
 | 0,_=>0
 | n+1,x=>if x=0 then 0 else 1+deep ps n (upD ps x)
theorem yabh{ps:List Den}:∀ (k n:Nat) (a:Int),zcz ps k a=true->k<=n->deep ps n a=deep ps k a
 | 0,_,_,h,_=>by rw[zga]at h;cases h
 | k+1,0,_,_,hn=>absurd hn (by omega)
 | k+1,n+1,a,h,hn=>by
  show(if a=0 then 0 else 1+deep ps n (upD ps a))=(if a=0 then 0 else 1+deep ps k (upD ps a))
  by_cases r:a=0
  ·rw[if_pos r,if_pos r]
  ·rw[if_neg r,if_neg r,yabh k n _ (zhv h r).2 (by omega)]
theorem yaon{ps:List Den}{x:Int}(h:zcz ps 16 x=true)(q:¬ x=0):deep ps 16 (upD ps x)<deep ps 16 x:=by
 have e:deep ps 16 x=1+deep ps 15 (upD ps x):=by
  show(if x=0 then 0 else 1+deep ps 15 (upD ps x))=_
  rw[if_neg q]
 rw[e,yabh 15 16 _ (zhv (k:=15) h q).2 (by omega)];omega
theorem zsl(v:Value)(ws:List Ino)(ps:List Den)(a b:Int)(w:World)(h:RdIm w v ws ps)(hw:ws.length<=1048576)(hp:ps.length<=1048576)(hT:TS w)(hE:ED w)(hF:FD w)(hr:∀ k (h:k<ws.length),ws[k].R)(hs:∀ k (h:k<ps.length),ps[k].name.size<=maxLen) :
  zC 190 #[v,.I a,.I b] w fun e w'=>e=.returned (.tuple #[.bool (beV ws ps a b),.I (beC ws ps a b)])/\zB w w':=by
 have HRD:=zaa h;have LI:=zaa (fun w1 (hb:zB w w1)=>zby v ws ps w1 (h.below hb) hw hp (hT.below hb) (hE.below hb) (hF.below hb) hr hs);have LD:=zaa (fun i w1 h (hl:ws.length=16) (h0:0<=i/\i<=15)=>zji v ws ps i w1 h hl h0);obtain⟨vW,vP,rfl,h1,h2⟩:=h;obtain⟨aW,cW,rfl,_,_⟩:=h1.shape;obtain⟨aP,cP,rfl,_,hcP⟩:=h2.shape;have HP:=zaa hcP;clear h1 h2 hr hs hcP hT hE hF
 obtain⟨W,hW⟩:=zE (w.alloc (.cells #[.slice aW ws.length cW,.slice aP ps.length cP] 51))
 have CA:Hid (∀ w',zB W w'->w'.cell? ⟨w.heap.size,0,none⟩=some (.slice aW ws.length cW)/\w'.cell? ⟨w.heap.size,1,none⟩=some (.slice aP ps.length cP)):=fun w' hb=>by
  have:w'.heap[w.heap.size]?=some (.cells #[.slice aW ws.length cW,.slice aP ps.length cP] 51 (0,0)):=(hb.block _ (by rw[hW];simp)).trans (by rw[hW];exact zaf rfl);exact⟨(zac this).1,(zac this).2.1⟩
 have BW:Hid (zB w W):=by rw[hW];exact zR.alloc zL _
 have hzW:w.heap.size<=W.heap.size:=BW.o.size
 cases c1:zbg ws ps with
 | false =>
  obtain⟨E1,E2⟩:=ybct (a:=a) (b:=b) c1;rw[c1]at LI;rw[E1,E2];clear c1 E1 E2;go_enter Tryz.func190,Tryz.ntmps190;go_wp2_with fail;go_step3;go_wp2_with fail;rw[<- hW];clear hW;refine(LI.o _ BW.o).mono ?_;rintro e w1 ⟨rfl,hb1⟩;have B1:=zaa (zab BW.o hb1 BW.o.size);have BA1:=zaa hb1;obtain⟨x0,x1⟩:=CA.o _ hb1;clear hb1;go_wp2
  try rw[Exit.noGoto_ret]
  go_ret2;exact⟨rfl,B1.o⟩
 | true =>
 have C1:=zaa c1;rw[c1]at LI
 by_cases c2:0<=a/\a<=15
 case neg =>
  obtain⟨E1,E2⟩:=yahm (a:=a) (b:=b) c1 (fun q=>c2 q.1);rw[E1,E2]
  have C2:Hid (¬ (0<=a/\a<16)):=fun q=>c2 (by omega)
  clear c1 E1 E2 c2;go_enter Tryz.func190,Tryz.ntmps190;go_wp2_with fail;go_step3;go_wp2_with fail;rw[<- hW];clear hW;refine(LI.o _ BW.o).mono ?_;rintro e w1 ⟨rfl,hb1⟩;have B1:=zaa (zab BW.o hb1 BW.o.size);have BA1:=zaa hb1;obtain⟨x0,x1⟩:=CA.o _ hb1;clear hb1;go_wp2_with fail;refine(zbv _ _ _ C2.o).mono ?_;rintro e w2 ⟨rfl,hw2⟩;subst w2;go_wp2
  try rw[Exit.noGoto_ret]
  go_ret2;exact⟨rfl,B1.o⟩
 by_cases c3:0<=b/\b<=15
 case neg =>
  obtain⟨E1,E2⟩:=yahm (a:=a) (b:=b) c1 (fun q=>c3 q.2);rw[E1,E2]
  have C2:Hid (0<=a/\a<16):=by unfold Hid;omega
  have C3:Hid (¬ (0<=b/\b<16)):=fun q=>c3 (by omega)
  clear c1 E1 E2 c2 c3;go_enter Tryz.func190,Tryz.ntmps190;go_wp2_with fail;go_step3;go_wp2_with fail;rw[<- hW];clear hW;refine(LI.o _ BW.o).mono ?_;rintro e w1 ⟨rfl,hb1⟩;have B1:=zaa (zab BW.o hb1 BW.o.size);have BA1:=zaa hb1;obtain⟨x0,x1⟩:=CA.o _ hb1;clear hb1;go_wp2_with fail;refine(zav _ _ _ C2.o).mono ?_;rintro e w2 ⟨rfl,hw2⟩;subst w2;go_wp2_with fail;refine(zbv _ _ _ C3.o).mono ?_;rintro e w2 ⟨rfl,hw2⟩;subst w2;go_wp2
  try rw[Exit.noGoto_ret]
  go_ret2;exact⟨rfl,B1.o⟩
 have L16:=zaa (zas c1).1;have L24:=zaa (zas c1).2.1;have U0:=zaa (yaky c1)
 have C2:Hid (0<=a/\a<16):=by unfold Hid;omega
 have C3:Hid (0<=b/\b<16):=by unfold Hid;omega
 have D2:=zaa c2;have D3:=zaa c3;have NO:=zaa (fun r=>yahj C1.o ⟨D2.o,D3.o⟩ r);have YES:=zaa (fun r=>ybay C1.o ⟨D2.o,D3.o⟩ r);have HG:=zaa (fun hk=>yahq C1.o D2.o hk)
 have HD:Hid (∀ k (h:k<ps.length),ps[k].child=0->False):=fun k h e=>by
  rcases zgw C1.o k h with q | q<;>omega
 have LA:=zaa (fun w1 (hb:zB w w1)=>LD.o a w1 (HRD.o.below hb) L16.o D2.o);have LB:=zaa (fun w1 (hb:zB w w1)=>LD.o b w1 (HRD.o.below hb) L16.o D3.o);clear c1 c2 c3 LD;generalize zaj ws a=ka at *;generalize zaj ws b=kb at *;generalize beC ws ps a b=ec at *;generalize beV ws ps a b=ev at *
 by_cases c4:ka=2
 case neg =>
  obtain⟨E1,E2⟩:=NO.o (fun q=>c4 q.1)
  have Q1:Hid ((ka == 2)=false):=by unfold Hid;rw[beq_eq_false_iff_ne];exact c4
  subst E1 E2;clear c4 NO YES HG;go_enter Tryz.func190,Tryz.ntmps190;go_wp2_with fail;go_step3;go_wp2_with fail;rw[<- hW];clear hW;refine(LI.o _ BW.o).mono ?_;rintro e w1 ⟨rfl,hb1⟩;have B1:=zaa (zab BW.o hb1 BW.o.size);have BA1:=zaa hb1;obtain⟨x0,x1⟩:=CA.o _ hb1;clear hb1;go_wp2_with fail;refine(zav _ _ _ C2.o).mono ?_;rintro e w2 ⟨rfl,hw2⟩;subst w2;go_wp2_with fail;refine(zav _ _ _ C3.o).mono ?_;rintro e w2 ⟨rfl,hw2⟩;subst w2;go_wp2_with fail;refine(LA.o _ B1.o).mono ?_;rw[Q1.o];rintro e w3 ⟨rfl,hb⟩;have B3:=zaa (zab B1.o hb B1.o.size);have BA3:=zaa (zab BA1.o hb BA1.o.size);clear hb x0 x1;obtain⟨x0,x1⟩:=CA.o _ BA3.o;go_wp2
  try rw[Exit.noGoto_ret]
  go_ret2;exact⟨rfl,B3.o⟩
 by_cases c5:kb=2
 case neg =>
  obtain⟨E1,E2⟩:=NO.o (fun q=>c5 q.2)
  have Q1:Hid ((ka == 2)=true):=by unfold Hid;rw[c4];rfl
  have Q2:Hid ((kb == 2)=false):=by unfold Hid;rw[beq_eq_false_iff_ne];exact c5
  subst E1 E2;clear c4 c5 NO YES HG;go_enter Tryz.func190,Tryz.ntmps190;go_wp2_with fail;go_step3;go_wp2_with fail;rw[<- hW];clear hW;refine(LI.o _ BW.o).mono ?_;rintro e w1 ⟨rfl,hb1⟩;have B1:=zaa (zab BW.o hb1 BW.o.size);have BA1:=zaa hb1;obtain⟨x0,x1⟩:=CA.o _ hb1;clear hb1;go_wp2_with fail;refine(zav _ _ _ C2.o).mono ?_;rintro e w2 ⟨rfl,hw2⟩;subst w2;go_wp2_with fail;refine(zav _ _ _ C3.o).mono ?_;rintro e w2 ⟨rfl,hw2⟩;subst w2;go_wp2_with fail;refine(LA.o _ B1.o).mono ?_;rw[Q1.o];rintro e w3 ⟨rfl,hb⟩;have B3:=zaa (zab B1.o hb B1.o.size);have BA3:=zaa (zab BA1.o hb BA1.o.size);clear hb x0 x1;obtain⟨x0,x1⟩:=CA.o _ BA3.o;go_wp2_with fail;refine(LB.o _ B3.o).mono ?_;rw[Q2.o];rintro e w4 ⟨rfl,hb⟩;have B4:=zaa (zab B3.o hb B3.o.size);have BA4:=zaa (zab BA3.o hb BA3.o.size);clear hb x0 x1;obtain⟨x0,x1⟩:=CA.o _ BA4.o;go_wp2
  try rw[Exit.noGoto_ret]
  go_ret2;exact⟨rfl,B4.o⟩
 obtain⟨E1,E2⟩:=YES.o ⟨c4,c5⟩
 have Q1:Hid ((ka == 2)=true):=by unfold Hid;rw[c4];rfl
 have Q2:Hid ((kb == 2)=true):=by unfold Hid;rw[c5];rfl
 have G:=zaa (HG.o c4);have ST:=zaa (fun x h hx q=>yash U0.o (x:=x) (b:=b) h hx q);have EV:Hid (ev=ziv ps 16 a b):=E2.trans (zwp U0.o 16 17 a b G.o D2.o.1 (by omega));subst E1;clear c4 c5 NO YES HG E2;go_enter Tryz.func190,Tryz.ntmps190;go_wp2_with fail;go_step3;go_wp2_with fail;rw[<- hW];clear hW;refine(LI.o _ BW.o).mono ?_;rintro e w1 ⟨rfl,hb1⟩;have B1:=zaa (zab BW.o hb1 BW.o.size);have BA1:=zaa hb1;obtain⟨x0,x1⟩:=CA.o _ hb1;clear hb1;go_wp2_with fail;refine(zav _ _ _ C2.o).mono ?_;rintro e w2 ⟨rfl,hw2⟩;subst w2;go_wp2_with fail;refine(zav _ _ _ C3.o).mono ?_;rintro e w2 ⟨rfl,hw2⟩;subst w2;go_wp2_with fail;refine(LA.o _ B1.o).mono ?_;rw[Q1.o];rintro e w3 ⟨rfl,hb⟩;have B3:=zaa (zab B1.o hb B1.o.size);have BA3:=zaa (zab BA1.o hb BA1.o.size);clear hb x0 x1;obtain⟨x0,x1⟩:=CA.o _ BA3.o;go_wp2_with fail;refine(LB.o _ B3.o).mono ?_;rw[Q2.o];rintro e w4 ⟨rfl,hb⟩;have B4:=zaa (zab B3.o hb B3.o.size);have BA4:=zaa (zab BA3.o hb BA3.o.size);clear hb x0 x1;obtain⟨x0,x1⟩:=CA.o _ BA4.o;clear B3 BA3 B1 BA1 LA LB LI Q1 Q2 x0 x1;have hz4:W.heap.size<=w4.heap.size:=BA4.o.size;go_wp2_with fail;go_step3;go_wp2_with fail
 go_loopg [1] (deep ps 16 a) (fun g d wr=>∃ z:Int,d=.I z/\Hid ((0<=z/\zcz ps 16 z=true)/\ziv ps 16 a b=ziv ps 16 z b/\zB w4 wr/\deep ps 16 z<=g))
 case atStart=>exact⟨a,rfl,⟨D2.o.1,G.o⟩,rfl,zR,Nat.le_refl _⟩
 case round =>
  obtain⟨z,rfl,J⟩:=hrel;have JW:=zaa (zab B4.o J.o.2.2.1 B4.o.size);have JA:=zaa (zab BA4.o J.o.2.2.1 hz4);obtain⟨x0,x1⟩:=CA.o _ JA.o
  by_cases q:z=b
  ·have q1:(z != b)=false:=by rw[q];simp
   have E:Hid (ev=true):=by
    unfold Hid;rw[EV.o,J.o.2.1,q,show(16:Nat)=15+1 from rfl,zhk,if_neg (by have:=J.o.1.1;omega),if_pos rfl]
   clear J q;obtain rfl:=E.o;go_wp2
   try rw[Exit.noGoto_ret]
   go_ret2;exact⟨rfl,JW.o⟩
  ·have q1:(z != b)=true:=by rw[bne_iff_ne];exact q
   obtain⟨S0,S1⟩:=ST.o z J.o.1.2 J.o.1.1 q;have S0:=zaa S0;have S1:=zaa S1;have J3:=zaa J.o.2.2.1;have DS:=zaa (fun q=>yaon (ps:=ps) (x:=z) J.o.1.2 q);clear q;go_wp2_with fail;generalize gk=G0 at *;generalize hV:wr=V at *;clear hV;have hzV:w4.heap.size<=V.heap.size:=J3.o.size;have JD:=zaa J.o;clear J
   go_loopg [1,37] ps.length (fun g2 d i wq=>∃ k:Nat,k+g2=ps.length/\d=.I z/\i=.I k/\Hid (zB V wq/\∀ j (h:j<ps.length),j<k->¬ ps[j].child=z))
   case atStart=>exact⟨0,by omega,rfl,rfl,zR,fun j h a=>absurd a (by omega)⟩
   case round =>
    obtain⟨k,hk,rfl,rfl,K⟩:=hrel;have KW:=zaa (zab JW.o K.o.1 JW.o.size);have K4:=zaa (zab J3.o K.o.1 hzV)
    have k0:(0:Int)<=(k:Int):=by omega
    by_cases hlt:k<ps.length
    ·obtain⟨b0,o0,rfl,hbl,hcell⟩:=HP.o (by omega);obtain⟨a0,a1,a2⟩:=hcell k hlt;have d0:=(KW.o.cell (p:=⟨b0,o0+k*3,none⟩) hbl).trans a0;have d1:=(KW.o.cell (p:=⟨b0,o0+k*3+1,none⟩) hbl).trans a1;have d2:=(KW.o.cell (p:=⟨b0,o0+k*3+2,none⟩) hbl).trans a2
     have k1:(k:Int)<(ps.length:Int):=by omega
     have HY:=zaa (fun e:ps[k].child=z=>yace hlt K.o.2 e)
     have HX:=zaa (fun(e:¬ ps[k].child=z) j (h:j<ps.length) (a:j<k+1)=>show ¬ ps[j].child=z by
      by_cases q:j=k
      ·subst q;exact e
      ·exact K.o.2 j h (by omega))
     have HZ:=zaa (fun e:ps[k].child=z=>fun z0:z=0=>HD.o k hlt (e.trans z0));have K1:=zaa K.o.1;clear hcell a0 a1 a2 K;generalize ps[k].child=y at *;generalize ps[k].dir=yd at *;generalize ps[k].name=yn at *;have BX:=zaa ((Below.refl wr.heap.size wr).alloc zL (.cells #[.I yd,.string yn,.I y] 90))
     by_cases q:y=z
     ·have q1:(y == z)=true:=beq_iff_eq.2 q;have E:=zaa (HY.o q);have z0:=HZ.o q;have S2:=zaa (S1.o z0);have D2':=zaa (DS.o z0);have B5:=zaa (zab K4.o BX.o K4.o.size);rw[E.o]at S2 D2';clear q HX HY HZ;go_wp2
      go_roundg (deep ps 16 yd)
      case measure=>have:=JD.o.2.2.2;have:=D2'.o;omega
      case rel=>exact⟨yd,rfl,⟨S2.o.1,S2.o.2.1⟩,by rw[JD.o.2.1,S2.o.2.2],B5.o,Nat.le_refl _⟩
     ·have q1:(y == z)=false:=beq_eq_false_iff_ne.2 q;have E:=zaa (HX.o q);have B5:=zaa (zab K1.o BX.o K1.o.size);clear q HX HY HZ;go_wp2
      go_roundg (ps.length-(k+1))
      case measure=>omega
      case rel=>exact⟨k+1,by omega,rfl,by go_num,B5.o,E.o⟩
    ·obtain rfl:k=ps.length:=by omega
     have E:Hid (ev=false):=by
      unfold Hid;have un:=yapd (fun j h=>K.o.2 j h h)
      have z0:z=0:=Classical.byContradiction fun n=>by have:=(S1.o n).1;omega
      rw[EV.o,JD.o.2.1];exact S0.o z0
     clear K;obtain rfl:=E.o;go_wp2
     try rw[Exit.noGoto_ret]
     go_ret2;exact⟨rfl,KW.o⟩
end Go.Proofs.YtogcbbkhnpmgeaaGreatDoor

namespace Go.Proofs.YtogcbbkhnpmgeaaGreatDoor
open Go.Shelf Go.RowKit
def yaeo:Go.Shelf.Ren:=⟨fun | 103=>215 | 210=>238 | 206=>247 | n=>n,fun | 9=>9 | 4=>4 | 24=>194 | 3=>3 | n=>n,fun | n=>n⟩
theorem yaxr:Go.Proofs.Lays.n103 Tryz.prog yaeo:={
 mixed:=by kernel_rfl
 f103:=Tryz.func215.trans (congrArg some (by kernel_rfl))
 f206:=Tryz.func247.trans (congrArg some (by kernel_rfl))
 f210:=Tryz.func238.trans (congrArg some (by kernel_rfl))
 t3:=Tryz.underlying3
 a3:=Tryz.isAgg3
 z3:=Tryz.sizeOf3
 v3:=Tryz.zeroValue3
 t4:=Tryz.underlying4
 a4:=Tryz.isAgg4
 z4:=Tryz.sizeOf4
 v4:=Tryz.zeroValue4
 t9:=Tryz.underlying9
 a9:=Tryz.isAgg9
 z9:=Tryz.sizeOf9
 v9:=Tryz.zeroValue9
 t24:=Tryz.underlying194
 a24:=Tryz.isAgg194
 z24:=Tryz.sizeOf194
 v24:=Tryz.zeroValue194 }
def zie:Go.Shelf.Ren:=⟨fun | 146=>216 | 221=>239 | 268=>248 | 138=>249 | 143=>250 | 195=>252 | 197=>253 | 218=>254 | 219=>255 | 260=>256 | 217=>257 | 225=>258 | 224=>259 | 267=>260 | 266=>261 | 314=>262 | n=>n,fun | 9=>9 | 31=>33 | 3=>3 | 4=>4 | 0=>0 | 105=>273 | 21=>21 | 5=>5 | 46=>205 | 119=>276 | 139=>279 | 138=>278 | 146=>280 | 51=>249 | n=>n,fun | 1=>4 | 3=>5 | 4=>6 | n=>n⟩
theorem yaep:Go.Proofs.Lays.n146 Tryz.prog zie:={
 mixed:=by kernel_rfl
 f138:=Tryz.func249.trans (congrArg some (by kernel_rfl))
 f143:=Tryz.func250.trans (congrArg some (by kernel_rfl))
 f146:=Tryz.func216.trans (congrArg some (by kernel_rfl))
 f195:=Tryz.func252.trans (congrArg some (by kernel_rfl))
 f197:=Tryz.func253.trans (congrArg some (by kernel_rfl))
 f217:=Tryz.func257.trans (congrArg some (by kernel_rfl))
 f218:=Tryz.func254.trans (congrArg some (by kernel_rfl))
 f219:=Tryz.func255.trans (congrArg some (by kernel_rfl))
 f221:=Tryz.func239.trans (congrArg some (by kernel_rfl))
 f224:=Tryz.func259.trans (congrArg some (by kernel_rfl))
 f225:=Tryz.func258.trans (congrArg some (by kernel_rfl))
 f260:=Tryz.func256.trans (congrArg some (by kernel_rfl))
 f266:=Tryz.func261.trans (congrArg some (by kernel_rfl))
 f267:=Tryz.func260.trans (congrArg some (by kernel_rfl))
 f268:=Tryz.func248.trans (congrArg some (by kernel_rfl))
 f314:=Tryz.func262.trans (congrArg some (by kernel_rfl))
 t0:=Tryz.underlying0
 a0:=Tryz.isAgg0
 z0:=Tryz.sizeOf0
 v0:=Tryz.zeroValue0
 t3:=Tryz.underlying3
 a3:=Tryz.isAgg3
 z3:=Tryz.sizeOf3
 v3:=Tryz.zeroValue3
 t4:=Tryz.underlying4
 a4:=Tryz.isAgg4
 z4:=Tryz.sizeOf4
 v4:=Tryz.zeroValue4
 t5:=Tryz.underlying5
 a5:=Tryz.isAgg5
 z5:=Tryz.sizeOf5
 v5:=Tryz.zeroValue5
 t9:=Tryz.underlying9
 a9:=Tryz.isAgg9
 z9:=Tryz.sizeOf9
 v9:=Tryz.zeroValue9
 t21:=Tryz.underlying21
 a21:=Tryz.isAgg21
 z21:=Tryz.sizeOf21
 v21:=Tryz.zeroValue21
 t31:=Tryz.underlying33
 a31:=Tryz.isAgg33
 z31:=Tryz.sizeOf33
 v31:=Tryz.zeroValue33
 t46:=Tryz.underlying205
 a46:=Tryz.isAgg205
 z46:=Tryz.sizeOf205
 v46:=Tryz.zeroValue205
 t51:=Tryz.underlying249
 a51:=Tryz.isAgg249
 z51:=Tryz.sizeOf249
 v51:=Tryz.zeroValue249
 t105:=Tryz.underlying273
 a105:=Tryz.isAgg273
 z105:=Tryz.sizeOf273
 v105:=Tryz.zeroValue273
 t119:=Tryz.underlying276
 a119:=Tryz.isAgg276
 z119:=Tryz.sizeOf276
 t138:=Tryz.underlying278
 a138:=Tryz.isAgg278
 z138:=Tryz.sizeOf278
 v138:=Tryz.zeroValue278
 t139:=Tryz.underlying279
 a139:=Tryz.isAgg279
 z139:=Tryz.sizeOf279
 v139:=Tryz.zeroValue279
 t146:=Tryz.underlying280
 a146:=Tryz.isAgg280
 z146:=Tryz.sizeOf280
 v146:=Tryz.zeroValue280
 g1:=by kernel_rfl
 g3:=by kernel_rfl
 g4:=by kernel_rfl }
end Go.Proofs.YtogcbbkhnpmgeaaGreatDoor

namespace Go.Proofs.YtogcbbkhnpmgeaaGreatDoor
open Go.Shelf Go.RowKit Go.Lib
theorem zux(s p:ByteArray)(w:World) :
  zC 215 #[.string s,.string p] w fun e w'=>e=.returned (.tuple #[.string ⟨(Lib.trimPrefix s.data.toList p.data.toList).toArray⟩,.bool (Lib.hasPrefix s.data.toList p.data.toList)])/\w'=w:=Any.strings_CutPrefix yaxr s p w
theorem yadp(x:ByteArray)(w:World):zC 250 #[.string x,.string ⟨#[47]⟩] w fun e w'=>e=.returned (.I (Lib.indexB x ⟨#[47]⟩))/\w'=w:=by
 refine(show zC 250 #[.string x,.string ⟨#[47]⟩] w fun e w'=>e=.returned (.I (Lib.indexByte x.data.toList 47))/\w'=w from Any.strings_Index_one (ρ:=zie) { yaep with } x 47 w).mono fun e w' ⟨he,hw⟩=>⟨?_,hw⟩
 rw[he]
 show _=Ending.returned (Value.I (Lib.index x.data.toList [47]))
 rw[Lib.index_one]
theorem yadx(x:ByteArray)(w:World):zC 249 #[.string x,.string ⟨#[47]⟩] w fun e w'=>e=.returned (.I (Lib.countB x ⟨#[47]⟩))/\w'=w:=by
 refine(show zC 249 #[.string x,.string ⟨#[47]⟩] w fun e w'=>e=.returned (.I (Lib.countByte x.data.toList 47))/\w'=w from Any.strings_Count_one (ρ:=zie) { yaep with } x 47 w).mono fun e w' ⟨he,hw⟩=>⟨?_,hw⟩
 rw[he]
 show _=Ending.returned (Value.I ((Lib.count x.data.toList [47]:Nat):Int))
 rw[Lib.count_one];rfl
theorem yaco(s:ByteArray)(w:World)(hs:s.size<4294967281) :
  zC 216 #[.string s,.string ⟨#[47]⟩] w fun e w' =>
   e=.returned (.slice (some ⟨w.heap.size,0,none⟩) (pcs s).length (pcs s).length)/\w'=w.alloc (.cells (zee (pcs s)).toArray 9):=by
 have hle:=Lib.countB_le ⟨#[47]⟩ (by decide) s.size s zL;have hlen:=Lib.splitB_all ⟨#[47]⟩ (by decide) 0 _ s rfl
 have c:zC 239 #[.string s,.string ⟨#[47]⟩,.I ((0:Nat):Int),.I (-1)] w fun e w' =>
   e=.returned (.slice (some ⟨w.heap.size,0,none⟩) (Lib.splitB ⟨#[47]⟩ 0 (Lib.countB s ⟨#[47]⟩+1-1) s).length (Lib.countB s ⟨#[47]⟩+1))/\w'=w.alloc (.cells (Lib.cellsOf (Lib.splitB ⟨#[47]⟩ 0 (Lib.countB s ⟨#[47]⟩+1-1) s) (Lib.countB s ⟨#[47]⟩+1)) 9) :=
  Any.strings_genSplit_core (ρ:=zie) { yaep with } (by kernel_rfl) s ⟨#[47]⟩ 0 (-1) (Lib.countB s ⟨#[47]⟩+1) w hs (by decide) (Nat.zero_le _) (fun x _ _=>yadp x _) (yadx s w) (by decide) (by decide) (by rw[if_pos (by decide)];omega)
 rw[Nat.add_sub_cancel,hlen]at c
 have e2:Lib.cellsOf (Lib.splitB ⟨#[47]⟩ 0 (Lib.countB s ⟨#[47]⟩) s) (Lib.countB s ⟨#[47]⟩+1)=((Lib.splitB ⟨#[47]⟩ 0 (Lib.countB s ⟨#[47]⟩) s).map Value.string).toArray:=by rw[<- hlen];exact Lib.cellsOf_full _
 rw[e2,zxw,yakh]at c;have C:=zaa c;clear c hle hlen e2;unfold zee;generalize (pcs s).length=n at *;generalize ((pcs s).map Value.string).toArray=cs at *;go_enter Tryz.func216,Tryz.ntmps216;go_wp2_with (go_at_call 239;refine C.o.mono ?_;rintro e w' ⟨rfl,hw⟩;rw[hw]);go_ret;exact⟨rfl,rfl⟩
end Go.Proofs.YtogcbbkhnpmgeaaGreatDoor

namespace Go.Proofs.YtogcbbkhnpmgeaaGreatDoor
open Go.RowKit
def zkk(s:ByteArray):ByteArray:=mkB (Lib.trimPrefix s.data.toList [47])
def ztu(s:ByteArray):Bool:=Lib.hasPrefix s.data.toList [47]
theorem yasp{s:ByteArray}(h:ztu s=false):spN s=false:=by
 unfold ztu Lib.hasPrefix at h;unfold spN
 cases hl:s.data.toList with
 | nil=>rw[yaua hl];rfl
 | cons c l =>
  have hc:¬ c=47:=fun e=>by subst e;rw[hl]at h;simp[List.isPrefixOf]at h
  obtain⟨x,r,e,hx⟩:=yaoo hl hc;rw[e]
  have:x.toList.isEmpty=false:=by
   rw[Lib.toList_data];rw[Lib.size_eq]at hx
   cases h:x.data.toList with
   | nil=>rw[h]at hx;exact absurd rfl hx
   | cons _ _=>rfl
  show(_&&(x.toList.isEmpty&&_))=false
  rw[this];simp
theorem yaop{s:ByteArray}(h:ztu s=true):spN s=(decide ((pcs (zkk s)).length<=6)&&(pcs (zkk s)).all nmB)/\(pcs s).drop 1=pcs (zkk s):=by
 unfold ztu Lib.hasPrefix at h
 cases hl:s.data.toList with
 | nil=>rw[hl]at h;simp[List.isPrefixOf]at h
 | cons c l =>
  have hc:c=47:=by rw[hl]at h;simp[List.isPrefixOf]at h;exact h.symm
  subst hc
  have hr:zkk s=mkB l:=by unfold zkk Lib.trimPrefix Lib.hasPrefix;rw[hl];simp[List.isPrefixOf]
  have hp:=yaqm hl;have p1:=yalk (zkk s);unfold spN;rw[hp,hr];rw[hr]at p1;refine⟨?_,rfl⟩;have e1:(mkB []::pcs (mkB l)).length=(pcs (mkB l)).length+1:=rfl;rw[e1]
  have e2:decide (2<=(pcs (mkB l)).length+1/\(pcs (mkB l)).length+1<=7)=decide ((pcs (mkB l)).length<=6):=by
   by_cases q:(pcs (mkB l)).length<=6
   ·rw[decide_eq_true q,decide_eq_true (by omega)]
   ·rw[decide_eq_false q,decide_eq_false (by omega)]
  rw[e2]
  have e3:((mkB []::pcs (mkB l)).getD 0 ⟨#[]⟩).toList.isEmpty=true:=by
   show(mkB []).toList.isEmpty=true
   rw[Lib.toList_data,zkg];rfl
  rw[e3];rfl
theorem yare(s:ByteArray):(zkk s).size<=s.size:=by
 unfold zkk;rw[Lib.size_eq,zkg,Lib.size_eq];unfold Lib.trimPrefix
 split
 ·rw[List.length_drop];omega
 ·exact Nat.le_refl _
theorem zvr(v:Value)(ss:List ByteArray)(w:World)(h:RdT w v ss)(hn:ss.length<=1048576)(hs:∀ k (h:k<ss.length),ss[k].size<=maxLen) :
  zC 217 #[v,.func (.func 169) #[] #[]] w fun e w'=>e=.returned (.bool (ss.all nmB))/\zB w w':=by
 obtain⟨aP,cP,rfl,_,hcP⟩:=h.shape;have HP:=zaa hcP;have HS:=zaa hs
 have SF:Hid (∀ j (h:j<ss.length),nmB ss[j]=false->ss.all nmB=false):=fun j h q=>by
  rw[List.all_eq_false];exact⟨ss[j],List.getElem_mem _,by rw[q];simp⟩
 have SA:Hid ((∀ j (h:j<ss.length),nmB ss[j]=true)->ss.all nmB=true):=fun h=>by
  rw[List.all_eq_true];intro x hx;obtain⟨j,hj,rfl⟩:=List.getElem_of_mem hx;exact h j hj
 clear h hcP hs;go_enter Tryz.func217,Tryz.ntmps217;go_wp2
 go_loopw [6,9] (fun _ i wr=>∃ k:Nat,k<=ss.length/\i=.I k/\Hid (zB w wr/\∀ j (h:j<ss.length),j<k->nmB ss[j]=true)) (fun _ i _=>ss.length-(intOf i).toNat)
 case atStart=>exact⟨0,by omega,rfl,zR,fun j h a=>absurd a (by omega)⟩
 case round =>
  obtain⟨k,hk,rfl,H⟩:=hrel;have H1:=zaa H.o.1;have hz:w.heap.size<=wr.heap.size:=H.o.1.size
  by_cases hlt:k<ss.length
  ·obtain⟨b,o,rfl,hbl,hcell⟩:=HP.o (by omega);have d0:=(H1.o.cell (p:=⟨b,o+k,none⟩) hbl).trans (hcell k hlt)
   have k0:(0:Int)<=(k:Int):=by omega
   have k1:(k:Int)<(ss.length:Int):=by omega
   have LI:=zaa (fun w1=>zjq ss[k] w1 (HS.o k hlt));have H2:Hid (∀ j (h:j<ss.length),j<k->nmB ss[j]=true):=H.o.2;clear hcell H
   cases q:nmB ss[k] with
   | true =>
    have H':Hid (∀ j (h:j<ss.length),j<k+1->nmB ss[j]=true):=fun j h a=>by
     by_cases e:j=k
     ·subst e;exact q
     ·exact H2.o j h (by omega)
    rw[q]at LI;clear q H2;generalize ss[k]=x at d0 LI;go_wp2_with fail;refine(LI.o _).mono ?_;rintro e w1 ⟨rfl,hb1⟩;have B3:=zaa (zab H1.o hb1 H1.o.size);clear hb1 d0;go_wp2
    go_roundw
    case rel=>exact⟨k+1,by omega,by go_num,B3.o,H'.o⟩
    case measure=>simp[intOf];omega
   | false =>
    have E:=zaa (SF.o k hlt q);rw[q]at LI;clear q H2;generalize ss[k]=x at d0 LI;go_wp2_with fail;refine(LI.o _).mono ?_;rintro e w1 ⟨rfl,hb1⟩;have B3:=zaa (zab H1.o hb1 H1.o.size);clear hb1 d0;go_wp2;go_ret;exact⟨zai E.o.symm,B3.o⟩
  ·have E:=zaa (SA.o (fun j h=>H.o.2 j h (by omega)));clear H;go_wp2;go_ret;exact⟨zai E.o.symm,H1.o⟩
theorem yauw(w:World)(P:List ByteArray)(h:P.length<=1048576):Row (w.alloc (.cells (zee P).toArray 9)) 9 1 w.heap.size (w.alloc (.cells (zee P).toArray 9)).heap.size (.slice (some ⟨w.heap.size,0,none⟩) P.length P.length) P.length (zee P):=by
 have:=World.ownsRow_lit (e:=9) (size:=1) (base:=w.heap.size) w (zee P).toArray P.length zL (by simp[maxLen];omega) (by simp[zee]);exact zad this
theorem znp(s:ByteArray)(w:World) :
  zC 176 #[.string s] w fun e w'=>∃ v',e=.returned (.tuple #[v',.I (spC s)])/\Row w' 9 1 w.heap.size w'.heap.size v' (spR s).length (zee (spR s))/\zB w w':=by
 by_cases c1:65536<s.size
 ·obtain⟨E1,E2⟩:=yamd c1;rw[E1,E2]
  have c2:(s.size:Int)>65536:=by omega
  clear c1 E1 E2;go_enter Tryz.func176,Tryz.ntmps176;go_wp2;go_ret2;exact⟨_,rfl,Row.nil _ _ _ _ _,zR⟩
 have c2:¬ (s.size:Int)>65536:=by omega
 obtain⟨X1,X2⟩:=zww c1
 cases c3:zqd s with
 | true =>
  obtain⟨E1,E2⟩:=yagg c3;obtain⟨E3,E4⟩:=X1 E1;rw[E3,E4,E2];have c4:(s.toList == [47])=true:=c3;clear c1 c3 E1 E2 E3 E4 X1 X2;go_enter Tryz.func176,Tryz.ntmps176;go_wp2;go_ret2;exact⟨_,rfl,Row.nil _ _ _ _ _,zR⟩
 | false =>
 have c4:(s.toList == [47])=false:=c3
 have NO:Hid (spN s=false->spC s=12/\spR s=[]):=fun h=>X2 (ybbn c3 h).1
 have YES:Hid (spN s=true->spC s=0/\spR s=(pcs s).drop 1):=fun h=>by
  obtain⟨a,b⟩:=yaxa c3 h;obtain⟨c,d⟩:=X1 a;exact⟨c,d.trans b⟩
 have LP:Hid (∀ w1:World,zC 215 #[.string s,.string ⟨#[47]⟩] w1 fun e w'=>e=.returned (.tuple #[.string (zkk s),.bool (ztu s)])/\w'=w1):=fun w1=>zux s ⟨#[47]⟩ w1
 have RS:=yare s;have LS:=zaa (fun w1=>yaco (zkk s) w1 (by omega));have PL:=yaoc (zkk s);have RW:=zaa (fun w1=>yauw w1 (pcs (zkk s)) (by omega));have LE:=zaa (fun v w1 h=>zvr v (pcs (zkk s)) w1 h (by omega) (fun k hk=>by have:=yagj (zkk s) k hk;unfold maxLen;omega));have AN:=zaa (fun h=>yasp (s:=s) h);have AY:=zaa (fun h=>yaop (s:=s) h);have BE:=zaa (fun w1:World=>(Below.refl w1.heap.size w1).alloc zL (.cells (zee (pcs (zkk s))).toArray 9));clear c1 c3 X1 X2;generalize spC s=sc at *;generalize spR s=sr at *;generalize spN s=sn at *;generalize (pcs s).drop 1=P1 at *;generalize hRS:zkk s=R at *;generalize ztu s=ah at *;generalize pcs R=P at *;clear hRS
 cases ah with
 | false =>
  obtain⟨e1,e2⟩:=NO.o (AN.o rfl);subst e1 e2;clear NO YES AN AY LE RW;go_enter Tryz.func176,Tryz.ntmps176;go_wp2_with fail;refine(LP.o _).mono ?_;rintro e w1 ⟨rfl,hw1⟩;subst w1;go_wp2_with fail;refine(LS.o _).mono ?_;rintro e w1 ⟨rfl,hw1⟩;have B1:=zaa (BE.o w);rw[<- hw1]at B1;clear hw1;go_wp2;go_ret2;exact⟨_,rfl,Row.nil _ _ _ _ _,B1.o⟩
 | true =>
 obtain⟨a1,a2⟩:=AY.o rfl;have A1:=zaa a1;rw[a2]at YES;clear a2 AY
 by_cases n1:P.length<=6
 case neg =>
  obtain⟨e1,e2⟩:=NO.o (by rw[A1.o,decide_eq_false n1];rfl)
  have n2:(P.length:Int)>6:=by omega
  subst e1 e2;clear NO YES AN LE RW A1 a1;go_enter Tryz.func176,Tryz.ntmps176;go_wp2_with fail;refine(LP.o _).mono ?_;rintro e w1 ⟨rfl,hw1⟩;subst w1;go_wp2_with fail;refine(LS.o _).mono ?_;rintro e w1 ⟨rfl,hw1⟩;have B1:=zaa (BE.o w);rw[<- hw1]at B1;clear hw1;go_wp2;go_ret2;exact⟨_,rfl,Row.nil _ _ _ _ _,B1.o⟩
 have n2:¬ (P.length:Int)>6:=by omega
 have A2:Hid (sn=P.all nmB):=by unfold Hid;rw[A1.o,decide_eq_true n1];rfl
 clear A1 a1
 cases c5:P.all nmB with
 | false =>
  obtain⟨e1,e2⟩:=NO.o (by rw[A2.o,c5]);rw[c5]at LE;subst e1 e2;clear NO YES AN A2 c5;go_enter Tryz.func176,Tryz.ntmps176;go_wp2_with fail;refine(LP.o _).mono ?_;rintro e w1 ⟨rfl,hw1⟩;subst w1;go_wp2_with fail;refine(LS.o _).mono ?_;rintro e w1 ⟨rfl,hw1⟩;have B1:=zaa (BE.o w);have R1:=zaa (RW.o w);rw[<- hw1]at B1 R1;clear hw1 RW BE;go_wp2_with fail;refine(LE.o _ _ R1.o.rd).mono ?_;rintro e w2 ⟨rfl,hb2⟩;have B2:=zaa (zab B1.o hb2 B1.o.size);clear hb2;go_wp2;go_ret2;exact⟨_,rfl,Row.nil _ _ _ _ _,B2.o⟩
 | true =>
  obtain⟨e1,e2⟩:=YES.o (by rw[A2.o,c5]);rw[c5]at LE;subst e1 e2;clear NO YES AN A2 c5;go_enter Tryz.func176,Tryz.ntmps176;go_wp2_with fail;refine(LP.o _).mono ?_;rintro e w1 ⟨rfl,hw1⟩;subst w1;go_wp2_with fail;refine(LS.o _).mono ?_;rintro e w1 ⟨rfl,hw1⟩;have B1:=zaa (BE.o w);have R1:=zaa (RW.o w);rw[<- hw1]at B1 R1;clear hw1 RW BE;go_wp2_with fail;refine(LE.o _ _ R1.o.rd).mono ?_;rintro e w2 ⟨rfl,hb2⟩;have B2:=zaa (zab B1.o hb2 B1.o.size);have R2:=zaa ((R1.o.below hb2 zL).wide zL hb2.size);clear hb2;go_wp2;go_ret2;exact⟨_,rfl,R2.o,B2.o⟩
end Go.Proofs.YtogcbbkhnpmgeaaGreatDoor
