/- Several texts laid together: PaC, ShL, PbB. -/
import Derived.Test.YtehnphoeplmpdaaGreatDoorZAQ
import Derived.Deep.LoopGhost
import Derived.WalkMore
import Derived.Test.YtehnphoeplmpdaaGreatDoorRows
import Derived.Shelf.Small.Strs
import Derived.Shelf.Small.Wraps
import Derived.Shelf.Strings.Search3
import Derived.Shelf.Strings.Count
import Derived.Shelf.Strings.Split
import Derived.Test.YtehnphoeplmpdaaGreatDoorZAN
set_option maxRecDepth 100000
set_option maxHeartbeats 4000000
namespace Go.Proofs.YtehnphoeplmpdaaGreatDoor
open Go.RowKit
theorem zid (v:Value) (ws:List Ino) (ps:List Den) (i:Int) (w:World) (h:RdIm w v ws ps) (hl:ws.length=16) (h0:0≤i∧i≤15) :
  Calls Tryz.prog 237 #[v,.int .i64 i] w fun e w'=>e=.returned (.bool (zai ws i == 2))∧Below w.heap.size w w':=by
 obtain ⟨vW,vP,rfl,h1,h2⟩:=h;obtain ⟨aW,cW,rfl,_,hcW⟩:=h1.shape;obtain ⟨aP,cP,rfl,_,_⟩:=h2.shape
 obtain ⟨n,rfl⟩:∃ n:Nat,i=(n:Int):=⟨i.toNat,by omega⟩
 have hn:n < ws.length:=by omega
 obtain ⟨bW,oW,rfl,hblW,hcellW⟩:=hcW (by omega);have BW:Hid (Below w.heap.size w (w.alloc (.cells #[.slice (some ⟨bW,oW,none⟩) ws.length cW,.slice aP ps.length cP] 79))):=(Below.refl _ _).alloc (Nat.le_refl _) _;have k0:=(BW.o.cell (p:=⟨bW,oW+n*11,none⟩) hblW).trans (hcellW n hn).1;rw[← zba hn] at k0
 have n0:(0:Int)≤(n:Int):=by omega
 have n1:(n:Int) < (ws.length:Int):=by omega
 clear h1 h2 hcW hcellW hl h0 hn;generalize zai ws (n:Int)=kk at *;go_enter Tryz.func237,Tryz.ntmps237;go_wp2;go_ret;exact ⟨rfl,BW.o⟩
theorem yamo {ps:List Den} (u0:upD ps 0=-1) {x b:Int} (h:zct ps 16 x=true) (hx:0≤x) (q:¬ x=b):(x=0→zjm ps 16 x b=false)∧(¬ x=0→0≤upD ps x∧zct ps 16 (upD ps x)=true∧zjm ps 16 x b=zjm ps 16 (upD ps x) b):=by
 have n0:¬ x < 0:=by omega
 have e:zjm ps 16 x b=zjm ps 15 (upD ps x) b:=by rw[show (16:Nat)=15+1 from rfl,zhu,if_neg n0,if_neg q]
 refine ⟨fun z=>?_,fun z=>?_⟩
 ·rw[e,z,u0,ztf ps 15 (-1) b (by omega)]
 ·obtain ⟨h1,h2⟩:=zom (k:=15) h z;refine ⟨h1,zry 15 _ h2,?_⟩;rw[e,zsp u0 15 16 _ b h2 h1 (by omega)]
def deep (ps:List Den):Nat→Int→Nat
 | 0,_=>0
 | n+1,x=>if x=0 then 0 else 1+deep ps n (upD ps x)
theorem zvn {ps:List Den}:∀ (k n:Nat) (a:Int),zct ps k a=true→k≤n→deep ps n a=deep ps k a
 | 0,_,_,h,_=>by rw[zlv] at h;cases h
 | k+1,0,_,_,hn=>absurd hn (by omega)
 | k+1,n+1,a,h,hn=>by
  show (if a=0 then 0 else 1+deep ps n (upD ps a))=(if a=0 then 0 else 1+deep ps k (upD ps a))
  by_cases r:a=0
  ·rw[if_pos r,if_pos r]
  ·rw[if_neg r,if_neg r,zvn k n _ (zom h r).2 (by omega)]
theorem yahl {ps:List Den} {x:Int} (h:zct ps 16 x=true) (q:¬ x=0):deep ps 16 (upD ps x) < deep ps 16 x:=by
 have e:deep ps 16 x=1+deep ps 15 (upD ps x):=by
  show (if x=0 then 0 else 1+deep ps 15 (upD ps x))=_
  rw[if_neg q]
 rw[e,zvn 15 16 _ (zom (k:=15) h q).2 (by omega)];omega
theorem zoi (v:Value) (ws:List Ino) (ps:List Den) (a b:Int) (w:World) (h:RdIm w v ws ps) (hw:ws.length≤1048576) (hp:ps.length≤1048576) (hT:TS w) (hE:ED w) (hF:FD w) (hr:∀ k (h:k < ws.length),ws[k].R) (hs:∀ k (h:k < ps.length),ps[k].name.size≤maxLen) :
  Calls Tryz.prog 259 #[v,.int .i64 a,.int .i64 b] w fun e w'=>e=.returned (.tuple #[.bool (beV ws ps a b),.int .i64 (beC ws ps a b)])∧Below w.heap.size w w':=by
 have HRD:=zaa h;have LI:=zaa (fun w1 (hb:Below w.heap.size w w1)=>zbp v ws ps w1 (h.below hb) hw hp (hT.below hb) (hE.below hb) (hF.below hb) hr hs);have LD:=zaa (fun i w1 h (hl:ws.length=16) (h0:0≤i∧i≤15)=>zid v ws ps i w1 h hl h0);obtain ⟨vW,vP,rfl,h1,h2⟩:=h;obtain ⟨aW,cW,rfl,_,_⟩:=h1.shape;obtain ⟨aP,cP,rfl,_,hcP⟩:=h2.shape;have HP:=zaa hcP;clear h1 h2 hr hs hcP hT hE hF
 obtain ⟨W,hW⟩:∃ W,W=w.alloc (.cells #[.slice aW ws.length cW,.slice aP ps.length cP] 79):=⟨_,rfl⟩
 have CA:Hid (∀ w',Below W.heap.size W w'→w'.cell? ⟨w.heap.size,0,none⟩=some (.slice aW ws.length cW)∧w'.cell? ⟨w.heap.size,1,none⟩=some (.slice aP ps.length cP)):=fun w' hb=>by
  have:w'.heap[w.heap.size]?=some (.cells #[.slice aW ws.length cW,.slice aP ps.length cP] 79 (0,0)):=(hb.block _ (by rw[hW];simp)).trans (by rw[hW];exact zah rfl);exact ⟨(zac this).1,(zac this).2.1⟩
 have BW:Hid (Below w.heap.size w W):=by rw[hW];exact (Below.refl _ _).alloc (Nat.le_refl _) _
 have hzW:w.heap.size≤W.heap.size:=BW.o.size
 cases c1:zay ws ps with
 | false =>
  obtain ⟨E1,E2⟩:=yasf (a:=a) (b:=b) c1;rw[c1] at LI;rw[E1,E2];clear c1 E1 E2;go_enter Tryz.func259,Tryz.ntmps259;go_wp2_with fail;go_step3;go_wp2_with fail;rw[← hW];clear hW;refine (LI.o _ BW.o).mono ?_;rintro e w1 ⟨rfl,hb1⟩;have B1:=zaa (zab BW.o hb1 BW.o.size);have BA1:=zaa hb1;obtain ⟨x0,x1⟩:=CA.o _ hb1;clear hb1;go_wp2
  try rw[Exit.noGoto_ret]
  go_ret2;exact ⟨rfl,B1.o⟩
 | true =>
 have C1:=zaa c1;rw[c1] at LI
 by_cases c2:0≤a∧a≤15
 case neg =>
  obtain ⟨E1,E2⟩:=yabl (a:=a) (b:=b) c1 (fun q=>c2 q.1);rw[E1,E2]
  have C2:Hid (¬ (0≤a∧a < 16)):=fun q=>c2 (by omega)
  clear c1 E1 E2 c2;go_enter Tryz.func259,Tryz.ntmps259;go_wp2_with fail;go_step3;go_wp2_with fail;rw[← hW];clear hW;refine (LI.o _ BW.o).mono ?_;rintro e w1 ⟨rfl,hb1⟩;have B1:=zaa (zab BW.o hb1 BW.o.size);have BA1:=zaa hb1;obtain ⟨x0,x1⟩:=CA.o _ hb1;clear hb1;go_wp2_with fail;refine (zbi _ _ _ C2.o).mono ?_;rintro e w2 ⟨rfl,hw2⟩;subst w2;go_wp2
  try rw[Exit.noGoto_ret]
  go_ret2;exact ⟨rfl,B1.o⟩
 by_cases c3:0≤b∧b≤15
 case neg =>
  obtain ⟨E1,E2⟩:=yabl (a:=a) (b:=b) c1 (fun q=>c3 q.2);rw[E1,E2]
  have C2:Hid (0≤a∧a < 16):=by unfold Hid;omega
  have C3:Hid (¬ (0≤b∧b < 16)):=fun q=>c3 (by omega)
  clear c1 E1 E2 c2 c3;go_enter Tryz.func259,Tryz.ntmps259;go_wp2_with fail;go_step3;go_wp2_with fail;rw[← hW];clear hW;refine (LI.o _ BW.o).mono ?_;rintro e w1 ⟨rfl,hb1⟩;have B1:=zaa (zab BW.o hb1 BW.o.size);have BA1:=zaa hb1;obtain ⟨x0,x1⟩:=CA.o _ hb1;clear hb1;go_wp2_with fail;refine (zaq _ _ _ C2.o).mono ?_;rintro e w2 ⟨rfl,hw2⟩;subst w2;go_wp2_with fail;refine (zbi _ _ _ C3.o).mono ?_;rintro e w2 ⟨rfl,hw2⟩;subst w2;go_wp2
  try rw[Exit.noGoto_ret]
  go_ret2;exact ⟨rfl,B1.o⟩
 have L16:=zaa (zao c1).1;have L24:=zaa (zao c1).2.1;have U0:=zaa (yaiv c1)
 have C2:Hid (0≤a∧a < 16):=by unfold Hid;omega
 have C3:Hid (0≤b∧b < 16):=by unfold Hid;omega
 have D2:=zaa c2;have D3:=zaa c3;have NO:=zaa (fun r=>yaax C1.o ⟨D2.o,D3.o⟩ r);have YES:=zaa (fun r=>yaqz C1.o ⟨D2.o,D3.o⟩ r);have HG:=zaa (fun hk=>yado C1.o D2.o hk)
 have HD:Hid (∀ k (h:k < ps.length),ps[k].child=0→False):=fun k h e=>by
  rcases zfk C1.o k h with q | q <;> omega
 have LA:=zaa (fun w1 (hb:Below w.heap.size w w1)=>LD.o a w1 (HRD.o.below hb) L16.o D2.o);have LB:=zaa (fun w1 (hb:Below w.heap.size w w1)=>LD.o b w1 (HRD.o.below hb) L16.o D3.o);clear c1 c2 c3 LD;generalize zai ws a=ka at *;generalize zai ws b=kb at *;generalize beC ws ps a b=ec at *;generalize beV ws ps a b=ev at *
 by_cases c4:ka=2
 case neg =>
  obtain ⟨E1,E2⟩:=NO.o (fun q=>c4 q.1)
  have Q1:Hid ((ka == 2)=false):=by unfold Hid;rw[beq_eq_false_iff_ne];exact c4
  subst E1 E2;clear c4 NO YES HG;go_enter Tryz.func259,Tryz.ntmps259;go_wp2_with fail;go_step3;go_wp2_with fail;rw[← hW];clear hW;refine (LI.o _ BW.o).mono ?_;rintro e w1 ⟨rfl,hb1⟩;have B1:=zaa (zab BW.o hb1 BW.o.size);have BA1:=zaa hb1;obtain ⟨x0,x1⟩:=CA.o _ hb1;clear hb1;go_wp2_with fail;refine (zaq _ _ _ C2.o).mono ?_;rintro e w2 ⟨rfl,hw2⟩;subst w2;go_wp2_with fail;refine (zaq _ _ _ C3.o).mono ?_;rintro e w2 ⟨rfl,hw2⟩;subst w2;go_wp2_with fail;refine (LA.o _ B1.o).mono ?_;rw[Q1.o];rintro e w3 ⟨rfl,hb⟩;have B3:=zaa (zab B1.o hb B1.o.size);have BA3:=zaa (zab BA1.o hb BA1.o.size);clear hb x0 x1;obtain ⟨x0,x1⟩:=CA.o _ BA3.o;go_wp2
  try rw[Exit.noGoto_ret]
  go_ret2;exact ⟨rfl,B3.o⟩
 by_cases c5:kb=2
 case neg =>
  obtain ⟨E1,E2⟩:=NO.o (fun q=>c5 q.2)
  have Q1:Hid ((ka == 2)=true):=by unfold Hid;rw[c4];rfl
  have Q2:Hid ((kb == 2)=false):=by unfold Hid;rw[beq_eq_false_iff_ne];exact c5
  subst E1 E2;clear c4 c5 NO YES HG;go_enter Tryz.func259,Tryz.ntmps259;go_wp2_with fail;go_step3;go_wp2_with fail;rw[← hW];clear hW;refine (LI.o _ BW.o).mono ?_;rintro e w1 ⟨rfl,hb1⟩;have B1:=zaa (zab BW.o hb1 BW.o.size);have BA1:=zaa hb1;obtain ⟨x0,x1⟩:=CA.o _ hb1;clear hb1;go_wp2_with fail;refine (zaq _ _ _ C2.o).mono ?_;rintro e w2 ⟨rfl,hw2⟩;subst w2;go_wp2_with fail;refine (zaq _ _ _ C3.o).mono ?_;rintro e w2 ⟨rfl,hw2⟩;subst w2;go_wp2_with fail;refine (LA.o _ B1.o).mono ?_;rw[Q1.o];rintro e w3 ⟨rfl,hb⟩;have B3:=zaa (zab B1.o hb B1.o.size);have BA3:=zaa (zab BA1.o hb BA1.o.size);clear hb x0 x1;obtain ⟨x0,x1⟩:=CA.o _ BA3.o;go_wp2_with fail;refine (LB.o _ B3.o).mono ?_;rw[Q2.o];rintro e w4 ⟨rfl,hb⟩;have B4:=zaa (zab B3.o hb B3.o.size);have BA4:=zaa (zab BA3.o hb BA3.o.size);clear hb x0 x1;obtain ⟨x0,x1⟩:=CA.o _ BA4.o;go_wp2
  try rw[Exit.noGoto_ret]
  go_ret2;exact ⟨rfl,B4.o⟩
 obtain ⟨E1,E2⟩:=YES.o ⟨c4,c5⟩
 have Q1:Hid ((ka == 2)=true):=by unfold Hid;rw[c4];rfl
 have Q2:Hid ((kb == 2)=true):=by unfold Hid;rw[c5];rfl
 have G:=zaa (HG.o c4);have ST:=zaa (fun x h hx q=>yamo U0.o (x:=x) (b:=b) h hx q);have EV:Hid (ev=zjm ps 16 a b):=E2.trans (zsp U0.o 16 17 a b G.o D2.o.1 (by omega));subst E1;clear c4 c5 NO YES HG E2;go_enter Tryz.func259,Tryz.ntmps259;go_wp2_with fail;go_step3;go_wp2_with fail;rw[← hW];clear hW;refine (LI.o _ BW.o).mono ?_;rintro e w1 ⟨rfl,hb1⟩;have B1:=zaa (zab BW.o hb1 BW.o.size);have BA1:=zaa hb1;obtain ⟨x0,x1⟩:=CA.o _ hb1;clear hb1;go_wp2_with fail;refine (zaq _ _ _ C2.o).mono ?_;rintro e w2 ⟨rfl,hw2⟩;subst w2;go_wp2_with fail;refine (zaq _ _ _ C3.o).mono ?_;rintro e w2 ⟨rfl,hw2⟩;subst w2;go_wp2_with fail;refine (LA.o _ B1.o).mono ?_;rw[Q1.o];rintro e w3 ⟨rfl,hb⟩;have B3:=zaa (zab B1.o hb B1.o.size);have BA3:=zaa (zab BA1.o hb BA1.o.size);clear hb x0 x1;obtain ⟨x0,x1⟩:=CA.o _ BA3.o;go_wp2_with fail;refine (LB.o _ B3.o).mono ?_;rw[Q2.o];rintro e w4 ⟨rfl,hb⟩;have B4:=zaa (zab B3.o hb B3.o.size);have BA4:=zaa (zab BA3.o hb BA3.o.size);clear hb x0 x1;obtain ⟨x0,x1⟩:=CA.o _ BA4.o;clear B3 BA3 B1 BA1 LA LB LI Q1 Q2 x0 x1;have hz4:W.heap.size≤w4.heap.size:=BA4.o.size;go_wp2_with fail;go_step3;go_wp2_with fail
 go_loopg [1] (deep ps 16 a) (fun g d wr=>∃ z:Int,d=.int .i64 z∧Hid ((0≤z∧zct ps 16 z=true)∧zjm ps 16 a b=zjm ps 16 z b∧Below w4.heap.size w4 wr∧deep ps 16 z≤g))
 case atStart=>exact ⟨a,rfl,⟨D2.o.1,G.o⟩,rfl,Below.refl _ _,Nat.le_refl _⟩
 case round =>
  obtain ⟨z,rfl,J⟩:=hrel;have JW:=zaa (zab B4.o J.o.2.2.1 B4.o.size);have JA:=zaa (zab BA4.o J.o.2.2.1 hz4);obtain ⟨x0,x1⟩:=CA.o _ JA.o
  by_cases q:z=b
  ·have q1:(z != b)=false:=by rw[q];simp
   have E:Hid (ev=true):=by
    unfold Hid;rw[EV.o,J.o.2.1,q,show (16:Nat)=15+1 from rfl,zhu,if_neg (by have:=J.o.1.1;omega),if_pos rfl]
   clear J q;obtain rfl:=E.o;go_wp2
   try rw[Exit.noGoto_ret]
   go_ret2;exact ⟨rfl,JW.o⟩
  ·have q1:(z != b)=true:=by rw[bne_iff_ne];exact q
   obtain ⟨S0,S1⟩:=ST.o z J.o.1.2 J.o.1.1 q;have S0:=zaa S0;have S1:=zaa S1;have J3:=zaa J.o.2.2.1;have DS:=zaa (fun q=>yahl (ps:=ps) (x:=z) J.o.1.2 q);clear q;go_wp2_with fail;generalize gk=G0 at *;generalize hV:wr=V at *;clear hV;have hzV:w4.heap.size≤V.heap.size:=J3.o.size;have JD:=zaa J.o;clear J
   go_loopg [1,37] ps.length (fun g2 d i wq=>∃ k:Nat,k+g2=ps.length∧d=.int .i64 z∧i=.int .i64 k∧Hid (Below V.heap.size V wq∧∀ j (h:j < ps.length),j < k→¬ ps[j].child=z))
   case atStart=>exact ⟨0,by omega,rfl,rfl,Below.refl _ _,fun j h a=>absurd a (by omega)⟩
   case round =>
    obtain ⟨k,hk,rfl,rfl,K⟩:=hrel;have KW:=zaa (zab JW.o K.o.1 JW.o.size);have K4:=zaa (zab J3.o K.o.1 hzV)
    have k0:(0:Int)≤(k:Int):=by omega
    by_cases hlt:k < ps.length
    ·obtain ⟨b0,o0,rfl,hbl,hcell⟩:=HP.o (by omega);obtain ⟨a0,a1,a2⟩:=hcell k hlt;have d0:=(KW.o.cell (p:=⟨b0,o0+k*3,none⟩) hbl).trans a0;have d1:=(KW.o.cell (p:=⟨b0,o0+k*3+1,none⟩) hbl).trans a1;have d2:=(KW.o.cell (p:=⟨b0,o0+k*3+2,none⟩) hbl).trans a2
     have k1:(k:Int) < (ps.length:Int):=by omega
     have HY:=zaa (fun e:ps[k].child=z=>yaeo hlt K.o.2 e)
     have HX:=zaa (fun (e:¬ ps[k].child=z) j (h:j < ps.length) (a:j < k+1)=>show ¬ ps[j].child=z by
      by_cases q:j=k
      ·subst q;exact e
      ·exact K.o.2 j h (by omega))
     have HZ:=zaa (fun e:ps[k].child=z=>fun z0:z=0=>HD.o k hlt (e.trans z0));have K1:=zaa K.o.1;clear hcell a0 a1 a2 K;generalize ps[k].child=y at *;generalize ps[k].dir=yd at *;generalize ps[k].name=yn at *;have BX:=zaa ((Below.refl wr.heap.size wr).alloc (Nat.le_refl _) (.cells #[.int .i64 yd,.string yn,.int .i64 y] 185))
     by_cases q:y=z
     ·have q1:(y == z)=true:=beq_iff_eq.2 q;have E:=zaa (HY.o q);have z0:=HZ.o q;have S2:=zaa (S1.o z0);have D2':=zaa (DS.o z0);have B5:=zaa (zab K4.o BX.o K4.o.size);rw[E.o] at S2 D2';clear q HX HY HZ;go_wp2
      go_roundg (deep ps 16 yd)
      case measure=>have:=JD.o.2.2.2;have:=D2'.o;omega
      case rel=>exact ⟨yd,rfl,⟨S2.o.1,S2.o.2.1⟩,by rw[JD.o.2.1,S2.o.2.2],B5.o,Nat.le_refl _⟩
     ·have q1:(y == z)=false:=beq_eq_false_iff_ne.2 q;have E:=zaa (HX.o q);have B5:=zaa (zab K1.o BX.o K1.o.size);clear q HX HY HZ;go_wp2
      go_roundg (ps.length - (k+1))
      case measure=>omega
      case rel=>exact ⟨k+1,by omega,rfl,by go_num,B5.o,E.o⟩
    ·obtain rfl:k=ps.length:=by omega
     have E:Hid (ev=false):=by
      unfold Hid;have un:=yagh (fun j h=>K.o.2 j h h)
      have z0:z=0:=Classical.byContradiction fun n=>by have:=(S1.o n).1;omega
      rw[EV.o,JD.o.2.1];exact S0.o z0
     clear K;obtain rfl:=E.o;go_wp2
     try rw[Exit.noGoto_ret]
     go_ret2;exact ⟨rfl,KW.o⟩
end Go.Proofs.YtehnphoeplmpdaaGreatDoor

namespace Go.Proofs.YtehnphoeplmpdaaGreatDoor
open Go.Shelf Go.RowKit
def zzp:Go.Shelf.Ren:=⟨fun | 103=>279 | 210=>312 | 206=>321 | n=>n,fun | 9=>9 | 4=>4 | 24=>229 | 3=>3 | n=>n,fun | n=>n⟩
theorem yaph:Go.Proofs.Lays.n103 Tryz.prog zzp:={
 mixed:=by kernel_rfl
 f103:=Tryz.func279.trans (congrArg some (by kernel_rfl))
 f206:=Tryz.func321.trans (congrArg some (by kernel_rfl))
 f210:=Tryz.func312.trans (congrArg some (by kernel_rfl))
 t3:=Tryz.underlying3
 a3:=Tryz.isAgg3
 z3:=Tryz.sizeOf3
 v3:=Tryz.zeroValue3
 t4:=Tryz.underlying4
 a4:=Tryz.isAgg4
 z4:=Tryz.sizeOf4
 v4:=Tryz.zeroValue4
 t9:=Tryz.underlying9
 a9:=Tryz.isAgg9
 z9:=Tryz.sizeOf9
 v9:=Tryz.zeroValue9
 t24:=Tryz.underlying229
 a24:=Tryz.isAgg229
 z24:=Tryz.sizeOf229
 v24:=Tryz.zeroValue229 }
def zgo:Go.Shelf.Ren:=⟨fun | 146=>280 | 221=>313 | 268=>322 | 138=>323 | 143=>324 | 195=>326 | 197=>327 | 218=>328 | 219=>329 | 260=>330 | 217=>331 | 225=>332 | 224=>333 | 267=>334 | 266=>335 | 314=>336 | n=>n,fun | 9=>9 | 31=>36 | 3=>3 | 4=>4 | 0=>0 | 105=>339 | 21=>21 | 5=>5 | 46=>258 | 119=>342 | 139=>345 | 138=>344 | 146=>346 | 51=>304 | n=>n,fun | 1=>5 | 3=>6 | 4=>7 | n=>n⟩
theorem zyx:Go.Proofs.Lays.n146 Tryz.prog zgo:={
 mixed:=by kernel_rfl
 f138:=Tryz.func323.trans (congrArg some (by kernel_rfl))
 f143:=Tryz.func324.trans (congrArg some (by kernel_rfl))
 f146:=Tryz.func280.trans (congrArg some (by kernel_rfl))
 f195:=Tryz.func326.trans (congrArg some (by kernel_rfl))
 f197:=Tryz.func327.trans (congrArg some (by kernel_rfl))
 f217:=Tryz.func331.trans (congrArg some (by kernel_rfl))
 f218:=Tryz.func328.trans (congrArg some (by kernel_rfl))
 f219:=Tryz.func329.trans (congrArg some (by kernel_rfl))
 f221:=Tryz.func313.trans (congrArg some (by kernel_rfl))
 f224:=Tryz.func333.trans (congrArg some (by kernel_rfl))
 f225:=Tryz.func332.trans (congrArg some (by kernel_rfl))
 f260:=Tryz.func330.trans (congrArg some (by kernel_rfl))
 f266:=Tryz.func335.trans (congrArg some (by kernel_rfl))
 f267:=Tryz.func334.trans (congrArg some (by kernel_rfl))
 f268:=Tryz.func322.trans (congrArg some (by kernel_rfl))
 f314:=Tryz.func336.trans (congrArg some (by kernel_rfl))
 t0:=Tryz.underlying0
 a0:=Tryz.isAgg0
 z0:=Tryz.sizeOf0
 v0:=Tryz.zeroValue0
 t3:=Tryz.underlying3
 a3:=Tryz.isAgg3
 z3:=Tryz.sizeOf3
 v3:=Tryz.zeroValue3
 t4:=Tryz.underlying4
 a4:=Tryz.isAgg4
 z4:=Tryz.sizeOf4
 v4:=Tryz.zeroValue4
 t5:=Tryz.underlying5
 a5:=Tryz.isAgg5
 z5:=Tryz.sizeOf5
 v5:=Tryz.zeroValue5
 t9:=Tryz.underlying9
 a9:=Tryz.isAgg9
 z9:=Tryz.sizeOf9
 v9:=Tryz.zeroValue9
 t21:=Tryz.underlying21
 a21:=Tryz.isAgg21
 z21:=Tryz.sizeOf21
 v21:=Tryz.zeroValue21
 t31:=Tryz.underlying36
 a31:=Tryz.isAgg36
 z31:=Tryz.sizeOf36
 v31:=Tryz.zeroValue36
 t46:=Tryz.underlying258
 a46:=Tryz.isAgg258
 z46:=Tryz.sizeOf258
 v46:=Tryz.zeroValue258
 t51:=Tryz.underlying304
 a51:=Tryz.isAgg304
 z51:=Tryz.sizeOf304
 v51:=Tryz.zeroValue304
 t105:=Tryz.underlying339
 a105:=Tryz.isAgg339
 z105:=Tryz.sizeOf339
 v105:=Tryz.zeroValue339
 t119:=Tryz.underlying342
 a119:=Tryz.isAgg342
 z119:=Tryz.sizeOf342
 t138:=Tryz.underlying344
 a138:=Tryz.isAgg344
 z138:=Tryz.sizeOf344
 v138:=Tryz.zeroValue344
 t139:=Tryz.underlying345
 a139:=Tryz.isAgg345
 z139:=Tryz.sizeOf345
 v139:=Tryz.zeroValue345
 t146:=Tryz.underlying346
 a146:=Tryz.isAgg346
 z146:=Tryz.sizeOf346
 v146:=Tryz.zeroValue346
 g1:=by kernel_rfl
 g3:=by kernel_rfl
 g4:=by kernel_rfl }
end Go.Proofs.YtehnphoeplmpdaaGreatDoor

namespace Go.Proofs.YtehnphoeplmpdaaGreatDoor
open Go.Shelf Go.RowKit Go.Lib
theorem ztn (s p:ByteArray) (w:World) :
  Calls Tryz.prog 279 #[.string s,.string p] w fun e w'=>e=.returned (.tuple #[.string ⟨(Lib.trimPrefix s.data.toList p.data.toList).toArray⟩,.bool (Lib.hasPrefix s.data.toList p.data.toList)])∧w'=w:=Any.strings_CutPrefix yaph s p w
theorem zzl (x:ByteArray) (w:World):Calls Tryz.prog 324 #[.string x,.string ⟨#[47]⟩] w fun e w'=>e=.returned (.int .i64 (Lib.indexB x ⟨#[47]⟩))∧w'=w:=by
 refine (show Calls Tryz.prog 324 #[.string x,.string ⟨#[47]⟩] w fun e w'=>e=.returned (.int .i64 (Lib.indexByte x.data.toList 47))∧w'=w from Any.strings_Index_one (ρ:=zgo) { zyx with } x 47 w).mono fun e w' ⟨he,hw⟩=>⟨?_,hw⟩
 rw[he]
 show _=Ending.returned (Value.int .i64 (Lib.index x.data.toList [47]))
 rw[Lib.index_one]
theorem zzh (x:ByteArray) (w:World):Calls Tryz.prog 323 #[.string x,.string ⟨#[47]⟩] w fun e w'=>e=.returned (.int .i64 (Lib.countB x ⟨#[47]⟩))∧w'=w:=by
 refine (show Calls Tryz.prog 323 #[.string x,.string ⟨#[47]⟩] w fun e w'=>e=.returned (.int .i64 (Lib.countByte x.data.toList 47))∧w'=w from Any.strings_Count_one (ρ:=zgo) { zyx with } x 47 w).mono fun e w' ⟨he,hw⟩=>⟨?_,hw⟩
 rw[he]
 show _=Ending.returned (Value.int .i64 ((Lib.count x.data.toList [47]:Nat):Int))
 rw[Lib.count_one];rfl
theorem zzi (s:ByteArray) (w:World) (hs:s.size < 4294967281) :
  Calls Tryz.prog 280 #[.string s,.string ⟨#[47]⟩] w fun e w' =>
   e=.returned (.slice (some ⟨w.heap.size,0,none⟩) (pcs s).length (pcs s).length)∧w'=w.alloc (.cells (zcy (pcs s)).toArray 9):=by
 have hle:=Lib.countB_le ⟨#[47]⟩ (by decide) s.size s (Nat.le_refl _);have hlen:=Lib.splitB_all ⟨#[47]⟩ (by decide) 0 _ s rfl
 have c:Calls Tryz.prog 313 #[.string s,.string ⟨#[47]⟩,.int .i64 ((0:Nat):Int),.int .i64 (-1)] w fun e w' =>
   e=.returned (.slice (some ⟨w.heap.size,0,none⟩) (Lib.splitB ⟨#[47]⟩ 0 (Lib.countB s ⟨#[47]⟩+1 - 1) s).length (Lib.countB s ⟨#[47]⟩+1))∧w'=w.alloc (.cells (Lib.cellsOf (Lib.splitB ⟨#[47]⟩ 0 (Lib.countB s ⟨#[47]⟩+1 - 1) s) (Lib.countB s ⟨#[47]⟩+1)) 9) :=
  Any.strings_genSplit_core (ρ:=zgo) { zyx with } (by kernel_rfl) s ⟨#[47]⟩ 0 (-1) (Lib.countB s ⟨#[47]⟩+1) w hs (by decide) (Nat.zero_le _) (fun x _ _=>zzl x _) (zzh s w) (by decide) (by decide) (by rw[if_pos (by decide)];omega)
 rw[Nat.add_sub_cancel,hlen] at c
 have e2:Lib.cellsOf (Lib.splitB ⟨#[47]⟩ 0 (Lib.countB s ⟨#[47]⟩) s) (Lib.countB s ⟨#[47]⟩+1)=((Lib.splitB ⟨#[47]⟩ 0 (Lib.countB s ⟨#[47]⟩) s).map Value.string).toArray:=by rw[← hlen];exact Lib.cellsOf_full _
 rw[e2,zvb,yahh] at c;have C:=zaa c;clear c hle hlen e2;unfold zcy;generalize (pcs s).length=n at *;generalize ((pcs s).map Value.string).toArray=cs at *;go_enter Tryz.func280,Tryz.ntmps280;go_wp2_with (go_at_call 313;refine C.o.mono ?_;rintro e w' ⟨rfl,hw⟩;rw[hw]);go_ret;exact ⟨rfl,rfl⟩
end Go.Proofs.YtehnphoeplmpdaaGreatDoor
