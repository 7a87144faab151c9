/- Several texts laid together: DtF, DuE. -/
import Derived.Test.YtehnphoeplmpdaaGreatDoorZBB
import Derived.Test.YtehnphoeplmpdaaGreatDoorZBM
import Derived.Test.YtehnphoeplmpdaaGreatDoorZAZ
set_option maxRecDepth 100000
set_option maxHeartbeats 8000000
namespace Go.Proofs.YtehnphoeplmpdaaGreatDoor
open Go.RowKit
theorem yadg (v:Value) (ns:List Ino) (ds:List Den) (s:ByteArray) (size:Int) (w:World) (h:RdIm w v ns ds) (hi:zay ns ds=true) (hs:s.size≤65536) :
  Calls Tryz.prog 151 #[v,.string s,.int .i64 size] w fun e w'=>zfa w w' e (cuI ns ds s size):=by
 have LL:=zaa (fun w1 (hb:Below w.heap.size w w1)=>zjv v ns ds s w1 (h.below hb) hi hs);have EL:=zaa (show cuI ns ds s size=if (flI ns ds s).2=0 then cuF ns (flI ns ds s).1 size else ([],(flI ns ds s).2) from rfl);have LO:=zaa (fun c=>zlh (s:=s) (zca.1 hi) c);obtain ⟨l16,l24,_⟩:=zao hi;have L16:=zaa l16;obtain ⟨vW,vP,rfl,h1,h2⟩:=h;obtain ⟨aW,cW,rfl,_,hcW⟩:=h1.shape;obtain ⟨aP,cP,rfl,_,hcP⟩:=h2.shape;obtain ⟨bW,oW,rfl,hblW,hcellW⟩:=hcW (by omega)
 have HM:Hid (∀ k,k < 16→∀ w',Below w.heap.size w w'→∀ j,j < 8→w'.cell? ⟨bW,oW+k*11+3+j,none⟩=some (.int .i64 ((zci ns k).map.getD j 0))):=fun k hk w' hb j hj=>by
  rw[zcn (by omega:k < ns.length)];obtain ⟨a0,a1,a2,a3,a4,a5,a6,a7,a8,a9,a10⟩:=hcellW k (by omega)
  rcases (show j=0∨j=1∨j=2∨j=3∨j=4∨j=5∨j=6∨j=7 by omega) with rfl | rfl | rfl | rfl | rfl | rfl | rfl | rfl
  ·exact (hb.cell (p:=⟨bW,oW+k*11+3,none⟩) hblW).trans a3
  ·exact (hb.cell (p:=⟨bW,oW+k*11+4,none⟩) hblW).trans a4
  ·exact (hb.cell (p:=⟨bW,oW+k*11+5,none⟩) hblW).trans a5
  ·exact (hb.cell (p:=⟨bW,oW+k*11+6,none⟩) hblW).trans a6
  ·exact (hb.cell (p:=⟨bW,oW+k*11+7,none⟩) hblW).trans a7
  ·exact (hb.cell (p:=⟨bW,oW+k*11+8,none⟩) hblW).trans a8
  ·exact (hb.cell (p:=⟨bW,oW+k*11+9,none⟩) hblW).trans a9
  ·exact (hb.cell (p:=⟨bW,oW+k*11+10,none⟩) hblW).trans a10
 clear h1 h2 hi hs hcW hcP hcellW l16 l24
 obtain ⟨W,hW⟩:∃ W,W=w.alloc (.cells #[.slice (some ⟨bW,oW,none⟩) ns.length cW,.slice aP ds.length cP] 79):=⟨_,rfl⟩
 have CA:Hid (∀ w',Below W.heap.size W w'→w'.cell? ⟨w.heap.size,0,none⟩=some (.slice (some ⟨bW,oW,none⟩) ns.length cW)∧w'.cell? ⟨w.heap.size,1,none⟩=some (.slice aP ds.length cP)):=fun w' hb=>by
  have:w'.heap[w.heap.size]?=some (.cells #[.slice (some ⟨bW,oW,none⟩) ns.length cW,.slice aP ds.length cP] 79 (0,0)):=(hb.block _ (by rw[hW];simp)).trans (by rw[hW];exact zah rfl);exact ⟨(zac this).1,(zac this).2.1⟩
 have BW:Hid (Below w.heap.size w W):=by rw[hW];exact (Below.refl _ _).alloc (Nat.le_refl _) _
 obtain ⟨x0,x1⟩:=CA.o _ (Below.refl _ _)
 have hz:w.heap.size < W.heap.size:=by rw[hW];simp
 generalize cuI ns ds s size=res at *;generalize flI ns ds s=lr at *;obtain ⟨li,lc⟩:=lr;simp only at EL LO LL;go_enter Tryz.func151,Tryz.ntmps151;go_wp2_with fail;rw[← hW];clear hW x0 x1;refine (LL.o _ BW.o).mono ?_;rintro e w1 ⟨rfl,hb1⟩;have A1:=zaa hb1;have B1:=zaa (zab BW.o A1.o BW.o.size);clear hb1 LL
 by_cases c:lc=0
 case neg =>
  rw[if_neg c] at EL;obtain rfl:=EL.o
  have q:(lc != 0)=true:=by rw[bne_iff_ne];exact c
  clear EL LO c;go_wp2;go_ret2;exact zch B1.o
 subst c;rw[if_pos rfl] at EL;obtain ⟨i,i16,ei,-⟩:=LO.o rfl;subst ei;have EC:=zaa (show cuF ns (i:Int) size=if 0≤size∧size≤8 then (cuU (zci ns i).map (i:Int) size.toNat 8,0) else ([],4) from rfl);rw[EC.o] at EL;have HMi:=zaa (HM.o i i16)
 have i1:i < ns.length:=by have:=L16.o;omega
 have i0:(0:Int)≤(i:Int):=by omega
 have il:(i:Int) < (ns.length:Int):=by omega
 have ir:0≤(i:Int)∧(i:Int) < 16:=by omega
 clear HM EC LO L16
 by_cases c:0≤size∧size≤8
 case neg =>
  rw[if_neg c] at EL;obtain rfl:=EL.o;clear EL;go_wp2_with fail;refine (zcg _ _ _ _ c).mono ?_;rintro e w' ⟨rfl,hw'⟩;subst w';go_wp2;go_ret2;exact zch B1.o
 rw[if_pos c] at EL
 obtain ⟨n,rfl⟩:∃ n:Nat,size=(n:Int):=⟨size.toNat,by omega⟩
 rw[Int.toNat_natCast] at EL
 have n8:n≤8:=by omega
 generalize (zci ns i).map=zs at *;go_wp2_with fail;refine (zar _ _ _ _ c).mono ?_;rintro e w' ⟨rfl,hw'⟩;subst w';clear c;go_wp2_with (go_at_call 143;refine (zbe _ _ _ ir (by omega)).mono ?_;rintro e w' ⟨rfl,hw'⟩;subst w')
 have ST:Hid (UpI W (w1.alloc (.cells #[.int .i64 (48+12*(i:Int)+1),.int .i64 (n:Int)] 180)) (.slice (some ⟨w1.heap.size,0,none⟩) 1 1) (cuU zs (i:Int) n n)):=by
  unfold Hid cuU;rw[zvf];exact ⟨World.ownsRow_lit w1 _ 1 A1.o.size (by simp[maxLen]) rfl,A1.o.alloc A1.o.size _⟩
 go_loopw [10,11] (fun vL k wr=>∃ m:Nat,n≤m∧m≤8∧k=.int .i64 (m:Int)∧Hid (UpI W wr vL (cuU zs (i:Int) n m))) (fun _ k _=>8 - (intOf k).toNat)
 case atStart=>exact ⟨n,Nat.le_refl _,n8,rfl,ST⟩
 case round =>
  obtain ⟨m,hm,hm8,rfl,J⟩:=hrel;clear ST A1 B1;obtain ⟨x0,x1⟩:=CA.o _ J.o.b;have JW:=zaa (zab BW.o J.o.b BW.o.size);have hzj:W.heap.size≤wr.heap.size:=J.o.z
  have m0:(0:Int)≤(m:Int):=by omega
  by_cases hlt:m < 8
  ·have m1:(m:Int) < 8:=by omega
   have e0:=HMi.o wr JW.o m hlt;have YES:=zaa (fun e=>yafd (zs:=zs) (i:=(i:Int)) (n:=n) (k:=m) hm e);have NO:=zaa (fun e=>yanj (zs:=zs) (i:=(i:Int)) (n:=n) (k:=m) e)
   have hlen:(cuU zs (i:Int) n m).length≤9:=by
    have:=zxz zs (i:Int) n m
    show (cuT zs (i:Int) n m).length+1≤9
    omega
   generalize zs.getD m 0=z at e0 YES NO
   by_cases q:z=0
   ·have q':(z != 0)=false:=by rw[q];rfl
    have G:Hid (UpI W wr u10 (cuU zs (i:Int) n (m+1))):=by
     unfold Hid cuU;rw[NO.o q];exact J.o
    clear q J YES NO;go_wp2
    go_roundw
    case rel=>exact ⟨m+1,by omega,by omega,by go_num,G⟩
    case measure=>simp[intOf];omega
   ·have q':(z != 0)=true:=by rw[bne_iff_ne];exact q
    have JB:Hid (UpI W (wr.alloc (.cells #[.int .i64 (48+12*(i:Int)+(3+(m:Int))),.int .i64 0] 180)) u10 (cuU zs (i:Int) n m)):=J.o.below ((Below.refl _ _).alloc (Nat.le_refl _) _);have RB:=zaa (zfs wr (48+12*(i:Int)+(3+(m:Int))) 0);have hzb:=JB.o.z
    have MN:Hid (cuU zs (i:Int) n (m+1)=cuU zs (i:Int) n m ++ [⟨48+12*(i:Int)+(3+(m:Int)),0⟩]):=by
     unfold Hid cuU;rw[YES.o q];rfl
    have mr:0≤3+(m:Int)∧3+(m:Int) < 11:=by omega
    clear q J YES NO;go_wp2_with fail;refine (zbe _ _ _ ir mr).mono ?_;rintro e w' ⟨rfl,hw'⟩;subst w';go_wp2_with (at_builtin;refine zag _ rfl (.tmp 45) (.tmp 51) 135 rfl W.heap.size 180 (.agg #[.int .i64 0,.int .i64 0]) 2 16 Tryz.underlying135 zfg rfl (by decide) _ _ _ rfl JB.o.l _ 1 _ rfl RB.o (zcm _) (by first | omega | (simp[maxLen];omega)) (by first | omega | (simp;omega)) hzb ?_);intro vN wN hownN hgrN;have G:=zaa (JB.o.grow [⟨48+12*(i:Int)+(3+(m:Int)),0⟩] hownN hgrN);rw[← MN.o] at G;clear hownN hgrN JB RB;go_wp2
    go_roundw
    case rel=>exact ⟨m+1,by omega,by omega,by go_num,G⟩
    case measure=>simp[intOf];omega
  ·obtain rfl:m=8:=by omega
   obtain rfl:=EL.o;obtain ⟨-,aN,cN,hvN,-⟩:=(zad J.o.l).rd;subst hvN;go_wp2;go_ret2;exact ⟨_,rfl,(zad J.o.l).wide (by omega) (Nat.le_refl _),JW.o⟩
theorem zjd (x:Ino) (i:Int) (sz:Int) (w:World) (hi:0≤i∧i < 16) :
  Calls Tryz.prog 248 #[.agg #[.int .i64 x.kind,.int .i64 x.size,.int .i64 x.links,.int .i64 x.m0,.int .i64 x.m1,.int .i64 x.m2,.int .i64 x.m3,.int .i64 x.m4,.int .i64 x.m5,.int .i64 x.m6,.int .i64 x.m7,.int .i64 i],.int .i64 sz] w fun e w'=>e=.returned (.agg #[.int .i64 (48+12*i+1),.int .i64 sz])∧Below w.heap.size w w':=by
 have LU:=zaa (fun w1=>zcr i 1 sz w1 hi (by omega))
 obtain ⟨W,hW⟩:∃ W,W=(w.alloc (.cells #[.int .i64 x.kind,.int .i64 x.size,.int .i64 x.links,.int .i64 x.m0,.int .i64 x.m1,.int .i64 x.m2,.int .i64 x.m3,.int .i64 x.m4,.int .i64 x.m5,.int .i64 x.m6,.int .i64 x.m7,.int .i64 i] 148)).alloc (.cells #[.int .i64 0,.int .i64 0] 180):=⟨_,rfl⟩
 have hzW:W.heap.size=w.heap.size+1+1:=by rw[hW];simp
 have x11:((w.alloc (.cells #[.int .i64 x.kind,.int .i64 x.size,.int .i64 x.links,.int .i64 x.m0,.int .i64 x.m1,.int .i64 x.m2,.int .i64 x.m3,.int .i64 x.m4,.int .i64 x.m5,.int .i64 x.m6,.int .i64 x.m7,.int .i64 i] 148)).alloc (.cells #[.int .i64 0,.int .i64 0] 180)).cell? ⟨w.heap.size,11,none⟩=some (.int .i64 i):=(zae (xs:=x.fa i) (zat (zah rfl)) 11).1
 have CR:Hid (∀ w',Below W.heap.size W w'→w'.heap[w.heap.size+1]?=some (.cells #[.int .i64 0,.int .i64 0] 180 (0,0))):=fun w' hb=>(hb.block _ (by omega)).trans (by
  rw[hW];have:=zah (w:=w.alloc (.cells #[.int .i64 x.kind,.int .i64 x.size,.int .i64 x.links,.int .i64 x.m0,.int .i64 x.m1,.int .i64 x.m2,.int .i64 x.m3,.int .i64 x.m4,.int .i64 x.m5,.int .i64 x.m6,.int .i64 x.m7,.int .i64 i] 148)) (o:=.cells #[.int .i64 0,.int .i64 0] 180) rfl;rw[World.size_alloc] at this
  exact this)
 have BW:Hid (Below w.heap.size w W):=by rw[hW];exact ((Below.refl _ _).alloc (Nat.le_refl _) _).alloc (by simp) _
 clear hzW hi;go_enter Tryz.func248,Tryz.ntmps248;go_wp2_with fail;rw[← hW];clear hW x11;refine (LU.o _).mono ?_;rintro e w1 ⟨rfl,hb1⟩;obtain ⟨p0,p1,f0,f1⟩:=zac (CR.o _ hb1);have B1:=zaa (zab BW.o hb1 BW.o.size);clear hb1 CR;go_wp2;refine bodyPost_ret (v:=.agg #[.int .i64 (48+12*i+1),.int .i64 sz]) (by simp[results,Tryz.results248,go_sem,p0,p1]) rfl ⟨rfl,?_⟩
 repeat (first | with_reducible exact B1.o | refine Below.setCell ?_ (by simp only;omega) _)
theorem zje (x:Ino) (i:Int) (page z:Int) (w:World) (hi:0≤i∧i < 16) (hp:0≤page∧page < 8) :
  Calls Tryz.prog 247 #[.agg #[.int .i64 x.kind,.int .i64 x.size,.int .i64 x.links,.int .i64 x.m0,.int .i64 x.m1,.int .i64 x.m2,.int .i64 x.m3,.int .i64 x.m4,.int .i64 x.m5,.int .i64 x.m6,.int .i64 x.m7,.int .i64 i],.int .i64 page,.int .i64 z] w fun e w'=>e=.returned (.agg #[.int .i64 (48+12*i+(3+page)),.int .i64 z])∧Below w.heap.size w w':=by
 have LU:=zaa (fun w1=>zcr i (3+page) z w1 hi (by omega))
 obtain ⟨W,hW⟩:∃ W,W=(w.alloc (.cells #[.int .i64 x.kind,.int .i64 x.size,.int .i64 x.links,.int .i64 x.m0,.int .i64 x.m1,.int .i64 x.m2,.int .i64 x.m3,.int .i64 x.m4,.int .i64 x.m5,.int .i64 x.m6,.int .i64 x.m7,.int .i64 i] 148)).alloc (.cells #[.int .i64 0,.int .i64 0] 180):=⟨_,rfl⟩
 have hzW:W.heap.size=w.heap.size+1+1:=by rw[hW];simp
 have x11:((w.alloc (.cells #[.int .i64 x.kind,.int .i64 x.size,.int .i64 x.links,.int .i64 x.m0,.int .i64 x.m1,.int .i64 x.m2,.int .i64 x.m3,.int .i64 x.m4,.int .i64 x.m5,.int .i64 x.m6,.int .i64 x.m7,.int .i64 i] 148)).alloc (.cells #[.int .i64 0,.int .i64 0] 180)).cell? ⟨w.heap.size,11,none⟩=some (.int .i64 i):=(zae (xs:=x.fa i) (zat (zah rfl)) 11).1
 have CR:Hid (∀ w',Below W.heap.size W w'→w'.heap[w.heap.size+1]?=some (.cells #[.int .i64 0,.int .i64 0] 180 (0,0))):=fun w' hb=>(hb.block _ (by omega)).trans (by
  rw[hW];have:=zah (w:=w.alloc (.cells #[.int .i64 x.kind,.int .i64 x.size,.int .i64 x.links,.int .i64 x.m0,.int .i64 x.m1,.int .i64 x.m2,.int .i64 x.m3,.int .i64 x.m4,.int .i64 x.m5,.int .i64 x.m6,.int .i64 x.m7,.int .i64 i] 148)) (o:=.cells #[.int .i64 0,.int .i64 0] 180) rfl;rw[World.size_alloc] at this
  exact this)
 have BW:Hid (Below w.heap.size w W):=by rw[hW];exact ((Below.refl _ _).alloc (Nat.le_refl _) _).alloc (by simp) _
 have wp3:IntKind.i64.wrap (3+page)=3+page:=by rw[IntKind.wrap_i64];omega
 clear hzW hi;go_enter Tryz.func247,Tryz.ntmps247;go_wp2_with fail;rw[← hW];clear hW x11;refine (LU.o _).mono ?_;rintro e w1 ⟨rfl,hb1⟩;obtain ⟨p0,p1,f0,f1⟩:=zac (CR.o _ hb1);have B1:=zaa (zab BW.o hb1 BW.o.size);clear hb1 CR;go_wp2;refine bodyPost_ret (v:=.agg #[.int .i64 (48+12*i+(3+page)),.int .i64 z]) (by simp[results,Tryz.results247,go_sem,p0,p1]) rfl ⟨rfl,?_⟩
 repeat (first | with_reducible exact B1.o | refine Below.setCell ?_ (by simp only;omega) _)
theorem zmu (x:Ino) (i page e:Int) (w:World) (hi:0≤i∧i < 16) (hp:0≤page∧page < 8) :
  Calls Tryz.prog 181 #[.agg #[.int .i64 x.kind,.int .i64 x.size,.int .i64 x.links,.int .i64 x.m0,.int .i64 x.m1,.int .i64 x.m2,.int .i64 x.m3,.int .i64 x.m4,.int .i64 x.m5,.int .i64 x.m6,.int .i64 x.m7,.int .i64 i,.int .i64 page,.int .i64 e]] w fun r w'=>∃ v',r=.returned v'∧Row w' 180 2 w.heap.size w'.heap.size v' (wrU i page x.size e).length (ses (wrU i page x.size e))∧Below w.heap.size w w':=by
 have LP:=zaa (fun w1=>zje x i page e w1 hi hp);have LS:=zaa (fun w1=>zjd x i (page+1) w1 hi);have EU:=zaa (show wrU i page x.size e=⟨48+12*i+(3+page),e⟩ :: (if x.size≤page then [⟨48+12*i+1,page+1⟩] else []) from rfl)
 have wp1:IntKind.i64.wrap (page+1)=page+1:=by rw[IntKind.wrap_i64];omega
 obtain ⟨W,hW⟩:∃ W,W=w.alloc (.cells #[.int .i64 x.kind,.int .i64 x.size,.int .i64 x.links,.int .i64 x.m0,.int .i64 x.m1,.int .i64 x.m2,.int .i64 x.m3,.int .i64 x.m4,.int .i64 x.m5,.int .i64 x.m6,.int .i64 x.m7,.int .i64 i,.int .i64 page,.int .i64 e] 221):=⟨_,rfl⟩
 have CA:Hid (∀ w',Below W.heap.size W w'→w'.cell? ⟨w.heap.size,0,none⟩=some (.int .i64 x.kind)∧w'.cell? ⟨w.heap.size,1,none⟩=some (.int .i64 x.size)∧w'.cell? ⟨w.heap.size,2,none⟩=some (.int .i64 x.links)∧w'.cell? ⟨w.heap.size,3,none⟩=some (.int .i64 x.m0)∧w'.cell? ⟨w.heap.size,4,none⟩=some (.int .i64 x.m1)∧w'.cell? ⟨w.heap.size,5,none⟩=some (.int .i64 x.m2)∧w'.cell? ⟨w.heap.size,6,none⟩=some (.int .i64 x.m3)∧w'.cell? ⟨w.heap.size,7,none⟩=some (.int .i64 x.m4)∧w'.cell? ⟨w.heap.size,8,none⟩=some (.int .i64 x.m5)∧w'.cell? ⟨w.heap.size,9,none⟩=some (.int .i64 x.m6)∧w'.cell? ⟨w.heap.size,10,none⟩=some (.int .i64 x.m7)∧w'.cell? ⟨w.heap.size,11,none⟩=some (.int .i64 i)∧w'.cell? ⟨w.heap.size,12,none⟩=some (.int .i64 page)∧w'.cell? ⟨w.heap.size,13,none⟩=some (.int .i64 e)):=fun w' hb=>by
  have q:w'.heap[w.heap.size]?=some (.cells ([.int .i64 x.kind,.int .i64 x.size,.int .i64 x.links,.int .i64 x.m0,.int .i64 x.m1,.int .i64 x.m2,.int .i64 x.m3,.int .i64 x.m4,.int .i64 x.m5,.int .i64 x.m6,.int .i64 x.m7,.int .i64 i,.int .i64 page,.int .i64 e]:List Value).toArray 221 (0,0)):=(hb.block _ (by rw[hW];simp)).trans (by rw[hW];exact zah rfl);exact ⟨(zae q 0).1,(zae q 1).1,(zae q 2).1,(zae q 3).1,(zae q 4).1,(zae q 5).1,(zae q 6).1,(zae q 7).1,(zae q 8).1,(zae q 9).1,(zae q 10).1,(zae q 11).1,(zae q 12).1,(zae q 13).1⟩
 have BW:Hid (Below w.heap.size w W):=by rw[hW];exact (Below.refl _ _).alloc (Nat.le_refl _) _
 obtain ⟨k0,k1,k2,k3,k4,k5,k6,k7,k8,k9,k10,k11,k12,k13⟩:=CA.o _ (Below.refl _ _);rw[hW] at k0 k1 k2 k3 k4 k5 k6 k7 k8 k9 k10 k11 k12 k13;generalize wrU i page x.size e=L at *;clear hi hp;go_enter Tryz.func181,Tryz.ntmps181;go_wp2_with fail;rw[← hW];clear hW k0 k1 k2 k3 k4 k5 k6 k7 k8 k9 k10 k11 k12 k13;refine (LP.o _).mono ?_;rintro r w1 ⟨rfl,hb1⟩
 have ST:Hid (UpI W (w1.alloc (.cells #[.int .i64 (48+12*i+(3+page)),.int .i64 e] 180)) (.slice (some ⟨w1.heap.size,0,none⟩) 1 1) [⟨48+12*i+(3+page),e⟩]):=⟨World.ownsRow_lit w1 _ 1 hb1.size (by simp[maxLen]) rfl,hb1.alloc hb1.size _⟩
 have hz1:W.heap.size≤w1.heap.size:=hb1.size;clear hb1 LP;obtain ⟨k0,k1,k2,k3,k4,k5,k6,k7,k8,k9,k10,k11,k12,k13⟩:=CA.o _ ST.o.b
 by_cases c:x.size≤page
 ·rw[if_pos c] at EU;obtain rfl:=EU.o;clear EU;go_wp2_with fail;refine (LS.o _).mono ?_;rintro r w2 ⟨rfl,hb2⟩;have JB:Hid (UpI W (w2.alloc (.cells #[.int .i64 (48+12*i+1),.int .i64 (page+1)] 180)) (.slice (some ⟨w1.heap.size,0,none⟩) 1 1) [⟨48+12*i+(3+page),e⟩]):=(ST.o.below hb2).below ((Below.refl _ _).alloc (Nat.le_refl _) _);have RB:=zaa (zfs w2 (48+12*i+1) (page+1));have hzb:=JB.o.z;clear hb2 ST k0 k1 k2 k3 k4 k5 k6 k7 k8 k9 k10 k11 k12 k13 CA LS;go_wp2_with (at_builtin;refine zag _ rfl (.tmp 19) (.tmp 26) 135 rfl W.heap.size 180 (.agg #[.int .i64 0,.int .i64 0]) 2 16 Tryz.underlying135 zfg rfl (by decide) _ _ _ rfl JB.o.l _ 1 _ rfl RB.o (zcm _) (by first | omega | (simp[maxLen];done) | (simp[maxLen];omega)) (by first | omega | (simp;done) | (simp;omega)) hzb ?_);intro vN wN hownN hgrN;have G:=zaa (JB.o.grow [⟨48+12*i+1,page+1⟩] hownN hgrN);have JW:=zaa (zab BW.o G.o.b BW.o.size);obtain ⟨-,aN,cN,hvN,-⟩:=(zad G.o.l).rd;subst hvN;clear hownN hgrN JB RB;go_wp2;go_ret;exact ⟨_,rfl,(zad G.o.l).wide BW.o.size (Nat.le_refl _),JW.o⟩
 ·rw[if_neg c] at EU;obtain rfl:=EU.o;have JW:=zaa (zab BW.o ST.o.b BW.o.size);clear EU;go_wp2;go_ret;exact ⟨_,rfl,(zad ST.o.l).wide BW.o.size (Nat.le_refl _),JW.o⟩
theorem zqv (x:Ino) (i:Int) (n:Nat) (w:World) (hi:0≤i∧i < 16) (hn:n≤8) :
  Calls Tryz.prog 260 #[.agg #[.int .i64 x.kind,.int .i64 x.size,.int .i64 x.links,.int .i64 x.m0,.int .i64 x.m1,.int .i64 x.m2,.int .i64 x.m3,.int .i64 x.m4,.int .i64 x.m5,.int .i64 x.m6,.int .i64 x.m7,.int .i64 i,.int .i64 (n:Int)]] w fun r w'=>∃ v',r=.returned v'∧Row w' 180 2 w.heap.size w'.heap.size v' (cuU x.map i n 8).length (ses (cuU x.map i n 8))∧Below w.heap.size w w':=by
 have LP:=zaa (fun (m:Nat) (hm:m < 8) w1=>zje x i (m:Int) 0 w1 hi (by omega));have LS:=zaa (fun w1=>zjd x i (n:Int) w1 hi)
 obtain ⟨W,hW⟩:∃ W,W=w.alloc (.cells #[.int .i64 x.kind,.int .i64 x.size,.int .i64 x.links,.int .i64 x.m0,.int .i64 x.m1,.int .i64 x.m2,.int .i64 x.m3,.int .i64 x.m4,.int .i64 x.m5,.int .i64 x.m6,.int .i64 x.m7,.int .i64 i,.int .i64 (n:Int)] 274):=⟨_,rfl⟩
 have CA:Hid (∀ w',Below W.heap.size W w'→w'.cell? ⟨w.heap.size,0,none⟩=some (.int .i64 x.kind)∧w'.cell? ⟨w.heap.size,1,none⟩=some (.int .i64 x.size)∧w'.cell? ⟨w.heap.size,2,none⟩=some (.int .i64 x.links)∧w'.cell? ⟨w.heap.size,3,none⟩=some (.int .i64 x.m0)∧w'.cell? ⟨w.heap.size,4,none⟩=some (.int .i64 x.m1)∧w'.cell? ⟨w.heap.size,5,none⟩=some (.int .i64 x.m2)∧w'.cell? ⟨w.heap.size,6,none⟩=some (.int .i64 x.m3)∧w'.cell? ⟨w.heap.size,7,none⟩=some (.int .i64 x.m4)∧w'.cell? ⟨w.heap.size,8,none⟩=some (.int .i64 x.m5)∧w'.cell? ⟨w.heap.size,9,none⟩=some (.int .i64 x.m6)∧w'.cell? ⟨w.heap.size,10,none⟩=some (.int .i64 x.m7)∧w'.cell? ⟨w.heap.size,11,none⟩=some (.int .i64 i)∧w'.cell? ⟨w.heap.size,12,none⟩=some (.int .i64 (n:Int))):=fun w' hb=>by
  have q:w'.heap[w.heap.size]?=some (.cells ([.int .i64 x.kind,.int .i64 x.size,.int .i64 x.links,.int .i64 x.m0,.int .i64 x.m1,.int .i64 x.m2,.int .i64 x.m3,.int .i64 x.m4,.int .i64 x.m5,.int .i64 x.m6,.int .i64 x.m7,.int .i64 i,.int .i64 (n:Int)]:List Value).toArray 274 (0,0)):=(hb.block _ (by rw[hW];simp)).trans (by rw[hW];exact zah rfl);exact ⟨(zae q 0).1,(zae q 1).1,(zae q 2).1,(zae q 3).1,(zae q 4).1,(zae q 5).1,(zae q 6).1,(zae q 7).1,(zae q 8).1,(zae q 9).1,(zae q 10).1,(zae q 11).1,(zae q 12).1⟩
 have CM:Hid (∀ w',Below W.heap.size W w'→∀ m,m < 8→w'.cell? ⟨w.heap.size,3+m,none⟩=some (.int .i64 (x.map.getD m 0))):=fun w' hb m hm=>by
  have q:w'.heap[w.heap.size]?=some (.cells ([.int .i64 x.kind,.int .i64 x.size,.int .i64 x.links,.int .i64 x.m0,.int .i64 x.m1,.int .i64 x.m2,.int .i64 x.m3,.int .i64 x.m4,.int .i64 x.m5,.int .i64 x.m6,.int .i64 x.m7,.int .i64 i,.int .i64 (n:Int)]:List Value).toArray 274 (0,0)):=(hb.block _ (by rw[hW];simp)).trans (by rw[hW];exact zah rfl);refine (zae q (3+m)).1.trans ?_
  rcases (show m=0∨m=1∨m=2∨m=3∨m=4∨m=5∨m=6∨m=7 by omega) with rfl | rfl | rfl | rfl | rfl | rfl | rfl | rfl <;> rfl
 have BW:Hid (Below w.heap.size w W):=by rw[hW];exact (Below.refl _ _).alloc (Nat.le_refl _) _
 obtain ⟨k0,k1,k2,k3,k4,k5,k6,k7,k8,k9,k10,k11,k12⟩:=CA.o _ (Below.refl _ _);rw[hW] at k0 k1 k2 k3 k4 k5 k6 k7 k8 k9 k10 k11 k12;clear hi;go_enter Tryz.func260,Tryz.ntmps260;go_wp2_with fail;rw[← hW];clear hW k0 k1 k2 k3 k4 k5 k6 k7 k8 k9 k10 k11 k12;refine (LS.o _).mono ?_;rintro r w1 ⟨rfl,hb1⟩
 have ST:Hid (UpI W (w1.alloc (.cells #[.int .i64 (48+12*i+1),.int .i64 (n:Int)] 180)) (.slice (some ⟨w1.heap.size,0,none⟩) 1 1) (cuU x.map i n n)):=by
  unfold Hid cuU;rw[zvf];exact ⟨World.ownsRow_lit w1 _ 1 hb1.size (by simp[maxLen]) rfl,hb1.alloc hb1.size _⟩
 clear hb1 LS;have k12:=(CA.o _ ST.o.b).2.2.2.2.2.2.2.2.2.2.2.2;go_wp2_with fail;clear k12
 go_loopw [3,4] (fun vL k wr=>∃ m:Nat,n≤m∧m≤8∧k=.int .i64 (m:Int)∧Hid (UpI W wr vL (cuU x.map i n m))) (fun _ k _=>8 - (intOf k).toNat)
 case atStart=>exact ⟨n,Nat.le_refl _,hn,rfl,ST⟩
 case round =>
  obtain ⟨m,hm,hm8,rfl,J⟩:=hrel;clear ST;have JW:=zaa (zab BW.o J.o.b BW.o.size)
  have m0:(0:Int)≤(m:Int):=by omega
  by_cases hlt:m < 8
  ·have m1:(m:Int) < 8:=by omega
   have e0:=CM.o wr J.o.b m hlt;have YES:=zaa (fun e=>yafd (zs:=x.map) (i:=i) (n:=n) (k:=m) hm e);have NO:=zaa (fun e=>yanj (zs:=x.map) (i:=i) (n:=n) (k:=m) e);have LP2:=zaa (LP.o m hlt)
   have hlen:(cuU x.map i n m).length≤9:=by
    have:=zxz x.map i n m
    show (cuT x.map i n m).length+1≤9
    omega
   generalize x.map.getD m 0=z at e0 YES NO
   by_cases q:z=0
   ·have q':(z == 0)=true:=by rw[q];rfl
    have G:Hid (UpI W wr u3 (cuU x.map i n (m+1))):=by
     unfold Hid cuU;rw[NO.o q];exact J.o
    clear q J YES NO;go_wp2_with fail;refine (zeo _ _).mono ?_;rintro r w' ⟨rfl,hw'⟩;subst w';go_wp2
    go_roundw
    case rel=>exact ⟨m+1,by omega,by omega,by go_num,G⟩
    case measure=>simp[intOf];omega
   ·have q':(z == 0)=false:=by rw[beq_eq_false_iff_ne];exact q
    obtain ⟨k0,k1,k2,k3,k4,k5,k6,k7,k8,k9,k10,k11,k12⟩:=CA.o _ J.o.b
    have MN:Hid (cuU x.map i n (m+1)=cuU x.map i n m ++ [⟨48+12*i+(3+(m:Int)),0⟩]):=by
     unfold Hid cuU;rw[YES.o q];rfl
    clear q YES NO;go_wp2_with fail;refine (zeo _ _).mono ?_;rintro r w' ⟨rfl,hw'⟩;subst w';go_wp2_with fail;refine (LP2.o _).mono ?_;rintro r w2 ⟨rfl,hb2⟩;have JB:Hid (UpI W (w2.alloc (.cells #[.int .i64 (48+12*i+(3+(m:Int))),.int .i64 0] 180)) u3 (cuU x.map i n m)):=(J.o.below hb2).below ((Below.refl _ _).alloc (Nat.le_refl _) _);have RB:=zaa (zfs w2 (48+12*i+(3+(m:Int))) 0);have hzb:=JB.o.z;clear hb2 J k0 k1 k2 k3 k4 k5 k6 k7 k8 k9 k10 k11 k12 e0;go_wp2_with (at_builtin;refine zag _ rfl (.tmp 25) (.tmp 30) 135 rfl W.heap.size 180 (.agg #[.int .i64 0,.int .i64 0]) 2 16 Tryz.underlying135 zfg rfl (by decide) _ _ _ rfl JB.o.l _ 1 _ rfl RB.o (zcm _) (by first | omega | (simp[maxLen];omega)) (by first | omega | (simp;omega)) hzb ?_);intro vN wN hownN hgrN;have G:=zaa (JB.o.grow [⟨48+12*i+(3+(m:Int)),0⟩] hownN hgrN);rw[← MN.o] at G;clear hownN hgrN JB RB;go_wp2
    go_roundw
    case rel=>exact ⟨m+1,by omega,by omega,by go_num,G⟩
    case measure=>simp[intOf];omega
  ·obtain rfl:m=8:=by omega
   obtain ⟨-,aN,cN,hvN,-⟩:=(zad J.o.l).rd;subst hvN;go_wp2;go_ret;exact ⟨_,rfl,(zad J.o.l).wide BW.o.size (Nat.le_refl _),JW.o⟩
theorem yapa {ns:List Ino} {ds:List Den} {s:ByteArray} {size:Int}:cuR ns ds s size=if (flR ns ds s).2=0 then cuF ns (flR ns ds s).1 size else ([],(flR ns ds s).2):=by
 unfold cuR flR
 by_cases c:65536 < s.size
 ·rw[if_pos c,if_pos c];rfl
 ·rw[if_neg c,if_neg c]
  by_cases d:zay ns ds=true
  ·rw[if_pos d,if_pos d];rfl
  ·rw[if_neg d,if_neg d];rfl
theorem zpe (v:Value) (ns:List Ino) (ds:List Den) (s:ByteArray) (size:Int) (w:World) (h:RdIm w v ns ds) (hw:ns.length≤1048576) (hp:ds.length≤1048576) (hT:TS w) (hE:ED w) (hF:FD w) (hr:∀ k (h:k < ns.length),ns[k].R) (hs:∀ k (h:k < ds.length),ds[k].name.size≤maxLen) :
  Calls Tryz.prog 187 #[v,.string s,.int .i64 size] w fun e w'=>zfa w w' e (cuR ns ds s size):=by
 have LF:=zaa (fun w1 (hb:Below w.heap.size w w1)=>zhp v ns ds s w1 (h.below hb) hw hp (hT.below hb) (hE.below hb) (hF.below hb) hr hs);have EL:=zaa (yapa (ns:=ns) (ds:=ds) (s:=s) (size:=size))
 have FL:Hid ((flR ns ds s).2=0→∃ i:Nat,i < 16∧(flR ns ds s).1=(i:Int)):=fun c=>by
  obtain ⟨hi,-,e⟩:=yaaf c;rw[e] at c ⊢;obtain ⟨i,h16,ei,-⟩:=zlh (zca.1 hi) c;exact ⟨i,h16,ei⟩
 have EF:Hid (∀ i:Nat,∀ x,x=zci ns i→cuF ns (i:Int) size=if 0≤size∧size≤8 then (cuU x.map (i:Int) size.toNat 8,0) else ([],4)):=fun i x e=>by rw[e];rfl
 obtain ⟨vW,vP,rfl,h1,h2⟩:=h;obtain ⟨aW,cW,rfl,_,_⟩:=h1.shape;obtain ⟨aP,cP,rfl,_,_⟩:=h2.shape;clear h1 h2 hr hs hT hE hF
 obtain ⟨W,hW⟩:∃ W,W=w.alloc (.cells #[.slice aW ns.length cW,.slice aP ds.length cP] 79):=⟨_,rfl⟩
 obtain ⟨x0,x1,_,_⟩:=zac (zah (w:=w) (o:=.cells #[.slice aW ns.length cW,.slice aP ds.length cP] 79) rfl)
 have BW:Hid (Below w.heap.size w W):=by rw[hW];exact (Below.refl _ _).alloc (Nat.le_refl _) _
 generalize cuR ns ds s size=res at *;generalize flR ns ds s=lr at *;obtain ⟨li,lc⟩:=lr
 obtain ⟨x,hx⟩:∃ x,x=faI ns (li,lc):=⟨_,rfl⟩
 have LF2:=zaa (fun w1 hb=>LF.o w1 hb x hx);have HX:=zaa hx;simp only at EL FL LF2;clear LF hx;go_enter Tryz.func187,Tryz.ntmps187;go_wp2_with fail;rw[← hW];clear hW x0 x1;refine (LF2.o _ BW.o).mono ?_;rintro e w2 ⟨rfl,hb2⟩;have B2:=zaa (zab BW.o hb2 BW.o.size);clear hb2 LF2;have BX:=zaa (B2.o.alloc B2.o.size (.cells #[.int .i64 x.kind,.int .i64 x.size,.int .i64 x.links,.int .i64 x.m0,.int .i64 x.m1,.int .i64 x.m2,.int .i64 x.m3,.int .i64 x.m4,.int .i64 x.m5,.int .i64 x.m6,.int .i64 x.m7,.int .i64 li] 148))
 by_cases c:lc=0
 case neg =>
  rw[if_neg c] at EL;obtain rfl:=EL.o
  have q:(lc != 0)=true:=by rw[bne_iff_ne];exact c
  clear EL c FL EF HX;go_wp2;go_ret2;exact zcb BX.o
 subst c;rw[if_pos rfl] at EL;obtain ⟨i,i16,ei⟩:=FL.o rfl;subst ei;have hx:x=zci ns i:=HX.o.trans ((if_pos rfl).trans (by simp only[Int.toNat_natCast]));rw[EF.o i x hx] at EL;clear FL EF HX hx;have VX:Hid ((w2.alloc (.cells #[.int .i64 x.kind,.int .i64 x.size,.int .i64 x.links,.int .i64 x.m0,.int .i64 x.m1,.int .i64 x.m2,.int .i64 x.m3,.int .i64 x.m4,.int .i64 x.m5,.int .i64 x.m6,.int .i64 x.m7,.int .i64 (i:Int)] 148)).heap[w2.heap.size]?=some (.cells (x.fa (i:Int)).toArray 148 (0,0))):=zah rfl
 obtain ⟨w3,hw3⟩:∃ w3,w3=w2.alloc (.cells #[.int .i64 x.kind,.int .i64 x.size,.int .i64 x.links,.int .i64 x.m0,.int .i64 x.m1,.int .i64 x.m2,.int .i64 x.m3,.int .i64 x.m4,.int .i64 x.m5,.int .i64 x.m6,.int .i64 x.m7,.int .i64 (i:Int)] 148):=⟨_,rfl⟩
 rw[← hw3] at VX BX
 by_cases c:0≤size∧size≤8
 case neg =>
  rw[if_neg c] at EL;obtain rfl:=EL.o;clear EL VX;go_wp2_with fail;rw[← hw3];refine (zbi _ _ _ (by omega)).mono ?_;rintro e w' ⟨rfl,hw'⟩;subst w';clear hw3;go_wp2;go_ret2;exact zcb BX.o
 rw[if_pos c] at EL
 obtain ⟨n,rfl⟩:∃ n:Nat,size=(n:Int):=⟨size.toNat,by omega⟩
 rw[Int.toNat_natCast] at EL;have LC:=zaa (fun w1=>zqv x (i:Int) n w1 (by omega) (by omega))
 have KE:w3.cell? ⟨w2.heap.size,0,none⟩=some (.int .i64 x.kind)∧w3.cell? ⟨w2.heap.size,1,none⟩=some (.int .i64 x.size)∧w3.cell? ⟨w2.heap.size,2,none⟩=some (.int .i64 x.links)∧w3.cell? ⟨w2.heap.size,3,none⟩=some (.int .i64 x.m0)∧w3.cell? ⟨w2.heap.size,4,none⟩=some (.int .i64 x.m1)∧w3.cell? ⟨w2.heap.size,5,none⟩=some (.int .i64 x.m2)∧w3.cell? ⟨w2.heap.size,6,none⟩=some (.int .i64 x.m3)∧w3.cell? ⟨w2.heap.size,7,none⟩=some (.int .i64 x.m4)∧w3.cell? ⟨w2.heap.size,8,none⟩=some (.int .i64 x.m5)∧w3.cell? ⟨w2.heap.size,9,none⟩=some (.int .i64 x.m6)∧w3.cell? ⟨w2.heap.size,10,none⟩=some (.int .i64 x.m7)∧w3.cell? ⟨w2.heap.size,11,none⟩=some (.int .i64 (i:Int)):=⟨(zae VX.o 0).1,(zae VX.o 1).1,(zae VX.o 2).1,(zae VX.o 3).1,(zae VX.o 4).1,(zae VX.o 5).1,(zae VX.o 6).1,(zae VX.o 7).1,(zae VX.o 8).1,(zae VX.o 9).1,(zae VX.o 10).1,(zae VX.o 11).1⟩
 obtain ⟨k0,k1,k2,k3,k4,k5,k6,k7,k8,k9,k10,k11⟩:=KE;go_wp2_with fail;rw[← hw3];refine (zaq _ _ _ (by omega)).mono ?_;rintro e w' ⟨rfl,hw'⟩;subst w';clear hw3 c VX;go_wp2_with fail;refine (LC.o _).mono ?_;rintro e w4 ⟨v4,rfl,hr4,hb4⟩;have B4:=zaa (zab BX.o hb4 BX.o.size);have R4:=zaa (hr4.wide (lo':=w.heap.size) (hi':=w4.heap.size) BX.o.size (Nat.le_refl _));obtain ⟨-,a4,c4,hv4,-⟩:=hr4.rd;subst hv4;clear hr4 hb4 k0 k1 k2 k3 k4 k5 k6 k7 k8 k9 k10 k11;obtain rfl:=EL.o;go_wp2;go_ret2;exact ⟨_,rfl,R4.o,B4.o⟩
end Go.Proofs.YtehnphoeplmpdaaGreatDoor
