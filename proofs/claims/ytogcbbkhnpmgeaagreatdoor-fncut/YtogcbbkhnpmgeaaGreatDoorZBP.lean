import Derived.Test.YtogcbbkhnpmgeaaGreatDoorZBO
import Derived.Test.YtogcbbkhnpmgeaaGreatDoorZBJ
set_option maxRecDepth 100000
set_option maxHeartbeats 16000000
namespace Go.Proofs.YtogcbbkhnpmgeaaGreatDoor
open Go.RowKit
theorem zpf(x:Ino)(i:Int)(sz:Int)(w:World)(hi:0<=i/\i<16) :
  zC 85 #[.agg #[.I x.kind,.I x.size,.I x.links,.I x.m0,.I x.m1,.I x.m2,.I x.m3,.I x.m4,.I x.m5,.I x.m6,.I x.m7,.I i],.I sz] w fun e w'=>e=.returned (.agg #[.I (48+12*i+1),.I sz])/\zB w w':=by
 have LU:=zaa (fun w1=>zhh i 1 sz w1 hi (by omega))
 obtain⟨W,hW⟩:=zE ((w.alloc (.cells #[.I x.kind,.I x.size,.I x.links,.I x.m0,.I x.m1,.I x.m2,.I x.m3,.I x.m4,.I x.m5,.I x.m6,.I x.m7,.I i] 95)).alloc (.cells #[.I 0,.I 0] 104))
 have hzW:W.heap.size=w.heap.size+1+1:=by rw[hW];simp
 have x11:((w.alloc (.cells #[.I x.kind,.I x.size,.I x.links,.I x.m0,.I x.m1,.I x.m2,.I x.m3,.I x.m4,.I x.m5,.I x.m6,.I x.m7,.I i] 95)).alloc (.cells #[.I 0,.I 0] 104)).cell? ⟨w.heap.size,11,none⟩=some (.I i):=(zak (xs:=x.fa i) (zal (zah rfl)) 11).1
 have CR:Hid (∀ w',zB W w'->w'.heap[w.heap.size+1]?=some (.cells #[.I 0,.I 0] 104 (0,0))):=fun w' hb=>(hb.block _ (by omega)).trans (by
  rw[hW];have:=zah (w:=w.alloc (.cells #[.I x.kind,.I x.size,.I x.links,.I x.m0,.I x.m1,.I x.m2,.I x.m3,.I x.m4,.I x.m5,.I x.m6,.I x.m7,.I i] 95)) (o:=.cells #[.I 0,.I 0] 104) rfl;rw[World.size_alloc]at this
  exact this)
 have BW:Hid (zB w W):=by rw[hW];exact(zR.alloc zL _).alloc (by simp) _
 clear hzW hi;go_enter Tryz.func85,Tryz.ntmps85;go_wp2_with fail;rw[<- hW];clear hW x11;refine(LU.o _).mono ?_;rintro e w1 ⟨rfl,hb1⟩;obtain⟨p0,p1,f0,f1⟩:=zac (CR.o _ hb1);have B1:=zaa (zab BW.o hb1 BW.o.size);clear hb1 CR;go_wp2;refine bodyPost_ret (v:=.agg #[.I (48+12*i+1),.I sz]) (by simp[results,Tryz.results85,go_sem,p0,p1]) rfl ⟨rfl,?_⟩
 repeat (first | with_reducible exact B1.o | refine Below.setCell ?_ (by simp only;omega) _)
theorem zpm(x:Ino)(i:Int)(page z:Int)(w:World)(hi:0<=i/\i<16)(hp:0<=page/\page<8) :
  zC 87 #[.agg #[.I x.kind,.I x.size,.I x.links,.I x.m0,.I x.m1,.I x.m2,.I x.m3,.I x.m4,.I x.m5,.I x.m6,.I x.m7,.I i],.I page,.I z] w fun e w'=>e=.returned (.agg #[.I (48+12*i+(3+page)),.I z])/\zB w w':=by
 have LU:=zaa (fun w1=>zhh i (3+page) z w1 hi (by omega))
 obtain⟨W,hW⟩:=zE ((w.alloc (.cells #[.I x.kind,.I x.size,.I x.links,.I x.m0,.I x.m1,.I x.m2,.I x.m3,.I x.m4,.I x.m5,.I x.m6,.I x.m7,.I i] 95)).alloc (.cells #[.I 0,.I 0] 104))
 have hzW:W.heap.size=w.heap.size+1+1:=by rw[hW];simp
 have x11:((w.alloc (.cells #[.I x.kind,.I x.size,.I x.links,.I x.m0,.I x.m1,.I x.m2,.I x.m3,.I x.m4,.I x.m5,.I x.m6,.I x.m7,.I i] 95)).alloc (.cells #[.I 0,.I 0] 104)).cell? ⟨w.heap.size,11,none⟩=some (.I i):=(zak (xs:=x.fa i) (zal (zah rfl)) 11).1
 have CR:Hid (∀ w',zB W w'->w'.heap[w.heap.size+1]?=some (.cells #[.I 0,.I 0] 104 (0,0))):=fun w' hb=>(hb.block _ (by omega)).trans (by
  rw[hW];have:=zah (w:=w.alloc (.cells #[.I x.kind,.I x.size,.I x.links,.I x.m0,.I x.m1,.I x.m2,.I x.m3,.I x.m4,.I x.m5,.I x.m6,.I x.m7,.I i] 95)) (o:=.cells #[.I 0,.I 0] 104) rfl;rw[World.size_alloc]at this
  exact this)
 have BW:Hid (zB w W):=by rw[hW];exact(zR.alloc zL _).alloc (by simp) _
 have wp3:IntKind.i64.wrap (3+page)=3+page:=by rw[IntKind.wrap_i64];omega
 clear hzW hi;go_enter Tryz.func87,Tryz.ntmps87;go_wp2_with fail;rw[<- hW];clear hW x11;refine(LU.o _).mono ?_;rintro e w1 ⟨rfl,hb1⟩;obtain⟨p0,p1,f0,f1⟩:=zac (CR.o _ hb1);have B1:=zaa (zab BW.o hb1 BW.o.size);clear hb1 CR;go_wp2;refine bodyPost_ret (v:=.agg #[.I (48+12*i+(3+page)),.I z]) (by simp[results,Tryz.results87,go_sem,p0,p1]) rfl ⟨rfl,?_⟩
 repeat (first | with_reducible exact B1.o | refine Below.setCell ?_ (by simp only;omega) _)
theorem zpo(x:Ino)(i:Int)(n:Nat)(w:World)(hi:0<=i/\i<16)(hn:n<=8) :
  zC 40 #[.agg #[.I x.kind,.I x.size,.I x.links,.I x.m0,.I x.m1,.I x.m2,.I x.m3,.I x.m4,.I x.m5,.I x.m6,.I x.m7,.I i,.I (n:Int)]] w fun r w'=>∃ v',r=.returned v'/\Row w' 104 2 w.heap.size w'.heap.size v' (cuU x.map i n 8).length (ses (cuU x.map i n 8))/\zB w w':=by
 have LP:=zaa (fun(m:Nat) (hm:m<8) w1=>zpm x i (m:Int) 0 w1 hi (by omega));have LS:=zaa (fun w1=>zpf x i (n:Int) w1 hi)
 obtain⟨W,hW⟩:=zE (w.alloc (.cells #[.I x.kind,.I x.size,.I x.links,.I x.m0,.I x.m1,.I x.m2,.I x.m3,.I x.m4,.I x.m5,.I x.m6,.I x.m7,.I i,.I (n:Int)] 101))
 have CA:Hid (∀ w',zB W w'->w'.cell? ⟨w.heap.size,0,none⟩=some (.I x.kind)/\w'.cell? ⟨w.heap.size,1,none⟩=some (.I x.size)/\w'.cell? ⟨w.heap.size,2,none⟩=some (.I x.links)/\w'.cell? ⟨w.heap.size,3,none⟩=some (.I x.m0)/\w'.cell? ⟨w.heap.size,4,none⟩=some (.I x.m1)/\w'.cell? ⟨w.heap.size,5,none⟩=some (.I x.m2)/\w'.cell? ⟨w.heap.size,6,none⟩=some (.I x.m3)/\w'.cell? ⟨w.heap.size,7,none⟩=some (.I x.m4)/\w'.cell? ⟨w.heap.size,8,none⟩=some (.I x.m5)/\w'.cell? ⟨w.heap.size,9,none⟩=some (.I x.m6)/\w'.cell? ⟨w.heap.size,10,none⟩=some (.I x.m7)/\w'.cell? ⟨w.heap.size,11,none⟩=some (.I i)/\w'.cell? ⟨w.heap.size,12,none⟩=some (.I (n:Int))):=fun w' hb=>by
  have q:w'.heap[w.heap.size]?=some (.cells ([.I x.kind,.I x.size,.I x.links,.I x.m0,.I x.m1,.I x.m2,.I x.m3,.I x.m4,.I x.m5,.I x.m6,.I x.m7,.I i,.I (n:Int)]:List Value).toArray 101 (0,0)):=(hb.block _ (by rw[hW];simp)).trans (by rw[hW];exact zah rfl);exact⟨(zak q 0).1,(zak q 1).1,(zak q 2).1,(zak q 3).1,(zak q 4).1,(zak q 5).1,(zak q 6).1,(zak q 7).1,(zak q 8).1,(zak q 9).1,(zak q 10).1,(zak q 11).1,(zak q 12).1⟩
 have CM:Hid (∀ w',zB W w'->∀ m,m<8->w'.cell? ⟨w.heap.size,3+m,none⟩=some (.I (x.map.getD m 0))):=fun w' hb m hm=>by
  have q:w'.heap[w.heap.size]?=some (.cells ([.I x.kind,.I x.size,.I x.links,.I x.m0,.I x.m1,.I x.m2,.I x.m3,.I x.m4,.I x.m5,.I x.m6,.I x.m7,.I i,.I (n:Int)]:List Value).toArray 101 (0,0)):=(hb.block _ (by rw[hW];simp)).trans (by rw[hW];exact zah rfl);refine(zak q (3+m)).1.trans ?_
  rcases(show m=0\/m=1\/m=2\/m=3\/m=4\/m=5\/m=6\/m=7 by omega)with rfl|rfl|rfl|rfl|rfl|rfl|rfl|rfl<;>rfl
 have BW:Hid (zB w W):=by rw[hW];exact zR.alloc zL _
 obtain⟨k0,k1,k2,k3,k4,k5,k6,k7,k8,k9,k10,k11,k12⟩:=CA.o _ zR;rw[hW]at k0 k1 k2 k3 k4 k5 k6 k7 k8 k9 k10 k11 k12;clear hi;go_enter Tryz.func40,Tryz.ntmps40;go_wp2_with fail;rw[<- hW];clear hW k0 k1 k2 k3 k4 k5 k6 k7 k8 k9 k10 k11 k12;refine(LS.o _).mono ?_;rintro r w1 ⟨rfl,hb1⟩
 have ST:Hid (UpI W (w1.alloc (.cells #[.I (48+12*i+1),.I (n:Int)] 104)) (.slice (some ⟨w1.heap.size,0,none⟩) 1 1) (cuU x.map i n n)):=by
  unfold Hid cuU;rw[zvc];exact⟨World.ownsRow_lit w1 _ 1 hb1.size (by simp[maxLen]) rfl,hb1.alloc hb1.size _⟩
 clear hb1 LS;have k12:=(CA.o _ ST.o.b).2.2.2.2.2.2.2.2.2.2.2.2;go_wp2_with fail;clear k12
 go_loopw [3,4] (fun vL k wr=>∃ m:Nat,n<=m/\m<=8/\k=.I (m:Int)/\Hid (UpI W wr vL (cuU x.map i n m))) (fun _ k _=>8-(intOf k).toNat)
 case atStart=>exact⟨n,Nat.le_refl _,hn,rfl,ST⟩
 case round =>
  obtain⟨m,hm,hm8,rfl,J⟩:=hrel;clear ST;have JW:=zaa (zab BW.o J.o.b BW.o.size)
  have m0:(0:Int)<=(m:Int):=by omega
  by_cases hlt:m<8
  ·have m1:(m:Int)<8:=by omega
   have e0:=CM.o wr J.o.b m hlt;have YES:=zaa (fun e=>yaiq (zs:=x.map) (i:=i) (n:=n) (k:=m) hm e);have NO:=zaa (fun e=>yapb (zs:=x.map) (i:=i) (n:=n) (k:=m) e);have LP2:=zaa (LP.o m hlt)
   have hlen:(cuU x.map i n m).length<=9:=by
    have:=zrp x.map i n m
    show(cuT x.map i n m).length+1<=9
    omega
   generalize x.map.getD m 0=z at e0 YES NO
   by_cases q:z=0
   ·have q':(z == 0)=true:=by rw[q];rfl
    have G:Hid (UpI W wr u3 (cuU x.map i n (m+1))):=by
     unfold Hid cuU;rw[NO.o q];exact J.o
    clear q J YES NO;go_wp2_with fail;refine(zeu _ _).mono ?_;rintro r w' ⟨rfl,hw'⟩;subst w';go_wp2
    go_roundw
    case rel=>exact⟨m+1,by omega,by omega,by go_num,G⟩
    case measure=>simp[intOf];omega
   ·have q':(z == 0)=false:=by rw[beq_eq_false_iff_ne];exact q
    obtain⟨k0,k1,k2,k3,k4,k5,k6,k7,k8,k9,k10,k11,k12⟩:=CA.o _ J.o.b
    have MN:Hid (cuU x.map i n (m+1)=cuU x.map i n m++[⟨48+12*i+(3+(m:Int)),0⟩]):=by
     unfold Hid cuU;rw[YES.o q];rfl
    clear q YES NO;go_wp2_with fail;refine(zeu _ _).mono ?_;rintro r w' ⟨rfl,hw'⟩;subst w';go_wp2_with fail;refine(LP2.o _).mono ?_;rintro r w2 ⟨rfl,hb2⟩;have JB:Hid (UpI W (w2.alloc (.cells #[.I (48+12*i+(3+(m:Int))),.I 0] 104)) u3 (cuU x.map i n m)):=(J.o.below hb2).below (zR.alloc zL _);have RB:=zaa (zig w2 (48+12*i+(3+(m:Int))) 0);have hzb:=JB.o.z;clear hb2 J k0 k1 k2 k3 k4 k5 k6 k7 k8 k9 k10 k11 k12 e0;go_wp2_with (at_builtin;refine zae _ rfl (.tmp 25) (.tmp 30) 58 rfl W.heap.size 104 (.agg #[.I 0,.I 0]) 2 16 Tryz.underlying58 zkb rfl (by decide) _ _ _ rfl JB.o.l _ 1 _ rfl RB.o (zev _) (by first | omega | (simp[maxLen];omega)) (by first | omega | (simp;omega)) hzb ?_);intro vN wN hownN hgrN;have G:=zaa (JB.o.grow [⟨48+12*i+(3+(m:Int)),0⟩] hownN hgrN);rw[<- MN.o]at G;clear hownN hgrN JB RB;go_wp2
    go_roundw
    case rel=>exact⟨m+1,by omega,by omega,by go_num,G⟩
    case measure=>simp[intOf];omega
  ·obtain rfl:m=8:=by omega
   obtain⟨-,aN,cN,hvN,-⟩:=(zad J.o.l).rd;subst hvN;go_wp2;go_ret;exact⟨_,rfl,(zad J.o.l).wide BW.o.size zL,JW.o⟩
theorem yaqx{ns:List Ino}{ds:List Den}{s:ByteArray}{size:Int}:cuR ns ds s size=if (flR ns ds s).2=0 then cuF ns (flR ns ds s).1 size else([],(flR ns ds s).2):=by
 unfold cuR flR
 by_cases c:65536<s.size
 ·rw[if_pos c,if_pos c];rfl
 ·rw[if_neg c,if_neg c]
  by_cases d:zcr ns ds=true
  ·rw[if_pos d,if_pos d];rfl
  ·rw[if_neg d,if_neg d];rfl
theorem znr(v:Value)(ns:List Ino)(ds:List Den)(s:ByteArray)(size:Int)(w:World)(h:RdIm w v ns ds)(hw:ns.length<=1048576)(hp:ds.length<=1048576)(hT:TS w)(hE:ED w)(hF:FD w)(hr:∀ k (h:k<ns.length),ns[k].R)(hs:∀ k (h:k<ds.length),ds[k].name.size<=maxLen) :
  zC 16 #[v,.string s,.I size] w fun e w'=>zhy w w' e (cuR ns ds s size):=by
 have LF:=zaa (fun w1 (hb:zB w w1)=>zln v ns ds s w1 (h.below hb) hw hp (hT.below hb) (hE.below hb) (hF.below hb) hr hs);have EL:=zaa (yaqx (ns:=ns) (ds:=ds) (s:=s) (size:=size))
 have FL:Hid ((flR ns ds s).2=0->∃ i:Nat,i<16/\(flR ns ds s).1=(i:Int)):=fun c=>by
  obtain⟨hi,-,e⟩:=yaax c;rw[e]at c ⊢;obtain⟨i,h16,ei,-⟩:=zfh (zbi.1 hi) c;exact⟨i,h16,ei⟩
 have EF:Hid (∀ i:Nat,∀ x,x=zam ns i->cuF ns (i:Int) size=if 0<=size/\size<=8 then(cuU x.map (i:Int) size.toNat 8,0) else([],4)):=fun i x e=>by rw[e];rfl
 obtain⟨vW,vP,rfl,h1,h2⟩:=h;obtain⟨aW,cW,rfl,_,_⟩:=h1.shape;obtain⟨aP,cP,rfl,_,_⟩:=h2.shape;clear h1 h2 hr hs hT hE hF
 obtain⟨W,hW⟩:=zE (w.alloc (.cells #[.slice aW ns.length cW,.slice aP ds.length cP] 51))
 obtain⟨x0,x1,_,_⟩:=zac (zah (w:=w) (o:=.cells #[.slice aW ns.length cW,.slice aP ds.length cP] 51) rfl)
 have BW:Hid (zB w W):=by rw[hW];exact zR.alloc zL _
 generalize cuR ns ds s size=res at *;generalize flR ns ds s=lr at *;obtain⟨li,lc⟩:=lr
 obtain⟨x,hx⟩:=zE (faI ns (li,lc))
 have LF2:=zaa (fun w1 hb=>LF.o w1 hb x hx);have HX:=zaa hx;simp only at EL FL LF2;clear LF hx;go_enter Tryz.func16,Tryz.ntmps16;go_wp2_with fail;rw[<- hW];clear hW x0 x1;refine(LF2.o _ BW.o).mono ?_;rintro e w2 ⟨rfl,hb2⟩;have B2:=zaa (zab BW.o hb2 BW.o.size);clear hb2 LF2;have BX:=zaa (B2.o.alloc B2.o.size (.cells #[.I x.kind,.I x.size,.I x.links,.I x.m0,.I x.m1,.I x.m2,.I x.m3,.I x.m4,.I x.m5,.I x.m6,.I x.m7,.I li] 95))
 by_cases c:lc=0
 case neg =>
  rw[if_neg c]at EL;obtain rfl:=EL.o
  have q:(lc != 0)=true:=by rw[bne_iff_ne];exact c
  clear EL c FL EF HX;go_wp2;go_ret2;exact yapf BX.o
 subst c;rw[if_pos rfl]at EL;obtain⟨i,i16,ei⟩:=FL.o rfl;subst ei;have hx:x=zam ns i:=HX.o.trans ((if_pos rfl).trans (by simp only[Int.toNat_natCast]));rw[EF.o i x hx]at EL;clear FL EF HX hx;have VX:Hid ((w2.alloc (.cells #[.I x.kind,.I x.size,.I x.links,.I x.m0,.I x.m1,.I x.m2,.I x.m3,.I x.m4,.I x.m5,.I x.m6,.I x.m7,.I (i:Int)] 95)).heap[w2.heap.size]?=some (.cells (x.fa (i:Int)).toArray 95 (0,0))):=zah rfl
 obtain⟨w3,hw3⟩:=zE (w2.alloc (.cells #[.I x.kind,.I x.size,.I x.links,.I x.m0,.I x.m1,.I x.m2,.I x.m3,.I x.m4,.I x.m5,.I x.m6,.I x.m7,.I (i:Int)] 95))
 rw[<- hw3]at VX BX
 by_cases c:0<=size/\size<=8
 case neg =>
  rw[if_neg c]at EL;obtain rfl:=EL.o;clear EL VX;go_wp2_with fail;rw[<- hw3];refine(zdm _ _ _ (by omega)).mono ?_;rintro e w' ⟨rfl,hw'⟩;subst w';clear hw3;go_wp2;go_ret2;exact yapf BX.o
 rw[if_pos c]at EL
 obtain⟨n,rfl⟩:∃ n:Nat,size=(n:Int):=⟨size.toNat,by omega⟩
 rw[Int.toNat_natCast]at EL;have LC:=zaa (fun w1=>zpo x (i:Int) n w1 (by omega) (by omega))
 have KE:w3.cell? ⟨w2.heap.size,0,none⟩=some (.I x.kind)/\w3.cell? ⟨w2.heap.size,1,none⟩=some (.I x.size)/\w3.cell? ⟨w2.heap.size,2,none⟩=some (.I x.links)/\w3.cell? ⟨w2.heap.size,3,none⟩=some (.I x.m0)/\w3.cell? ⟨w2.heap.size,4,none⟩=some (.I x.m1)/\w3.cell? ⟨w2.heap.size,5,none⟩=some (.I x.m2)/\w3.cell? ⟨w2.heap.size,6,none⟩=some (.I x.m3)/\w3.cell? ⟨w2.heap.size,7,none⟩=some (.I x.m4)/\w3.cell? ⟨w2.heap.size,8,none⟩=some (.I x.m5)/\w3.cell? ⟨w2.heap.size,9,none⟩=some (.I x.m6)/\w3.cell? ⟨w2.heap.size,10,none⟩=some (.I x.m7)/\w3.cell? ⟨w2.heap.size,11,none⟩=some (.I (i:Int)):=⟨(zak VX.o 0).1,(zak VX.o 1).1,(zak VX.o 2).1,(zak VX.o 3).1,(zak VX.o 4).1,(zak VX.o 5).1,(zak VX.o 6).1,(zak VX.o 7).1,(zak VX.o 8).1,(zak VX.o 9).1,(zak VX.o 10).1,(zak VX.o 11).1⟩
 obtain⟨k0,k1,k2,k3,k4,k5,k6,k7,k8,k9,k10,k11⟩:=KE;go_wp2_with fail;rw[<- hw3];refine(zbw _ _ _ (by omega)).mono ?_;rintro e w' ⟨rfl,hw'⟩;subst w';clear hw3 c VX;go_wp2_with fail;refine(LC.o _).mono ?_;rintro e w4 ⟨v4,rfl,hr4,hb4⟩;have B4:=zaa (zab BX.o hb4 BX.o.size);have R4:=zaa (hr4.wide (lo':=w.heap.size) (hi':=w4.heap.size) BX.o.size zL);obtain⟨-,a4,c4,hv4,-⟩:=hr4.rd;subst hv4;clear hr4 hb4 k0 k1 k2 k3 k4 k5 k6 k7 k8 k9 k10 k11;obtain rfl:=EL.o;go_wp2;go_ret2;exact⟨_,rfl,R4.o,B4.o⟩
def putA(w:World)(b:Nat)(x y z:Value):World:=(((w.setCell ⟨b,0,none⟩ x).setCell ⟨b,1,none⟩ y).setCell ⟨b,2,none⟩ z)
theorem zzt(w:World)(b:Nat)(x y z:Value):Outside b (b+1) w (putA w b x y z):=by
 unfold putA
 repeat (refine Outside.setCell ?_ (by simp only;omega) (by simp only;omega) _)
 exact Outside.refl _ _ _
theorem yaru(w:World)(a:Option Addr)(c:Nat)(h:a=none->c=0):RdM w (.slice a 0 c) []:=⟨rfl,_,_,rfl,⟨Nat.zero_le _,h⟩,fun h=>absurd h (by simp)⟩
theorem yadp(w:World)(b:Nat):RdT w (.slice (some ⟨b,0,none⟩) 0 0) []:=⟨rfl,_,_,rfl,⟨Nat.le_refl _,fun e=>by cases e⟩,fun h=>absurd h (by simp)⟩
theorem zxk(v:Value)(ws es hs:List Int)(cd vl:Int)(nm:List ByteArray)(w:World)(h:RdFs w v ws es hs [] cd vl nm true)(h1:3<=ws.length)(h2:3<=es.length)(hh:3<=hs.length) :
  zC 102 #[v] w fun e w'=>∃ v' a n c,e=.returned (.tuple #[v',.agg #[.I cd,.I vl,.slice a n c],.I 0])/\RdFs w' v' ws es hs [] 0 0 [] false/\zB w w':=by
 have H1:=zaa h1;have H2:=zaa h2;have HH:=zaa hh;obtain⟨aW,cW,aP,cP,aS,cS,aQ,cQ,aH,cH,aT,cT,aN,cN,rfl,a,b,c,d⟩:=h;have RD:=zaa a;have RH:=zaa b;have RT:=zaa c;clear a b c d h1 h2 hh;rw[show([]:List Mi).length=0 from rfl]at RT ⊢
 obtain⟨V,hV⟩:=zE (((w.alloc (.cells #[.slice aW ws.length cW,.slice aP 0 cP,.slice aS es.length cS,.slice aQ 0 cQ,.slice aH hs.length cH,.slice aT 0 cT,.I cd,.I vl,.slice aN nm.length cN,.bool true] 37)).alloc (.cells zdz.toArray 37)).alloc (.cells #[.I 0,.I 0,.N] 35))
 have HZ:Hid (V.heap.size=w.heap.size+1+1+1):=by rw[hV];simp[Hid]
 have BV:Hid (zB w V):=by rw[hV];exact((zR.alloc zL _).alloc (by simp) _).alloc (by simp<;>omega) _
 have XV:Hid (V.heap[w.heap.size]?=some (.cells #[.slice aW ws.length cW,.slice aP 0 cP,.slice aS es.length cS,.slice aQ 0 cQ,.slice aH hs.length cH,.slice aT 0 cT,.I cd,.I vl,.slice aN nm.length cN,.bool true] 37 (0,0))):=by rw[hV];exact zal (zal (zah rfl))
 have YV:Hid (V.heap[w.heap.size+1]?=some (.cells zdz.toArray 37 (0,0))):=by rw[hV];exact zal (zah (by simp))
 have ZV:Hid (V.heap[w.heap.size+1+1]?=some (.cells #[.I 0,.I 0,.N] 35 (0,0))):=by rw[hV];exact zah (by simp)
 unfold zdz at hV;go_enter Tryz.func102,Tryz.ntmps102;go_upto_region 1 with fail;rw[<- hV];clear hV
 obtain⟨V2,hV2⟩:=zE ((V.alloc (.cells #[] 9)).alloc (.cells #[.I 0,.I 0,.slice (some ⟨V.heap.size,0,none⟩) 0 0] 35))
 have B2:Hid (zB V V2):=by rw[hV2];exact(zR.alloc zL _).alloc (by simp) _
 have N2:Hid (V2.heap[V.heap.size+1]?=some (.cells #[.I 0,.I 0,.slice (some ⟨V.heap.size,0,none⟩) 0 0] 35 (0,0))):=by rw[hV2];exact zah (by simp)
 have Z2:Hid (V2.heap.size=V.heap.size+1+1):=by rw[hV2];simp[Hid]
 have X2:=zaa ((B2.o.block _ (by have q1:=HZ.o;have q2:=Z2.o;omega)).trans XV.o);go_upto_region 2 with fail;rw[<- hV2];clear hV2;obtain⟨x0,x1,x2,x3,x4,x5,x6,x7,x8,x9,-⟩:=zaj X2.o
 obtain⟨V3,hV3⟩:=zE (V2.alloc (.cells #[.I cd,.I vl,.slice aN nm.length cN] 35))
 have B3:Hid (zB V2 V3):=by rw[hV3];exact zR.alloc zL _
 have A3:Hid (V3.heap[V2.heap.size]?=some (.cells #[.I cd,.I vl,.slice aN nm.length cN] 35 (0,0))):=by rw[hV3];exact zah rfl
 have Z3:Hid (V3.heap.size=V2.heap.size+1):=by rw[hV3];simp[Hid]
 have X3:=zaa ((B3.o.block _ (by have q1:=HZ.o;have q2:=Z2.o;have q3:=Z3.o;omega)).trans X2.o);have N3:=zaa ((B3.o.block _ (by have q1:=HZ.o;have q2:=Z2.o;have q3:=Z3.o;omega)).trans N2.o);have BB3:=zaa (zab B2.o B3.o (by have q1:=HZ.o;have q2:=Z2.o;have q3:=Z3.o;omega));go_upto_region 7 with fail;rw[<- hV3];clear hV3 x0 x1 x2 x3 x4 x5 x6 x7 x8 x9 N2 X2 XV;obtain⟨x0,x1,x2,x3,x4,x5,x6,x7,x8,x9,g0,g1,g2,g3,g4,g5,g6,g7,g8,g9⟩:=zaj X3.o;obtain⟨n0,n1,n2,-,-,-⟩:=tri3 N3.o
 obtain⟨V4,hV4⟩:=zE ((((V3.setCell ⟨w.heap.size,6,none⟩ (.I 0)).setCell ⟨w.heap.size,7,none⟩ (.I 0)).setCell ⟨w.heap.size,8,none⟩ (.slice (some ⟨V.heap.size,0,none⟩) 0 0)).setCell ⟨w.heap.size,9,none⟩ (.bool false))
 have X4:Hid (V4.heap[w.heap.size]?=some (.cells #[.slice aW ws.length cW,.slice aP 0 cP,.slice aS es.length cS,.slice aQ 0 cQ,.slice aH hs.length cH,.slice aT 0 cT,.I 0,.I 0,.slice (some ⟨V.heap.size,0,none⟩) 0 0,.bool false] 37 (0,0))):=by rw[hV4];exact zmn (zkj (zmb (zmf X3.o _) _) _) _
 have O4:Hid (Outside w.heap.size (w.heap.size+1) V3 V4):=by
  rw[hV4];unfold Hid
  repeat (refine Outside.setCell ?_ (by simp only;omega) (by simp only;omega) _)
  exact Outside.refl _ _ _
 have S4:=zaa (Soft.outside O4.o X3.o rfl)
 have Z5:Hid (V3.heap.size=V4.heap.size):=by rw[hV4];simp[World.setCell,Hid]
 have A4:=zaa ((O4.o.block _ (by have q1:=HZ.o;have q2:=Z2.o;have q3:=Z3.o;have q5:=Z5.o;omega) (by have q1:=HZ.o;have q2:=Z2.o;have q3:=Z3.o;have q5:=Z5.o;omega)).trans A3.o);have Y4:=zaa ((O4.o.block (w.heap.size+1) (by have q1:=HZ.o;have q2:=Z2.o;have q3:=Z3.o;have q5:=Z5.o;omega) (by have q1:=HZ.o;have q2:=Z2.o;have q3:=Z3.o;have q5:=Z5.o;omega)).trans ((BB3.o.block _ (by have q1:=HZ.o;have q2:=Z2.o;have q3:=Z3.o;have q5:=Z5.o;omega)).trans YV.o));have Z4:=zaa ((O4.o.block (w.heap.size+1+1) (by have q1:=HZ.o;have q2:=Z2.o;have q3:=Z3.o;have q5:=Z5.o;omega) (by have q1:=HZ.o;have q2:=Z2.o;have q3:=Z3.o;have q5:=Z5.o;omega)).trans ((BB3.o.block _ (by have q1:=HZ.o;have q2:=Z2.o;have q3:=Z3.o;have q5:=Z5.o;omega)).trans ZV.o));have B4:=zaa ((zab BV.o BB3.o (by have q1:=HZ.o;have q2:=Z2.o;have q3:=Z3.o;have q5:=Z5.o;omega)).trans (O4.o.below (B:=w.heap.size) zL (by have q1:=HZ.o;have q2:=Z2.o;have q3:=Z3.o;have q5:=Z5.o;omega)));have SV:=zaa ((Soft.of_below BB3.o).trans S4.o);go_upto_region 9 with fail;rw[<- hV4];clear hV4 x0 x1 x2 x3 x4 x5 x6 x7 x8 x9 g0 g1 g2 g3 g4 g5 g6 g7 g8 g9 n0 n1 n2 X3 N3 A3 YV ZV;obtain⟨x0,x1,x2,x3,x4,x5,x6,x7,x8,x9,-⟩:=zaj X4.o;obtain⟨n0,n1,n2,-,-,-⟩:=tri3 A4.o;have Y4':V4.heap[w.heap.size+1]?=some (.cells #[.N,.N,.N,.N,.N,.N,.I 0,.I 0,.N,.bool false] 37 (0,0)):=Y4.o;obtain⟨y0,y1,y2,y3,y4,y5,y6,y7,y8,y9,g0,g1,g2,g3,g4,g5,g6,g7,g8,g9⟩:=zaj Y4';obtain⟨m0,m1,m2,k0,k1,k2⟩:=tri3 Z4.o;clear Y4'
 have eV:V2.heap.size=w.heap.size+1+1+1+1+1:=by rw[Z2.o,HZ.o]
 rw[eV]at n0 n1 n2 ⊢;have O5:=zaa (zbt V4 (w.heap.size+1) (.slice aW ws.length cW) (.slice aP 0 cP) (.slice aS es.length cS) (.slice aQ 0 cQ) (.slice aH hs.length cH) (.slice aT 0 cT) (.I 0) (.I 0) (.slice (some ⟨V.heap.size,0,none⟩) 0 0) (.bool false));have E5:=zaa (zqc V4 (w.heap.size+1) (.slice aW ws.length cW) (.slice aP 0 cP) (.slice aS es.length cS) (.slice aQ 0 cQ) (.slice aH hs.length cH) (.slice aT 0 cT) (.I 0) (.I 0) (.slice (some ⟨V.heap.size,0,none⟩) 0 0) (.bool false));have S5:=zaa (Soft.outside O5.o Y4.o rfl);have Z6:=zaa ((O5.o.block (w.heap.size+1+1) (by have q1:=HZ.o;have q2:=Z2.o;have q3:=Z3.o;have q5:=Z5.o;omega) (by omega)).trans Z4.o);have B5:=zaa (B4.o.trans (O5.o.below (B:=w.heap.size) (by omega) (by have q1:=HZ.o;have q2:=Z2.o;have q3:=Z3.o;have q5:=Z5.o;omega)))
 obtain⟨V5,hV5⟩:=zE (zge V4 (w.heap.size+1) (.slice aW ws.length cW) (.slice aP 0 cP) (.slice aS es.length cS) (.slice aQ 0 cQ) (.slice aH hs.length cH) (.slice aT 0 cT) (.I 0) (.I 0) (.slice (some ⟨V.heap.size,0,none⟩) 0 0) (.bool false))
 rw[<- hV5]at O5 S5 Z6 B5 E5;have O6:=zaa (zzt V5 (w.heap.size+1+1) (.I cd) (.I vl) (.slice aN nm.length cN));have S6:=zaa (((SV.o.trans S5.o).trans (Soft.outside O6.o Z6.o rfl)).drew);have B6:=zaa (B5.o.trans (O6.o.below (B:=w.heap.size) (by omega) (by have q6:=E5.o;have q1:=HZ.o;have q2:=Z2.o;have q3:=Z3.o;have q5:=Z5.o;omega))).drew
 have F6:Hid (RdFs (putA V5 (w.heap.size+1+1) (.I cd) (.I vl) (.slice aN nm.length cN)).drew (.agg #[.slice aW ws.length cW,.slice aP 0 cP,.slice aS es.length cS,.slice aQ 0 cQ,.slice aH hs.length cH,.slice aT 0 cT,.I 0,.I 0,.slice (some ⟨V.heap.size,0,none⟩) 0 0,.bool false]) ws es hs [] 0 0 [] false) :=
  ⟨aW,cW,aP,cP,aS,cS,aQ,cQ,aH,cH,aT,cT,_,_,rfl,(RD.o.below BV.o).soft S6.o H1.o H2.o,RdI.soft (Rd.below RH.o BV.o) S6.o HH.o,RdM.soft (Rd.below RT.o BV.o) S6.o,yadp _ _⟩
 unfold zge at hV5;clear O5 S5 Z6 B5 E5 O6 S6 SV S4 O4 X4 A4 Y4 Z4 B4 BB3 B3 B2 Z2 Z3 Z5 RD RH RT;go_wp2_with fail
 go_region
 all_goals
  go_wp2_with fail;rw[<- hV5];refine bodyPost_ret (v:=.tuple #[.agg #[.slice aW ws.length cW,.slice aP 0 cP,.slice aS es.length cS,.slice aQ 0 cQ,.slice aH hs.length cH,.slice aT 0 cT,.I 0,.I 0,.slice (some ⟨V.heap.size,0,none⟩) 0 0,.bool false],.agg #[.I cd,.I vl,.slice aN nm.length cN],.I 0]) (by simp[results,Tryz.results102,go_sem,hV5,y0,y1,y2,y3,y4,y5,y6,y7,y8,y9,m0,m1,m2]) rfl ?_;exact⟨_,_,_,_,rfl,F6.o,B6.o⟩
def opB(k:Int)(p t:ByteArray)(g x:Int):Bool:=decide ((1<=k/\k<=10)/\p.size<=65536/\t.size<=65536/\(k=4\/k=5\/t.size=0)/\(k=6\/x=0)/\((6<=k/\k<=8)\/g=0))
end Go.Proofs.YtogcbbkhnpmgeaaGreatDoor
