/- Several texts laid together: DtD, RdE. -/
import Derived.Test.YtehnphoeplmpdaaGreatDoorZBD
import Derived.Test.YtehnphoeplmpdaaGreatDoorZBB
import Derived.Test.YtehnphoeplmpdaaGreatDoorZAU
import Derived.Test.YtehnphoeplmpdaaGreatDoorZAG
import Derived.Deep.RegionWith
set_option maxRecDepth 100000
set_option maxHeartbeats 8000000
namespace Go.Proofs.YtehnphoeplmpdaaGreatDoor
open Go.RowKit
theorem zyq (vd v:Value) (ws:List Int) (ps:List St) (es:List Int) (qs:List Se) (ns:List Ino) (ds:List Den) (s:ByteArray) (page:Int) (w:World) (hd:RdDev w vd ws ps es qs) (hP:pmB ws ps=true) (hB:zin es qs=true) (h:RdIm w v ns ds) (hi:zay ns ds=true) (hs:s.size≤65536) :
  Calls Tryz.prog 80 #[vd,v,.string s,.int .i64 page] w fun e w'=>e=.returned (.tuple #[.int .i64 (rpI ws ps es qs ns ds s page).1,.int .i64 (rpI ws ps es qs ns ds s page).2])∧Below w.heap.size w w':=by
 have LV:=zaa (fun w1 (hb:Below w.heap.size w w1) z (hz:zfu z=true)=>zvx vd ws ps es qs z w1 (hd.below hb) hP hB hz);have LL:=zaa (fun w1 (hb:Below w.heap.size w w1)=>zjv v ns ds s w1 (h.below hb) hi hs);have EL:=zaa (show rpI ws ps es qs ns ds s page=if (flI ns ds s).2=0 then rpF ws ps es qs ns (flI ns ds s).1 page else (0,(flI ns ds s).2) from rfl);have LO:=zaa (fun c=>zlh (s:=s) (zca.1 hi) c);have EF:=zaa (fun i=>show rpF ws ps es qs ns i page=if 0≤page∧page < zff ns i then (pgV ws ps es qs (zop ns i page),0) else (0,4) from rfl)
 have SZ:Hid (∀ i:Nat,i < 16→0≤zff ns (i:Int)∧zff ns (i:Int)≤8):=fun i hk=>(zft ((zca.1 hi).ok i hk)).2.1
 have TI:Hid (∀ i:Nat,i < 16→∀ j:Nat,j < 8→zfu (zop ns (i:Int) (j:Int))=true):=fun i hk j hj=>by
  refine (zig ((zca.1 hi).ok i hk)).1 _ ?_
  show (zci ns i).map.getD j 0∈_
  rw[List.getD_eq_getElem?_getD,List.getElem?_eq_getElem (show j < (zci ns i).map.length from hj)];exact List.getElem_mem _
 obtain ⟨l16,l24,_⟩:=zao hi;have L16:=zaa l16;obtain ⟨dW,eW,dP,eP,dS,eS,dQ,eQ,rfl,-,-⟩:=hd.form;obtain ⟨vW,vP,rfl,h1,h2⟩:=h;obtain ⟨aW,cW,rfl,_,hcW⟩:=h1.shape;obtain ⟨aP,cP,rfl,_,hcP⟩:=h2.shape;obtain ⟨bW,oW,rfl,hblW,hcellW⟩:=hcW (by omega)
 have HM:Hid (∀ k,k < 16→∀ w',Below w.heap.size w w'→w'.cell? ⟨bW,oW+k*11+1,none⟩=some (.int .i64 (zff ns (k:Int)))∧∀ j,j < 8→w'.cell? ⟨bW,oW+k*11+3+j,none⟩=some (.int .i64 (zop ns (k:Int) (j:Int)))):=fun k hk w' hb=>by
  unfold zff zop;rw[Int.toNat_natCast,zcn (by omega:k < ns.length)];obtain ⟨a0,a1,a2,a3,a4,a5,a6,a7,a8,a9,a10⟩:=hcellW k (by omega);refine ⟨(hb.cell (p:=⟨bW,oW+k*11+1,none⟩) hblW).trans a1,fun j hj=>?_⟩;rw[Int.toNat_natCast]
  rcases (show j=0∨j=1∨j=2∨j=3∨j=4∨j=5∨j=6∨j=7 by omega) with rfl | rfl | rfl | rfl | rfl | rfl | rfl | rfl
  ·exact (hb.cell (p:=⟨bW,oW+k*11+3,none⟩) hblW).trans a3
  ·exact (hb.cell (p:=⟨bW,oW+k*11+4,none⟩) hblW).trans a4
  ·exact (hb.cell (p:=⟨bW,oW+k*11+5,none⟩) hblW).trans a5
  ·exact (hb.cell (p:=⟨bW,oW+k*11+6,none⟩) hblW).trans a6
  ·exact (hb.cell (p:=⟨bW,oW+k*11+7,none⟩) hblW).trans a7
  ·exact (hb.cell (p:=⟨bW,oW+k*11+8,none⟩) hblW).trans a8
  ·exact (hb.cell (p:=⟨bW,oW+k*11+9,none⟩) hblW).trans a9
  ·exact (hb.cell (p:=⟨bW,oW+k*11+10,none⟩) hblW).trans a10
 clear h1 h2 hi hs hcW hcP hcellW l16 l24 hd hP hB
 obtain ⟨W,hW⟩:∃ W,W=(w.alloc (.cells #[.slice dW ws.length eW,.slice dP ps.length eP,.slice dS es.length eS,.slice dQ qs.length eQ] 48)).alloc (.cells #[.slice (some ⟨bW,oW,none⟩) ns.length cW,.slice aP ds.length cP] 79):=⟨_,rfl⟩
 have hzW:W.heap.size=w.heap.size+1+1:=by rw[hW];simp
 have CD:Hid (∀ w',Below W.heap.size W w'→w'.cell? ⟨w.heap.size,0,none⟩=some (.slice dW ws.length eW)∧w'.cell? ⟨w.heap.size,1,none⟩=some (.slice dP ps.length eP)∧w'.cell? ⟨w.heap.size,2,none⟩=some (.slice dS es.length eS)∧w'.cell? ⟨w.heap.size,3,none⟩=some (.slice dQ qs.length eQ)):=fun w' hb=>by
  have:w'.heap[w.heap.size]?=some (.cells #[.slice dW ws.length eW,.slice dP ps.length eP,.slice dS es.length eS,.slice dQ qs.length eQ] 48 (0,0)):=(hb.block _ (by omega)).trans (by rw[hW];exact zat (zah rfl));obtain ⟨x0,x1,x2,x3,-,-,-,-⟩:=zax this;exact ⟨x0,x1,x2,x3⟩
 have CA:Hid (∀ w',Below W.heap.size W w'→w'.cell? ⟨w.heap.size+1,0,none⟩=some (.slice (some ⟨bW,oW,none⟩) ns.length cW)∧w'.cell? ⟨w.heap.size+1,1,none⟩=some (.slice aP ds.length cP)):=fun w' hb=>by
  have:w'.heap[w.heap.size+1]?=some (.cells #[.slice (some ⟨bW,oW,none⟩) ns.length cW,.slice aP ds.length cP] 79 (0,0)):=(hb.block _ (by omega)).trans (by
   rw[hW];have:=zah (w:=w.alloc (.cells #[.slice dW ws.length eW,.slice dP ps.length eP,.slice dS es.length eS,.slice dQ qs.length eQ] 48)) (o:=.cells #[.slice (some ⟨bW,oW,none⟩) ns.length cW,.slice aP ds.length cP] 79) rfl;rw[World.size_alloc] at this
   exact this)
  exact ⟨(zac this).1,(zac this).2.1⟩
 have BW:Hid (Below w.heap.size w W):=by rw[hW];exact ((Below.refl _ _).alloc (Nat.le_refl _) _).alloc (by simp) _
 obtain ⟨x0,x1⟩:=CA.o _ (Below.refl _ _)
 have hz:w.heap.size+1 < W.heap.size:=by omega
 clear hzW;generalize rpI ws ps es qs ns ds s page=res at *;generalize flI ns ds s=lr at *;obtain ⟨li,lc⟩:=lr;simp only at EL LO LL;go_enter Tryz.func80,Tryz.ntmps80;go_wp2_with fail;rw[← hW];clear hW x0 x1;refine (LL.o _ BW.o).mono ?_;rintro e w1 ⟨rfl,hb1⟩;have A1:=zaa hb1;have B1:=zaa (zab BW.o A1.o BW.o.size);clear hb1 LL
 by_cases c:lc=0
 case neg =>
  rw[if_neg c] at EL;obtain rfl:=EL.o
  have q:(lc != 0)=true:=by rw[bne_iff_ne];exact c
  clear EL LO c;go_wp2;go_ret2;exact ⟨rfl,B1.o⟩
 subst c;rw[if_pos rfl] at EL;obtain ⟨i,i16,ei,-⟩:=LO.o rfl;subst ei;rw[EF.o] at EL;have HMi:=zaa (HM.o i i16);have TIi:=zaa (TI.o i i16);obtain ⟨z0,z8⟩:=SZ.o i i16
 have i1:i < ns.length:=by have:=L16.o;omega
 have i0:(0:Int)≤(i:Int):=by omega
 have il:(i:Int) < (ns.length:Int):=by omega
 clear HM EF LO L16 SZ TI;obtain ⟨x0,x1⟩:=CA.o _ A1.o;have y0:=(HMi.o _ B1.o).1;generalize zff ns (i:Int)=sz at *
 by_cases c:0≤page∧page < sz
 case neg =>
  rw[if_neg c] at EL;obtain rfl:=EL.o;clear EL;go_wp2_with fail;refine (zcg _ _ _ _ (by omega)).mono ?_;rintro e w' ⟨rfl,hw'⟩;subst w';go_wp2;go_ret2;exact ⟨rfl,B1.o⟩
 rw[if_pos c] at EL
 obtain ⟨j,rfl⟩:∃ j:Nat,page=(j:Int):=⟨page.toNat,by omega⟩
 have j8:j < 8:=by omega
 have te:=zaa (TIi.o j j8);have LV2:=zaa (fun w1 hb=>LV.o w1 hb _ te.o)
 have j0:(0:Int)≤(j:Int):=by omega
 have j1:(j:Int) < 8:=by omega
 have KE:Hid (∀ w',Below W.heap.size W w'→w'.cell? ⟨w.heap.size,0,none⟩=some (.slice dW ws.length eW)∧w'.cell? ⟨w.heap.size,1,none⟩=some (.slice dP ps.length eP)∧w'.cell? ⟨w.heap.size,2,none⟩=some (.slice dS es.length eS)∧w'.cell? ⟨w.heap.size,3,none⟩=some (.slice dQ qs.length eQ)∧w'.cell? ⟨w.heap.size+1,0,none⟩=some (.slice (some ⟨bW,oW,none⟩) ns.length cW)∧w'.cell? ⟨bW,oW+i*11+3+j,none⟩=some (.int .i64 (zop ns (i:Int) (j:Int)))):=fun w' hb =>
  ⟨(CD.o w' hb).1,(CD.o w' hb).2.1,(CD.o w' hb).2.2.1,(CD.o w' hb).2.2.2,(CA.o w' hb).1,(HMi.o w' (zab BW.o hb BW.o.size)).2 j j8⟩
 generalize zop ns (i:Int) (j:Int)=pz at *;go_wp2_with fail;refine (zar _ _ _ _ (by omega)).mono ?_;rintro e w' ⟨rfl,hw'⟩;subst w';clear c y0 HMi TIi te LV CD CA x0 x1;obtain ⟨x0,x1,x2,x3,x4,x5⟩:=KE.o _ A1.o;go_wp2_with fail
 go_region_held3 (fun w'=>w'.cell? ⟨w.heap.size,0,none⟩=some (.slice dW ws.length eW)∧w'.cell? ⟨w.heap.size,1,none⟩=some (.slice dP ps.length eP)∧w'.cell? ⟨w.heap.size,2,none⟩=some (.slice dS es.length eS)∧w'.cell? ⟨w.heap.size,3,none⟩=some (.slice dQ qs.length eQ)∧w'.cell? ⟨w.heap.size+1,0,none⟩=some (.slice (some ⟨bW,oW,none⟩) ns.length cW)∧w'.cell? ⟨bW,oW+i*11+3+j,none⟩=some (.int .i64 pz))
  (first | with_reducible exact KE.o _ A2.o | with_reducible exact KE.o _ A1.o | with_reducible exact KE.o _ A1.o.drew)
  (first
   | (go_at_call 144;refine (LV2.o _ (by first | with_reducible exact B1.o | with_reducible exact B1.o.drew)).mono ?_;rintro e w2 ⟨rfl,hb2⟩;have A2:=zaa (zab A1.o (zcu hb2) A1.o.size);have B2:=zaa (zab B1.o (zcu hb2) B1.o.size);clear hb2;obtain ⟨r0,r1,r2,r3,r4,r5⟩:=KE.o _ A2.o))
 all_goals
  obtain rfl:=EL.o;go_wp2;go_ret2;exact ⟨rfl,B2.o⟩
theorem zdk {ws:List Int} {ps:List St} {es:List Int} {qs:List Se} (h:dvB ws ps es qs=true):pmB ws ps=true∧zin es qs=true∧dvN ws ps es qs=zbk (zcj ws ps) 16∧dvD ws ps es qs=zbq (zcj ws ps) 24∧zay (zbk (zcj ws ps) 16) (zbq (zcj ws ps) 24)=true:=by
 have q:=h;unfold dvB at q;rw[Bool.and_eq_true,Bool.and_eq_true] at q;obtain ⟨⟨a,b⟩,r⟩:=q;unfold riB at r;rw[Bool.and_eq_true,Bool.and_eq_true] at r;exact ⟨a,b,by unfold dvN;rw[if_pos h],by unfold dvD;rw[if_pos h],r.2.2⟩
theorem zwk (a:Option Addr) (n cap:Nat) (hn:8≤n) (w:World):(Instr.arrayAt 131 (.slice a n cap)).run Tryz.prog w=.ok (.pointer a) w:=by
 have h:¬ n < 8:=by omega
 simp[Instr.arrayAt,run_underlying Tryz.underlying131,h,go_sem]
theorem ztv (b o n c:Nat) (x:Ino) (w:World) (hn:11≤n) (hc:n≤c) (hb:b < w.heap.size) (h:∀ j,j < 11→w.cell? ⟨b,o+j,none⟩=x.cs[j]?) :
  Calls Tryz.prog 160 #[.slice (some ⟨b,o,none⟩) n c] w fun e w'=>e=.returned x.v∧Below w.heap.size w w':=by
 have BW:=zaa ((Below.refl w.heap.size w).alloc (Nat.le_refl _) (.cells #[.int .i64 0,.int .i64 0,.int .i64 0,.int .i64 0,.int .i64 0,.int .i64 0,.int .i64 0,.int .i64 0,.int .i64 0,.int .i64 0,.int .i64 0] 133))
 have S:Hid (∀ w',Below w.heap.size w w'→w'.cell? ⟨b,o,none⟩=some (.int .i64 x.kind)∧w'.cell? ⟨b,o+1,none⟩=some (.int .i64 x.size)∧w'.cell? ⟨b,o+2,none⟩=some (.int .i64 x.links)∧w'.cell? ⟨b,o+3,none⟩=some (.int .i64 x.m0)∧w'.cell? ⟨b,o+3+1,none⟩=some (.int .i64 x.m1)∧w'.cell? ⟨b,o+3+2,none⟩=some (.int .i64 x.m2)∧w'.cell? ⟨b,o+3+3,none⟩=some (.int .i64 x.m3)∧w'.cell? ⟨b,o+3+4,none⟩=some (.int .i64 x.m4)∧w'.cell? ⟨b,o+3+5,none⟩=some (.int .i64 x.m5)∧w'.cell? ⟨b,o+3+6,none⟩=some (.int .i64 x.m6)∧w'.cell? ⟨b,o+3+7,none⟩=some (.int .i64 x.m7)):=fun w' hw' =>
  have g:=fun j (hj:j < 11)=>(hw'.cell (p:=⟨b,o+j,none⟩) hb).trans (h j hj)
  ⟨g 0 (by omega),g 1 (by omega),g 2 (by omega),g 3 (by omega),g 4 (by omega),g 5 (by omega),g 6 (by omega),g 7 (by omega),g 8 (by omega),g 9 (by omega),g 10 (by omega)⟩
 obtain ⟨s0,s1,s2,s3,s4,s5,s6,s7,s8,s9,s10⟩:=S.o _ BW.o
 have i0:(0:Int) < (n:Int):=by omega
 have i00:0 < n:=by omega
 have i1:(1:Int) < (n:Int):=by omega
 have i2:(2:Int) < (n:Int):=by omega
 have i3:(11:Int)≤(c:Int):=by omega
 have i4:¬ c=3:=by omega
 have i5:(3:Int)≤11:=by omega
 have har:=zwk (some ⟨b,o+3,none⟩) 8 (c - 3) (Nat.le_refl _);unfold Ino.v;clear h hn hc;go_enter Tryz.func160,Tryz.ntmps160;go_wp2_with fail
 go_region_held3 (fun w'=>w'.cell? ⟨b,o,none⟩=some (.int .i64 x.kind)∧w'.cell? ⟨b,o+1,none⟩=some (.int .i64 x.size)∧w'.cell? ⟨b,o+2,none⟩=some (.int .i64 x.links)∧w'.cell? ⟨b,o+3,none⟩=some (.int .i64 x.m0)∧w'.cell? ⟨b,o+3+1,none⟩=some (.int .i64 x.m1)∧w'.cell? ⟨b,o+3+2,none⟩=some (.int .i64 x.m2)∧w'.cell? ⟨b,o+3+3,none⟩=some (.int .i64 x.m3)∧w'.cell? ⟨b,o+3+4,none⟩=some (.int .i64 x.m4)∧w'.cell? ⟨b,o+3+5,none⟩=some (.int .i64 x.m5)∧w'.cell? ⟨b,o+3+6,none⟩=some (.int .i64 x.m6)∧w'.cell? ⟨b,o+3+7,none⟩=some (.int .i64 x.m7))
  (exact S.o _ (by repeat (first | with_reducible exact BW.o | with_reducible refine zan ?_ _ | with_reducible exact Below.refl _ _ | with_reducible refine Below.drew ?_)))
  (fail)
 all_goals
  go_wp2;refine bodyPost_ret (v:=.agg #[.int .i64 x.kind,.int .i64 x.size,.int .i64 x.links,.int .i64 x.m0,.int .i64 x.m1,.int .i64 x.m2,.int .i64 x.m3,.int .i64 x.m4,.int .i64 x.m5,.int .i64 x.m6,.int .i64 x.m7]) (by simp[results,Tryz.results160,go_sem]) rfl ⟨rfl,?_⟩
  repeat (first | with_reducible exact Below.refl _ _ | with_reducible refine zan ?_ _ | with_reducible refine Below.drew ?_)
def denZ (z0 z1 z2:Int):Den:=if z2=0 then ⟨0,⟨#[]⟩,-1⟩ else ⟨z0,zxk z1,z2 - 1⟩
def zol (z0 z1 z2:Int):Bool:=if z2=0 then z0 == 0 && z1 == 0 else zgk z1
theorem zqe (b o n c:Nat) (z0 z1 z2:Int) (w:World) (hn:3≤n) (_hc:n≤c) (hb:b < w.heap.size) (h0:w.cell? ⟨b,o,none⟩=some (.int .i64 z0)) (h1:w.cell? ⟨b,o+1,none⟩=some (.int .i64 z1)) (h2:w.cell? ⟨b,o+2,none⟩=some (.int .i64 z2)) (hF:FD w) (r1:z1≤9223372036854775807) (r2:0≤z2∧z2≤9223372036854775807) :
  Calls Tryz.prog 161 #[.slice (some ⟨b,o,none⟩) n c] w fun e w'=>(∃ s,e=.returned (.tuple #[.agg #[.int .i64 (denZ z0 z1 z2).dir,.string s,.int .i64 (denZ z0 z1 z2).child],.bool (zol z0 z1 z2)])∧(zol z0 z1 z2=true→s=(denZ z0 z1 z2).name))∧Below w.heap.size w w':=by
 have BW:=zaa ((Below.refl w.heap.size w).alloc (Nat.le_refl _) (.cells #[.int .i64 0,.string ⟨#[]⟩,.int .i64 0] 185))
 have S:Hid (∀ w',Below w.heap.size w w'→w'.cell? ⟨b,o,none⟩=some (.int .i64 z0)∧w'.cell? ⟨b,o+1,none⟩=some (.int .i64 z1)∧w'.cell? ⟨b,o+2,none⟩=some (.int .i64 z2)):=fun w' hw'=>⟨(hw'.cell (p:=⟨b,o,none⟩) hb).trans h0,(hw'.cell (p:=⟨b,o+1,none⟩) hb).trans h1,(hw'.cell (p:=⟨b,o+2,none⟩) hb).trans h2⟩
 obtain ⟨s0,s1,s2⟩:=S.o _ BW.o;have F:=zaa hF
 have i0:(0:Int) < (n:Int):=by omega
 have i00:0 < n:=by omega
 have i1:(1:Int) < (n:Int):=by omega
 have i2:(2:Int) < (n:Int):=by omega
 clear h0 h1 h2 hF
 by_cases c2:z2=0
 ·subst c2
  have E1:denZ z0 z1 0=⟨0,⟨#[]⟩,-1⟩:=by unfold denZ;rw[if_pos rfl]
  have E2:zol z0 z1 0=(z0 == 0 && z1 == 0):=by unfold zol;rw[if_pos rfl]
  rw[E1,E2];clear E1 E2;obtain ⟨f0,f1,f2⟩:=FD.cells (F.o.below BW.o)
  by_cases c0:z0=0
  ·have q0:(z0 == 0)=true:=by rw[c0];rfl
   have EQ:Hid ((z0 == 0 && z1 == 0)=(z1 == 0)):=by unfold Hid;rw[q0];rfl
   rw[EQ.o];clear c0 EQ;go_enter Tryz.func161,Tryz.ntmps161;go_wp2_with fail
   go_region_held3 (fun w'=>(w'.cell? ⟨b,o,none⟩=some (.int .i64 z0)∧w'.cell? ⟨b,o+1,none⟩=some (.int .i64 z1)∧w'.cell? ⟨b,o+2,none⟩=some (.int .i64 0))∧w'.cell? ⟨0,0,none⟩=some (.int .i64 0)∧w'.cell? ⟨0,1,none⟩=some (.string ⟨#[]⟩)∧w'.cell? ⟨0,2,none⟩=some (.int .i64 (-1)))
    (exact ⟨S.o _ (by repeat (first | with_reducible exact BW.o | with_reducible refine zan ?_ _ | with_reducible exact Below.refl _ _ | with_reducible refine Below.drew ?_)),FD.cells (F.o.below (by repeat (first | with_reducible exact BW.o | with_reducible refine zan ?_ _ | with_reducible exact Below.refl _ _ | with_reducible refine Below.drew ?_)))⟩)
    (fail)
   all_goals
    go_wp2;refine bodyPost_ret (v:=.tuple #[.agg #[.int .i64 0,.string ⟨#[]⟩,.int .i64 (-1)],.bool (z1 == 0)]) (by simp[results,Tryz.results161,go_sem]) rfl ?_;exact ⟨⟨_,rfl,fun _=>rfl⟩,(by repeat (first | with_reducible exact BW.o | with_reducible exact Below.refl _ _ | with_reducible refine zan ?_ _ | with_reducible refine Below.drew ?_ | refine Below.setCell ?_ (by exact Nat.le_refl _) _))⟩
  ·have q0:(z0 == 0)=false:=by rw[beq_eq_false_iff_ne];exact c0
   have EQ:Hid ((z0 == 0 && z1 == 0)=false):=by unfold Hid;rw[q0];rfl
   rw[EQ.o];clear c0 EQ;go_enter Tryz.func161,Tryz.ntmps161;go_wp2_with fail
   go_region
   all_goals
    go_wp2;refine bodyPost_ret (v:=.tuple #[.agg #[.int .i64 0,.string ⟨#[]⟩,.int .i64 (-1)],.bool false]) (by simp[results,Tryz.results161,go_sem]) rfl ?_;exact ⟨⟨_,rfl,fun _=>rfl⟩,(by repeat (first | with_reducible exact BW.o | with_reducible exact Below.refl _ _ | with_reducible refine zan ?_ _ | with_reducible refine Below.drew ?_ | refine Below.setCell ?_ (by exact Nat.le_refl _) _))⟩
 ·have q:(z2 == 0)=false:=by rw[beq_eq_false_iff_ne];exact c2
  have E1:denZ z0 z1 z2=⟨z0,zxk z1,z2 - 1⟩:=by unfold denZ;rw[if_neg c2]
  have E2:zol z0 z1 z2=zgk z1:=by unfold zol;rw[if_neg c2]
  rw[E1,E2];have LU:=zaa (fun w1=>zkn z1 w1 r1)
  have EU:Hid ((unpC z1 == 0)=zgk z1):=by
   unfold Hid unpC
   cases zgk z1 <;> rfl
  have wp1:IntKind.i64.wrap (z2 - 1)=z2 - 1:=by rw[IntKind.wrap_i64];omega
  rw[← EU.o];clear E1 E2 c2 EU;generalize unpC z1=uc at *;generalize zxk z1=us at *;go_enter Tryz.func161,Tryz.ntmps161;go_wp2_with fail;refine (LU.o _).mono ?_;rintro e w1 ⟨rfl,hb1⟩;have B1:=zaa (zab BW.o hb1 BW.o.size);have VB:Hid (w1.heap[w.heap.size]?=some (.cells #[.int .i64 0,.string ⟨#[]⟩,.int .i64 0] 185 (0,0))):=(hb1.block _ (by simp)).trans (zah rfl);clear hb1 s0 s1 s2;obtain ⟨s0,s1,s2⟩:=S.o _ B1.o;obtain ⟨t0,t1,t2⟩:=zaz VB.o;have u0:=(zae (xs:=[.int .i64 0,.string ⟨#[]⟩,.int .i64 0]) VB.o 0).2;have u1:=(zae (xs:=[.int .i64 0,.string ⟨#[]⟩,.int .i64 0]) VB.o 1).2;have u2:=(zae (xs:=[.int .i64 0,.string ⟨#[]⟩,.int .i64 0]) VB.o 2).2;go_wp2_with fail
  go_region_held3 (fun w'=>w'.cell? ⟨b,o,none⟩=some (.int .i64 z0)∧w'.cell? ⟨b,o+1,none⟩=some (.int .i64 z1)∧w'.cell? ⟨b,o+2,none⟩=some (.int .i64 z2))
   (exact S.o _ (by repeat (first | with_reducible exact B1.o | with_reducible refine Below.drew ?_ | refine Below.setCell ?_ (by exact Nat.le_refl _) _)))
   (fail)
  all_goals
   go_wp2;refine bodyPost_ret (v:=.tuple #[.agg #[.int .i64 z0,.string us,.int .i64 (z2 - 1)],.bool (uc == 0)]) (by simp[results,Tryz.results161,go_sem,t0,t1,t2]) rfl ?_;exact ⟨⟨_,rfl,fun _=>rfl⟩,(by repeat (first | with_reducible exact B1.o | with_reducible refine Below.drew ?_ | refine Below.setCell ?_ (by exact Nat.le_refl _) _))⟩
end Go.Proofs.YtehnphoeplmpdaaGreatDoor
