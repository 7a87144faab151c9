/- Several texts laid together: DevI, RdE, RdF, DuA. -/
import Derived.Test.YtahiphgmhndgaaaGreatDoorZAD
import Derived.Test.YtahiphgmhndgaaaGreatDoorZAE
import Derived.Test.YtahiphgmhndgaaaGreatDoorZAG
import Derived.Test.YtahiphgmhndgaaaGreatDoorZAX
import Derived.Test.YtahiphgmhndgaaaGreatDoorZAU
import Derived.Test.YtahiphgmhndgaaaGreatDoorZAK
import Derived.Deep.RegionWith
import Derived.Test.YtahiphgmhndgaaaGreatDoorZAZ
import Derived.Test.YtahiphgmhndgaaaGreatDoorZAT
import Derived.Deep.RegionLaw
import Derived.Test.YtahiphgmhndgaaaGreatDoorZBA
set_option maxRecDepth 100000
set_option maxHeartbeats 4000000
namespace Go.Proofs.YtahiphgmhndgaaaGreatDoor
open Go.RowKit
theorem zcp (v:Value) (ws:List Int) (ps:List St) (es:List Int) (qs:List Se) (w:World) (h:RdDev w v ws ps es qs) (hw:ws.length≤1048576) (hp:ps.length≤1048576) (he:es.length≤1048576) (hq:qs.length≤1048576) :
  Calls Tryz.prog 95 #[v] w fun e w'=>e=.returned (.bool (pmB ws ps && zbp es qs))∧Below w.heap.size w w':=by
 obtain ⟨aW,cW,aP,cP,aS,cS,aQ,cQ,rfl,h1,h2⟩:=h.form;have H1:=zaa h1;have H2:=zaa h2;clear h h1 h2;have hb0:Below w.heap.size w (w.alloc (.cells #[.slice aW ws.length cW,.slice aP ps.length cP,.slice aS es.length cS,.slice aQ qs.length cQ] 45)):=(Below.refl _ _).alloc (Nat.le_refl _) _
 by_cases c:pmB ws ps=true
 ·have C:=zaa c;rw[c];clear c;go_enter Tryz.func95,Tryz.ntmps95;go_wp2_with fail;refine (zba _ ws ps _ (H1.o.below hb0) hw hp).mono ?_;rw[C.o];rintro e w1 ⟨rfl,hb1⟩;obtain ⟨x0,x1,x2,x3,-,-,-,-⟩:=zaf ((hb1.block w.heap.size (by simp)).trans (zag rfl));have B1:=zaa (zab hb0 hb1 (by simp));clear hb0 hb1;go_wp2_with fail;refine (zbr _ es qs _ (H2.o.below B1.o) he hq).mono ?_;rintro e w2 ⟨rfl,hb2⟩;have B2:=zaa (zab B1.o hb2 B1.o.size);clear hb2;go_wp2;go_ret;exact ⟨rfl,B2.o⟩
 ·have c':pmB ws ps=false:=by simpa using c
  have C:=zaa c';rw[c'];clear c c';go_enter Tryz.func95,Tryz.ntmps95;go_wp2_with fail;refine (zba _ ws ps _ (H1.o.below hb0) hw hp).mono ?_;rw[C.o];rintro e w1 ⟨rfl,hb1⟩;have B1:=zaa (zab hb0 hb1 (by simp));clear hb0 hb1;go_wp2;go_ret;exact ⟨rfl,B1.o⟩
theorem zxl (a:Option Addr) (n cap:Nat) (hn:8≤n) (w:World):(Instr.arrayAt 185 (.slice a n cap)).run Tryz.prog w=.ok (.pointer a) w:=by
 have h:¬ n < 8:=by omega
 simp[Instr.arrayAt,run_underlying Tryz.underlying185,h,go_sem]
theorem zuz (b o n c:Nat) (x:Ino) (w:World) (hn:11≤n) (hc:n≤c) (hb:b < w.heap.size) (h:∀ j,j < 11→w.cell? ⟨b,o+j,none⟩=x.cs[j]?) :
  Calls Tryz.prog 209 #[.slice (some ⟨b,o,none⟩) n c] w fun e w'=>e=.returned x.v∧Below w.heap.size w w':=by
 have BW:=zaa ((Below.refl w.heap.size w).alloc (Nat.le_refl _) (.cells #[.int .i64 0,.int .i64 0,.int .i64 0,.int .i64 0,.int .i64 0,.int .i64 0,.int .i64 0,.int .i64 0,.int .i64 0,.int .i64 0,.int .i64 0] 187))
 have S:Hid (∀ w',Below w.heap.size w w'→w'.cell? ⟨b,o,none⟩=some (.int .i64 x.kind)∧w'.cell? ⟨b,o+1,none⟩=some (.int .i64 x.size)∧w'.cell? ⟨b,o+2,none⟩=some (.int .i64 x.links)∧w'.cell? ⟨b,o+3,none⟩=some (.int .i64 x.m0)∧w'.cell? ⟨b,o+3+1,none⟩=some (.int .i64 x.m1)∧w'.cell? ⟨b,o+3+2,none⟩=some (.int .i64 x.m2)∧w'.cell? ⟨b,o+3+3,none⟩=some (.int .i64 x.m3)∧w'.cell? ⟨b,o+3+4,none⟩=some (.int .i64 x.m4)∧w'.cell? ⟨b,o+3+5,none⟩=some (.int .i64 x.m5)∧w'.cell? ⟨b,o+3+6,none⟩=some (.int .i64 x.m6)∧w'.cell? ⟨b,o+3+7,none⟩=some (.int .i64 x.m7)):=fun w' hw' =>
  have g:=fun j (hj:j < 11)=>(hw'.cell (p:=⟨b,o+j,none⟩) hb).trans (h j hj)
  ⟨g 0 (by omega),g 1 (by omega),g 2 (by omega),g 3 (by omega),g 4 (by omega),g 5 (by omega),g 6 (by omega),g 7 (by omega),g 8 (by omega),g 9 (by omega),g 10 (by omega)⟩
 obtain ⟨s0,s1,s2,s3,s4,s5,s6,s7,s8,s9,s10⟩:=S.o _ BW.o
 have i0:(0:Int) < (n:Int):=by omega
 have i00:0 < n:=by omega
 have i1:(1:Int) < (n:Int):=by omega
 have i2:(2:Int) < (n:Int):=by omega
 have i3:(11:Int)≤(c:Int):=by omega
 have i4:¬ c=3:=by omega
 have i5:(3:Int)≤11:=by omega
 have har:=zxl (some ⟨b,o+3,none⟩) 8 (c - 3) (Nat.le_refl _);unfold Ino.v;clear h hn hc;go_enter Tryz.func209,Tryz.ntmps209;go_wp2_with fail
 go_region_held3 (fun w'=>w'.cell? ⟨b,o,none⟩=some (.int .i64 x.kind)∧w'.cell? ⟨b,o+1,none⟩=some (.int .i64 x.size)∧w'.cell? ⟨b,o+2,none⟩=some (.int .i64 x.links)∧w'.cell? ⟨b,o+3,none⟩=some (.int .i64 x.m0)∧w'.cell? ⟨b,o+3+1,none⟩=some (.int .i64 x.m1)∧w'.cell? ⟨b,o+3+2,none⟩=some (.int .i64 x.m2)∧w'.cell? ⟨b,o+3+3,none⟩=some (.int .i64 x.m3)∧w'.cell? ⟨b,o+3+4,none⟩=some (.int .i64 x.m4)∧w'.cell? ⟨b,o+3+5,none⟩=some (.int .i64 x.m5)∧w'.cell? ⟨b,o+3+6,none⟩=some (.int .i64 x.m6)∧w'.cell? ⟨b,o+3+7,none⟩=some (.int .i64 x.m7))
  (exact S.o _ (by repeat (first | with_reducible exact BW.o | with_reducible refine zan ?_ _ | with_reducible exact Below.refl _ _ | with_reducible refine Below.drew ?_)))
  (fail)
 all_goals
  go_wp2;refine bodyPost_ret (v:=.agg #[.int .i64 x.kind,.int .i64 x.size,.int .i64 x.links,.int .i64 x.m0,.int .i64 x.m1,.int .i64 x.m2,.int .i64 x.m3,.int .i64 x.m4,.int .i64 x.m5,.int .i64 x.m6,.int .i64 x.m7]) (by simp[results,Tryz.results209,go_sem]) rfl ⟨rfl,?_⟩
  repeat (first | with_reducible exact Below.refl _ _ | with_reducible refine zan ?_ _ | with_reducible refine Below.drew ?_)
def denZ (z0 z1 z2:Int):Den:=if z2=0 then ⟨0,⟨#[]⟩,-1⟩ else ⟨z0,zzm z1,z2 - 1⟩
def zpg (z0 z1 z2:Int):Bool:=if z2=0 then z0 == 0 && z1 == 0 else zgo z1
theorem zqu (b o n c:Nat) (z0 z1 z2:Int) (w:World) (hn:3≤n) (_hc:n≤c) (hb:b < w.heap.size) (h0:w.cell? ⟨b,o,none⟩=some (.int .i64 z0)) (h1:w.cell? ⟨b,o+1,none⟩=some (.int .i64 z1)) (h2:w.cell? ⟨b,o+2,none⟩=some (.int .i64 z2)) (hF:FD w) (r1:z1≤9223372036854775807) (r2:0≤z2∧z2≤9223372036854775807) :
  Calls Tryz.prog 210 #[.slice (some ⟨b,o,none⟩) n c] w fun e w'=>(∃ s,e=.returned (.tuple #[.agg #[.int .i64 (denZ z0 z1 z2).dir,.string s,.int .i64 (denZ z0 z1 z2).child],.bool (zpg z0 z1 z2)])∧(zpg z0 z1 z2=true→s=(denZ z0 z1 z2).name))∧Below w.heap.size w w':=by
 have BW:=zaa ((Below.refl w.heap.size w).alloc (Nat.le_refl _) (.cells #[.int .i64 0,.string ⟨#[]⟩,.int .i64 0] 189))
 have S:Hid (∀ w',Below w.heap.size w w'→w'.cell? ⟨b,o,none⟩=some (.int .i64 z0)∧w'.cell? ⟨b,o+1,none⟩=some (.int .i64 z1)∧w'.cell? ⟨b,o+2,none⟩=some (.int .i64 z2)):=fun w' hw'=>⟨(hw'.cell (p:=⟨b,o,none⟩) hb).trans h0,(hw'.cell (p:=⟨b,o+1,none⟩) hb).trans h1,(hw'.cell (p:=⟨b,o+2,none⟩) hb).trans h2⟩
 obtain ⟨s0,s1,s2⟩:=S.o _ BW.o;have F:=zaa hF
 have i0:(0:Int) < (n:Int):=by omega
 have i00:0 < n:=by omega
 have i1:(1:Int) < (n:Int):=by omega
 have i2:(2:Int) < (n:Int):=by omega
 clear h0 h1 h2 hF
 by_cases c2:z2=0
 ·subst c2
  have E1:denZ z0 z1 0=⟨0,⟨#[]⟩,-1⟩:=by unfold denZ;rw[if_pos rfl]
  have E2:zpg z0 z1 0=(z0 == 0 && z1 == 0):=by unfold zpg;rw[if_pos rfl]
  rw[E1,E2];clear E1 E2;obtain ⟨f0,f1,f2⟩:=FD.cells (F.o.below BW.o)
  by_cases c0:z0=0
  ·have q0:(z0 == 0)=true:=by rw[c0];rfl
   have EQ:Hid ((z0 == 0 && z1 == 0)=(z1 == 0)):=by unfold Hid;rw[q0];rfl
   rw[EQ.o];clear c0 EQ;go_enter Tryz.func210,Tryz.ntmps210;go_wp2_with fail
   go_region_held3 (fun w'=>(w'.cell? ⟨b,o,none⟩=some (.int .i64 z0)∧w'.cell? ⟨b,o+1,none⟩=some (.int .i64 z1)∧w'.cell? ⟨b,o+2,none⟩=some (.int .i64 0))∧w'.cell? ⟨2,0,none⟩=some (.int .i64 0)∧w'.cell? ⟨2,1,none⟩=some (.string ⟨#[]⟩)∧w'.cell? ⟨2,2,none⟩=some (.int .i64 (-1)))
    (exact ⟨S.o _ (by repeat (first | with_reducible exact BW.o | with_reducible refine zan ?_ _ | with_reducible exact Below.refl _ _ | with_reducible refine Below.drew ?_)),FD.cells (F.o.below (by repeat (first | with_reducible exact BW.o | with_reducible refine zan ?_ _ | with_reducible exact Below.refl _ _ | with_reducible refine Below.drew ?_)))⟩)
    (fail)
   all_goals
    go_wp2;refine bodyPost_ret (v:=.tuple #[.agg #[.int .i64 0,.string ⟨#[]⟩,.int .i64 (-1)],.bool (z1 == 0)]) (by simp[results,Tryz.results210,go_sem]) rfl ?_;exact ⟨⟨_,rfl,fun _=>rfl⟩,(by repeat (first | with_reducible exact BW.o | with_reducible exact Below.refl _ _ | with_reducible refine zan ?_ _ | with_reducible refine Below.drew ?_ | refine Below.setCell ?_ (by exact Nat.le_refl _) _))⟩
  ·have q0:(z0 == 0)=false:=by rw[beq_eq_false_iff_ne];exact c0
   have EQ:Hid ((z0 == 0 && z1 == 0)=false):=by unfold Hid;rw[q0];rfl
   rw[EQ.o];clear c0 EQ;go_enter Tryz.func210,Tryz.ntmps210;go_wp2_with fail
   go_region
   all_goals
    go_wp2;refine bodyPost_ret (v:=.tuple #[.agg #[.int .i64 0,.string ⟨#[]⟩,.int .i64 (-1)],.bool false]) (by simp[results,Tryz.results210,go_sem]) rfl ?_;exact ⟨⟨_,rfl,fun _=>rfl⟩,(by repeat (first | with_reducible exact BW.o | with_reducible exact Below.refl _ _ | with_reducible refine zan ?_ _ | with_reducible refine Below.drew ?_ | refine Below.setCell ?_ (by exact Nat.le_refl _) _))⟩
 ·have q:(z2 == 0)=false:=by rw[beq_eq_false_iff_ne];exact c2
  have E1:denZ z0 z1 z2=⟨z0,zzm z1,z2 - 1⟩:=by unfold denZ;rw[if_neg c2]
  have E2:zpg z0 z1 z2=zgo z1:=by unfold zpg;rw[if_neg c2]
  rw[E1,E2];have LU:=zaa (fun w1=>zkl z1 w1 r1)
  have EU:Hid ((unpC z1 == 0)=zgo z1):=by
   unfold Hid unpC
   cases zgo z1 <;> rfl
  have wp1:IntKind.i64.wrap (z2 - 1)=z2 - 1:=by rw[IntKind.wrap_i64];omega
  rw[← EU.o];clear E1 E2 c2 EU;generalize unpC z1=uc at *;generalize zzm z1=us at *;go_enter Tryz.func210,Tryz.ntmps210;go_wp2_with fail;refine (LU.o _).mono ?_;rintro e w1 ⟨rfl,hb1⟩;have B1:=zaa (zab BW.o hb1 BW.o.size);have VB:Hid (w1.heap[w.heap.size]?=some (.cells #[.int .i64 0,.string ⟨#[]⟩,.int .i64 0] 189 (0,0))):=(hb1.block _ (by simp)).trans (zag rfl);clear hb1 s0 s1 s2;obtain ⟨s0,s1,s2⟩:=S.o _ B1.o;obtain ⟨t0,t1,t2⟩:=zas VB.o;have u0:=(zbe (xs:=[.int .i64 0,.string ⟨#[]⟩,.int .i64 0]) VB.o 0).2;have u1:=(zbe (xs:=[.int .i64 0,.string ⟨#[]⟩,.int .i64 0]) VB.o 1).2;have u2:=(zbe (xs:=[.int .i64 0,.string ⟨#[]⟩,.int .i64 0]) VB.o 2).2;go_wp2_with fail
  go_region_held3 (fun w'=>w'.cell? ⟨b,o,none⟩=some (.int .i64 z0)∧w'.cell? ⟨b,o+1,none⟩=some (.int .i64 z1)∧w'.cell? ⟨b,o+2,none⟩=some (.int .i64 z2))
   (exact S.o _ (by repeat (first | with_reducible exact B1.o | with_reducible refine Below.drew ?_ | refine Below.setCell ?_ (by exact Nat.le_refl _) _)))
   (fail)
  all_goals
   go_wp2;refine bodyPost_ret (v:=.tuple #[.agg #[.int .i64 z0,.string us,.int .i64 (z2 - 1)],.bool (uc == 0)]) (by simp[results,Tryz.results210,go_sem,t0,t1,t2]) rfl ?_;exact ⟨⟨_,rfl,fun _=>rfl⟩,(by repeat (first | with_reducible exact B1.o | with_reducible refine Below.drew ?_ | refine Below.setCell ?_ (by exact Nat.le_refl _) _))⟩
theorem zub {w:World} {base:Nat} {e:TypeId} {size:Nat} {v:Value} {n:Nat} {xs:List Value} (h:w.ownsRow base e size v n xs) (hn:0 < n):∃ b c,v=.slice (some ⟨b,0,none⟩) n c∧n≤c:=by
 rcases (zai h).shape with ⟨_,e,_⟩ | ⟨b,c,rfl,hc,_⟩
 ·omega
 ·exact ⟨b,c,rfl,hc⟩
theorem yajz (ls:List Int) (k:Nat):denZ (wdI ls (240+3*(k:Int))) (wdI ls (240+3*(k:Int)+1)) (wdI ls (240+3*(k:Int)+2))=zrr ls k∧zpg (wdI ls (240+3*(k:Int))) (wdI ls (240+3*(k:Int)+1)) (wdI ls (240+3*(k:Int)+2))=zda ls k:=⟨rfl,rfl⟩
theorem yasm (ls:List Int) (n j:Nat) (h:n+j < ls.length):ls[n+j]=wdI ls ((n:Int)+(j:Int)):=by
 have:=yaqo h;rw[← this]
 congr 1
theorem yaua (ls:List Int) (i:Nat) (hi:i < 16) (hl:ls.length=336) (j:Nat) (hj:j < 11):(zav ls)[48+12*i+j]?=(zmc ls i).cs[j]?:=by
 rw[zay ls (48+12*i+j) (by omega),yasm ls (48+12*i) j (by omega),show (((48+12*i:Nat):Int)+(j:Int))=48+12*(i:Int)+(j:Int) by omega]
 rcases (show j=0∨j=1∨j=2∨j=3∨j=4∨j=5∨j=6∨j=7∨j=8∨j=9∨j=10 by omega) with rfl | rfl | rfl | rfl | rfl | rfl | rfl | rfl | rfl | rfl | rfl
 ·simp[zmc,Ino.cs]
 all_goals rfl
theorem zmg (v:Value) (ws:List Int) (ps:List St) (w:World) (h:RdPm w v ws ps) (hw:ws.length≤1048576) (hp:ps.length≤1048576) (hT:TS w) (hE:ED w) (hF:FD w) :
  Calls Tryz.prog 193 #[v] w fun e w'=>∃ v',e=.returned (.tuple #[v',.int .i64 (riC ws ps)])∧RowIm w' w.heap.size w'.heap.size v' (riN ws ps) (riD ws ps)∧Below w.heap.size w w':=by
 have HR:=zaa h;have LS:=zaa (fun w1 h=>zrg v ws ps w1 h hw hp);have T:=zaa hT;have E:=zaa hE;have F:=zaa hF;obtain ⟨vW,vP,rfl,h1,h2⟩:=h;obtain ⟨aW,cW,rfl,_,_⟩:=h1.shape;obtain ⟨aP,cP,rfl,_,_⟩:=h2.shape;clear h1 h2 hT hE hF
 obtain ⟨W1,hW1⟩:∃ W1,W1=(w.alloc (.cells #[.slice aW ws.length cW,.slice aP ps.length cP] 40)).alloc (.cells #[.slice none 0 0,.slice none 0 0] 102):=⟨_,rfl⟩
 have hz1:W1.heap.size=w.heap.size+1+1:=by rw[hW1];simp
 have CA:Hid (∀ w',Below W1.heap.size W1 w'→w'.cell? ⟨w.heap.size,0,none⟩=some (.slice aW ws.length cW)∧w'.cell? ⟨w.heap.size,1,none⟩=some (.slice aP ps.length cP)):=fun w' hb=>by
  have:w'.heap[w.heap.size]?=some (.cells #[.slice aW ws.length cW,.slice aP ps.length cP] 40 (0,0)):=(hb.block _ (by omega)).trans (by rw[hW1];exact zal (zag rfl));exact ⟨(zad this).1,(zad this).2.1⟩
 have CR:Hid (∀ w',Below W1.heap.size W1 w'→w'.heap[w.heap.size+1]?=some (.cells #[.slice none 0 0,.slice none 0 0] 102 (0,0))):=fun w' hb=>(hb.block _ (by omega)).trans (by
  rw[hW1];have:=zag (w:=w.alloc (.cells #[.slice aW ws.length cW,.slice aP ps.length cP] 40)) (o:=.cells #[.slice none 0 0,.slice none 0 0] 102) rfl;rw[World.size_alloc] at this
  exact this)
 have BW:Hid (Below w.heap.size w W1):=by rw[hW1];exact ((Below.refl _ _).alloc (Nat.le_refl _) _).alloc (by simp) _
 have hz0:w.heap.size+1 < W1.heap.size:=by omega
 clear hz1;obtain ⟨x0,x1⟩:=CA.o W1 (Below.refl _ _)
 cases c1:pmB ws ps with
 | false =>
  obtain ⟨E1,E2,E3⟩:=yaih c1;obtain ⟨S1,S2⟩:=yadl c1;rw[S1,S2] at LS;rw[E1,E2,E3];clear c1 E1 E2 E3 S1 S2;go_enter Tryz.func193,Tryz.ntmps193;go_wp2_with fail;rw[← hW1];clear hW1;refine (LS.o _ (HR.o.below BW.o)).mono ?_;rintro e w1 ⟨v1,rfl,_,hb1⟩;have B1:=zaa hb1;clear x0 x1 hb1;have CB:=zaa (CR.o _ B1.o);obtain ⟨p0,p1,p2,p3⟩:=zad CB.o;have BR:Hid (Below w.heap.size w ((w1.setCell ⟨w.heap.size+1,0,none⟩ (.slice none 0 0)).setCell ⟨w.heap.size+1,1,none⟩ (.slice none 0 0))):=((zab BW.o B1.o BW.o.size).setCell (by simp only;omega) _).setCell (by simp only;omega) _;go_wp2;refine bodyPost_ret (v:=.tuple #[.agg #[.slice none 0 0,.slice none 0 0],.int .i64 1]) (by simp[results,Tryz.results193,go_sem,p0,p1]) rfl ?_;exact ⟨_,rfl,zdj _ _ _,BR.o⟩
 | true =>
 have C1:=zaa c1;obtain ⟨S1,S2⟩:=yahc c1;rw[S1,S2] at LS;have L336:=zaa (show (zcq ws ps).length=336 by rw[zoe];exact (zbz c1).1);have WR:=zaa (fun z=>zow c1 z);have NO:=zaa (fun q=>yabx C1.o q);have YES:=zaa (fun q=>yasb C1.o q);have RB:=zaa (show riB (zcq ws ps)=(wdI (zcq ws ps) 0 == 7 && (zfa (zcq ws ps) 24 && zti (zbm (zcq ws ps) 16) (zbw (zcq ws ps) 24))) from rfl);have LI:=zaa (fun v w1 h hT hE hF=>zhr v (zbm (zcq ws ps) 16) (zbw (zcq ws ps) 24) w1 h (by rw[zbn];omega) (by rw[zbh];omega) hT hE hF (zuo C1.o 16) (zjq _ 24));clear c1 S1 S2;generalize riC ws ps=rc at *;generalize riN ws ps=rn at *;generalize riD ws ps=rd at *;generalize zcq ws ps=ls at *;go_enter Tryz.func193,Tryz.ntmps193;go_wp2_with fail;rw[← hW1];clear hW1;refine (LS.o _ (HR.o.below BW.o)).mono ?_;rintro e w1 ⟨v1,rfl,hr1,hb1⟩;have B1:=zaa hb1;have hzz:W1.heap.size≤w1.heap.size:=hb1.size;obtain ⟨b,c,rfl,hcap⟩:=zub hr1.1 (by have:=L336.o;omega)
 obtain ⟨_,_,_,hbl,_,hcl⟩:=hr1.at
 have HC:Hid (∀ w',Below w1.heap.size w1 w'→∀ j,j < 336→w'.cell? ⟨b,j,none⟩=(zav ls)[j]?):=fun w' hb j hj=>(hb.cell (p:=⟨b,j,none⟩) hbl).trans (hcl j (by have:=L336.o;omega))
 have c336:336≤c:=by have:=L336.o;omega
 simp only[L336.o];clear hr1 hb1 hcl hcap x0 x1 LS
 have START:Hid (RimI w1 (w1.alloc (.cells #[.slice none 0 0,.slice none 0 0] 102)) w1.heap.size (.slice none 0 0) (.slice none 0 0) (zbm ls 0) []):=⟨zag rfl,World.ownsRow_nil _ _ _ _,World.ownsRow_nil _ _ _ _,(Below.refl _ _).alloc (Nat.le_refl _) _,Nat.le_refl _⟩
 go_wp2_with fail
 go_loopg [20] 16 (fun g i wr=>∃ k:Nat,k+g=16∧i=.int .i64 k∧Hid (∃ vI vD,RimI w1 wr w1.heap.size vI vD (zbm ls k) []))
 case atStart=>exact ⟨0,rfl,rfl,_,_,START.o⟩
 case round =>
  obtain ⟨k,hk,rfl,J⟩:=hrel;obtain ⟨vI,vD,I⟩:=J.o;have I:=zaa I
  have k0:(0:Int)≤(k:Int):=by omega
  clear J START
  by_cases hlt:k < 16
  ·have k1:(k:Int) < 16:=by omega
   obtain ⟨n,hn⟩:∃ n:Nat,n=48+12*k:=⟨_,rfl⟩
   have wm:IntKind.i64.wrap (12*(k:Int))=12*(k:Int):=by rw[IntKind.wrap_i64];omega
   have wa:IntKind.i64.wrap (48+12*(k:Int))=(n:Int):=by rw[IntKind.wrap_i64];omega
   have a0:(0:Int)≤(n:Int):=by omega
   have a1:(n:Int)≤336:=by omega
   have a2:(n:Int)≤(c:Int):=by omega
   have a3:¬ c=n:=by omega
   have LRI:=zaa (fun w2 (hb:Below wr.heap.size wr w2)=>zuz b n (336 - n) (c - n) (zmc ls k) w2 (by omega) (by omega) (Nat.lt_of_lt_of_le hbl (zab I.o.b hb I.o.z).size) (fun j hj=>by
    have:=HC.o w2 (zab I.o.b hb I.o.z) (n+j) (by omega);rw[this,hn]
    exact yaua ls k hlt L336.o j hj))
   have MN:=zaa (zpz ls k);have ML:=zbn ls k;unfold Ino.v at LRI;clear hn;generalize zmc ls k=x at *;obtain ⟨m0,m1,_,_⟩:=zad I.o.m;have hzI:=I.o.z;go_wp2_with fail
   go_region_law (first
     | (go_simp;go_at_call 209;refine (LRI.o _ (by repeat (first | with_reducible exact BF.o | with_reducible exact Below.refl _ _ | with_reducible refine Below.drew ?_))).mono ?_;rintro e w2 ⟨rfl,hb2⟩;have BF:Hid (Below wr.heap.size wr w2):=zjx (by repeat (first | with_reducible exact BF.o | with_reducible exact Below.refl _ _ | with_reducible refine Below.drew ?_)) hb2;clear hb2;have IA:=zaa ((I.o.below BF.o).below ((Below.refl _ _).alloc (Nat.le_refl _) (.cells #[.int .i64 x.kind,.int .i64 x.size,.int .i64 x.links,.int .i64 x.m0,.int .i64 x.m1,.int .i64 x.m2,.int .i64 x.m3,.int .i64 x.m4,.int .i64 x.m5,.int .i64 x.m6,.int .i64 x.m7] 187)));have RX:=zaa (yaqj w2 x);obtain ⟨e0,e1,_,_⟩:=zad (I.o.below BF.o).m;obtain ⟨f0,f1,_,_⟩:=zad IA.o.m)
     | (refine zbx rfl (.tmp 24) (.tmp 31) 99 rfl w1.heap.size 187 (.agg #[.int .i64 0,.int .i64 0,.int .i64 0,.int .i64 0,.int .i64 0,.int .i64 0,.int .i64 0,.int .i64 0,.int .i64 0,.int .i64 0,.int .i64 0]) 11 88 Tryz.underlying99 yalu rfl (by decide) _ _ _ rfl IA.o.i _ 1 _ rfl RX.o (zxs _) (by simp[maxLen];omega) (by omega) IA.o.z ?_;intro vN wN hownN hgrN;obtain ⟨bN,cN,rfl,_⟩:=zub hownN (by omega);have GG:=zaa (IA.o.growI x hownN hgrN);obtain ⟨g0,g1,g2,g3⟩:=zad GG.o.1;clear hownN hgrN))
   all_goals
    have G:=zaa GG.o.2;rw[← MN.o] at G;simp only[zbn] at G;go_wp2
    go_roundg (16 - (k+1))
    case measure=>omega
    case rel=>exact ⟨k+1,by omega,by go_num,_,_,G.o⟩
  ·obtain rfl:k=16:=by omega
   have SE:Hid (∃ vI vD,RimI w1 wr w1.heap.size vI vD (zbm ls 16) (zbw ls 0)):=⟨vI,vD,I.o⟩
   have AG0:Hid (∀ j,j < 0→zda ls j=true):=fun j h=>absurd h (by omega)
   have BB:=zaa (zab BW.o B1.o BW.o.size);clear I;go_wp2_with fail
   go_loopg [35] 24 (fun g i wq=>∃ k:Nat,k+g=24∧i=.int .i64 k∧Hid ((∃ vI vD,RimI w1 wq w1.heap.size vI vD (zbm ls 16) (zbw ls k))∧∀ j,j < k→zda ls j=true))
   case atStart=>exact ⟨0,rfl,rfl,SE.o,AG0.o⟩
   case round =>
    obtain ⟨k,hk,rfl,J⟩:=hrel;obtain ⟨vI,vD,I⟩:=J.o.1;have I:=zaa I;have AG:=zaa J.o.2
    have k0:(0:Int)≤(k:Int):=by omega
    clear J SE AG0
    by_cases hlt:k < 24
    ·have k1:(k:Int) < 24:=by omega
     obtain ⟨n,hn⟩:∃ n:Nat,n=240+3*k:=⟨_,rfl⟩
     have wm:IntKind.i64.wrap (3*(k:Int))=3*(k:Int):=by rw[IntKind.wrap_i64];omega
     have wa:IntKind.i64.wrap (240+3*(k:Int))=(n:Int):=by rw[IntKind.wrap_i64];omega
     have a0:(0:Int)≤(n:Int):=by omega
     have a1:(n:Int)≤336:=by omega
     have a2:(n:Int)≤(c:Int):=by omega
     have a3:¬ c=n:=by omega
     have r1:=WR.o (240+3*(k:Int)+1);have r2:=WR.o (240+3*(k:Int)+2)
     have HX:Hid (∀ w2,Below wr.heap.size wr w2→∀ j:Nat,j < 3→w2.cell? ⟨b,n+j,none⟩=some (.int .i64 (wdI ls (240+3*(k:Int)+(j:Int))))):=fun w2 hb j hj=>by
      rw[HC.o w2 (zab I.o.b hb I.o.z) (n+j) (by omega),zay ls (n+j) (by have:=L336.o;omega),yasm ls n j (by have:=L336.o;omega),show ((n:Int)+(j:Int))=240+3*(k:Int)+(j:Int) by omega]
     have LRD:=zaa (fun w2 (hb:Below wr.heap.size wr w2)=>zqu b n (336 - n) (c - n) (wdI ls (240+3*(k:Int))) (wdI ls (240+3*(k:Int)+1)) (wdI ls (240+3*(k:Int)+2)) w2 (by omega) (by omega) (Nat.lt_of_lt_of_le hbl (zab I.o.b hb I.o.z).size) (by have:=HX.o w2 hb 0 (by omega);simpa using this) (by have:=HX.o w2 hb 1 (by omega);simpa using this) (by have:=HX.o w2 hb 2 (by omega);simpa using this) (F.o.below (zab BB.o (zab I.o.b hb I.o.z) BB.o.size)) (by omega) (by omega));simp only[(yajz ls k).1,(yajz ls k).2] at LRD
     have AGN:Hid (zda ls k=true→∀ j,j < k+1→zda ls j=true):=fun q j h=>by
      by_cases e:j=k
      ·subst e;exact q
      ·exact AG.o j (by omega)
     have MN:=zaa (zjr ls k);have ML:=zbh ls k
     have GF:Hid (zda ls k=false→zfa ls 24=false):=fun q=>zip (n:=24) hlt q
     clear hn HX r1 r2;generalize zrr ls k=x at *;generalize zda ls k=gd at *;go_wp2_with fail;refine (LRD.o _ (Below.refl _ _)).mono ?_;rintro e w2 ⟨⟨s,rfl,hs⟩,hb2⟩;have B2:=zaa hb2;clear LRD hb2;have B3:=zaa (zan B2.o (.cells #[.int .i64 x.dir,.string s,.int .i64 x.child] 189));have hz2:wr.heap.size≤w2.heap.size:=B2.o.size;have hz3:w1.heap.size≤wr.heap.size:=I.o.z
     cases gd with
     | false =>
      clear hs AGN MN ML;have CB:=zaa (CR.o _ (zjx B1.o (zab I.o.b B3.o I.o.z)));obtain ⟨p0,p1,p2,p3⟩:=zad CB.o;have EE:=zaa (NO.o (by rw[RB.o,GF.o rfl];simp));have BR:Hid (Below w.heap.size w (((w2.alloc (.cells #[.int .i64 x.dir,.string s,.int .i64 x.child] 189)).setCell ⟨w.heap.size+1,0,none⟩ (.slice none 0 0)).setCell ⟨w.heap.size+1,1,none⟩ (.slice none 0 0))):=((zab BB.o (zab I.o.b B3.o I.o.z) BB.o.size).setCell (by simp only;omega) _).setCell (by simp only;omega) _;go_wp2;refine bodyPost_ret (v:=.tuple #[.agg #[.slice none 0 0,.slice none 0 0],.int .i64 3]) (by simp[results,Tryz.results193,go_sem,p0,p1]) rfl ?_;obtain ⟨E1,E2,E3⟩:=EE.o;rw[E1,E2,E3];exact ⟨_,rfl,zdj _ _ _,BR.o⟩
     | true =>
      obtain rfl:=hs rfl;have AG2:=zaa (AGN.o rfl);clear hs GF AGN;have XB:Hid (BoxZ 189 wr (w2.alloc (.cells #[.int .i64 x.dir,.string x.name,.int .i64 x.child] 189)) w2.heap.size [.int .i64 x.dir,.string x.name,.int .i64 x.child]):=BoxZ.new B2.o;have e0:=(XB.o.cell 0).1;have e1:=(XB.o.cell 1).1;have e2:=(XB.o.cell 2).1;simp only[List.getElem?_cons_zero,List.getElem?_cons_succ] at e0 e1 e2;have IR:=zaa (I.o.below B3.o);obtain ⟨n0,n1,_,_⟩:=zad IR.o.m;have IA:=zaa (IR.o.below ((Below.refl _ _).alloc (Nat.le_refl _) (.cells #[.int .i64 x.dir,.string x.name,.int .i64 x.child] 189)));have RX:=zaa (yacl (w2.alloc (.cells #[.int .i64 x.dir,.string x.name,.int .i64 x.child] 189)) x);simp only[World.size_alloc] at RX;have hzA:=IA.o.z;simp only[World.size_alloc] at hzA;go_wp2_with (at_builtin;refine zak _ rfl (.tmp 51) (.tmp 53) 100 rfl w1.heap.size 189 (.agg #[.int .i64 0,.string ⟨#[]⟩,.int .i64 0]) 3 32 Tryz.underlying100 zoo rfl (by decide) _ _ _ rfl IA.o.d _ 1 _ rfl RX.o (zho _) (by simp[maxLen];omega) (by omega) IA.o.z ?_);intro vN wN hownN hgrN;obtain ⟨bN,cN,rfl,_⟩:=zub hownN (by omega);obtain ⟨g1,g2⟩:=IA.o.growD x (by rw[zbh];exact hownN) hgrN;have G:=zaa g2;rw[← MN.o] at G;clear n0 n1 g2 IA RX hownN hgrN ML MN;obtain ⟨n0,n1,n2,n3⟩:=zad g1;clear g1;go_wp2
      go_roundg (24 - (k+1))
      case measure=>omega
      case rel=>exact ⟨k+1,by omega,by go_num,⟨_,_,G.o⟩,AG2.o⟩
    ·obtain rfl:k=24:=by omega
     have EB:=zaa (zpa (ls:=ls) (n:=24) AG.o);rw[EB.o,Bool.true_and] at RB
     rcases (zai I.o.i).shape with ⟨_,e,_⟩ | ⟨b1,c1,rfl,_,_⟩
     ·rw[zbn] at e;omega
     rcases (zai I.o.d).shape with ⟨_,e,_⟩ | ⟨b2,c2,rfl,_,_⟩
     ·rw[zbh] at e;omega
     simp only[zbn,zbh] at I
     have R0:Hid (RowIm wr w1.heap.size wr.heap.size (.agg #[.slice (some ⟨b1,0,none⟩) 16 c1,.slice (some ⟨b2,0,none⟩) 24 c2]) (zbm ls 16) (zbw ls 24)):=⟨_,_,rfl,zai I.o.i,zai I.o.d⟩
     obtain ⟨n0,n1,_,_⟩:=zad I.o.m;have hzr:w1.heap.size≤wr.heap.size:=I.o.z;have BWr:=zaa (zab BB.o I.o.b BB.o.size);have CB:=zaa (CR.o _ (zjx B1.o I.o.b));have IM:=zaa I.o.m;have IL:=I.o.lt
     have h0:wr.cell? ⟨b,0,none⟩=some (.int .i64 (wdI ls 0)):=by
      rw[HC.o wr I.o.b 0 (by omega),zay ls 0 (by have:=L336.o;omega),yasm ls 0 0 (by have:=L336.o;omega)];rfl
     clear AG EB I HC WR
     by_cases z:wdI ls 0=7
     case neg =>
      have q:(wdI ls 0 != 7)=true:=by rw[bne_iff_ne];exact z
      have EE:=zaa (NO.o (by rw[RB.o,show (wdI ls 0 == 7)=false by rw[beq_eq_false_iff_ne];exact z];simp));obtain ⟨p0,p1,p2,p3⟩:=zad CB.o;have BR:Hid (Below w.heap.size w ((wr.setCell ⟨w.heap.size+1,0,none⟩ (.slice none 0 0)).setCell ⟨w.heap.size+1,1,none⟩ (.slice none 0 0))):=(BWr.o.setCell (by simp only;omega) _).setCell (by simp only;omega) _;clear z;go_wp2;refine bodyPost_ret (v:=.tuple #[.agg #[.slice none 0 0,.slice none 0 0],.int .i64 3]) (by simp[results,Tryz.results193,go_sem,p0,p1]) rfl ?_;obtain ⟨E1,E2,E3⟩:=EE.o;rw[E1,E2,E3];exact ⟨_,rfl,zdj _ _ _,BR.o⟩
     have q:(wdI ls 0 != 7)=false:=by rw[z];rfl
     rw[z] at RB;have LI2:=zaa (LI.o _ wr R0.o.rd (T.o.below BWr.o) (E.o.below BWr.o) (F.o.below BWr.o));clear LI;generalize zti (zbm ls 16) (zbw ls 24)=ib at *;rw[z] at h0;clear z q;go_wp2_with fail;refine LI2.o.mono ?_;rintro e w5 ⟨rfl,hb5⟩;have hz5:wr.heap.size≤w5.heap.size:=hb5.size;have B5:=zaa (zab BWr.o hb5 BWr.o.size);have R5:=zaa (R0.o.below hb5 (Nat.le_refl _));have CB5:=zaa ((hb5.block _ (by omega)).trans CB.o);have IM5:=zaa ((hb5.block _ IL).trans IM.o);clear n0 n1 h0 hb5 R0 CB IM LI2;obtain ⟨n0,n1,_,_⟩:=zad IM5.o;obtain ⟨p0,p1,p2,p3⟩:=zad CB5.o
     cases ib with
     | false =>
      have EE:=zaa (NO.o (by rw[RB.o];rfl));have BR:Hid (Below w.heap.size w ((w5.setCell ⟨w.heap.size+1,0,none⟩ (.slice none 0 0)).setCell ⟨w.heap.size+1,1,none⟩ (.slice none 0 0))):=(B5.o.setCell (by simp only;omega) _).setCell (by simp only;omega) _;go_wp2;refine bodyPost_ret (v:=.tuple #[.agg #[.slice none 0 0,.slice none 0 0],.int .i64 3]) (by simp[results,Tryz.results193,go_sem,p0,p1]) rfl ?_;obtain ⟨E1,E2,E3⟩:=EE.o;rw[E1,E2,E3];exact ⟨_,rfl,zdj _ _ _,BR.o⟩
     | true =>
      have EE:=zaa (YES.o (by rw[RB.o];rfl));have BR:Hid (Below w.heap.size w ((w5.setCell ⟨w.heap.size+1,0,none⟩ (.slice (some ⟨b1,0,none⟩) 16 c1)).setCell ⟨w.heap.size+1,1,none⟩ (.slice (some ⟨b2,0,none⟩) 24 c2))):=(B5.o.setCell (by simp only;omega) _).setCell (by simp only;omega) _;have RF:=zaa (zlz (zxt R5.o CB5.o (.slice (some ⟨b1,0,none⟩) 16 c1) (.slice (some ⟨b2,0,none⟩) 24 c2)) (lo':=w.heap.size) (hi':=((w5.setCell ⟨w.heap.size+1,0,none⟩ (.slice (some ⟨b1,0,none⟩) 16 c1)).setCell ⟨w.heap.size+1,1,none⟩ (.slice (some ⟨b2,0,none⟩) 24 c2)).heap.size) (by have:=BB.o.size;omega) (by simp;omega));clear CB5 R5 IM5;go_wp2;refine bodyPost_ret (v:=.tuple #[.agg #[.slice (some ⟨b1,0,none⟩) 16 c1,.slice (some ⟨b2,0,none⟩) 24 c2],.int .i64 0]) (by simp[results,Tryz.results193,go_sem,p0,p1]) rfl ?_;obtain ⟨E1,E2,E3⟩:=EE.o;rw[E1,E2,E3];exact ⟨_,rfl,RF.o,BR.o⟩
theorem yavu {ws:List Int} {ps:List St} {es:List Int} {qs:List Se} (h:zbp es qs=false):dvN ws ps es qs=[]∧dvD ws ps es qs=[]:=(yaqm (by rw[h,Bool.and_false])).2
theorem yawj {ws:List Int} {ps:List St} {es:List Int} {qs:List Se} (h:zbp es qs=true):dvN ws ps es qs=riN ws ps∧dvD ws ps es qs=riD ws ps:=by
 cases p:pmB ws ps with
 | true=>exact (yalh (by rw[p,h];rfl)).2
 | false =>
  obtain ⟨-,a,b⟩:=yaih p;obtain ⟨-,c,d⟩:=yaqm (ws:=ws) (ps:=ps) (es:=es) (qs:=qs) (by rw[p];rfl);exact ⟨by rw[a,c],by rw[b,d]⟩
theorem zlq {ws:List Int} {ps:List St} {es:List Int} {qs:List Se} (h:¬ dvB ws ps es qs=true):dvN ws ps es qs=[]∧dvD ws ps es qs=[]:=⟨by unfold dvN;rw[if_neg h],by unfold dvD;rw[if_neg h]⟩
theorem dv_R {ws:List Int} {ps:List St} {es:List Int} {qs:List Se}:∀ k (h:k < (dvN ws ps es qs).length),(dvN ws ps es qs)[k].R:=by
 by_cases c:dvB ws ps es qs=true
 ·obtain ⟨p,-,e,-,-⟩:=yadq c;rw[e];exact zuo p 16
 ·rw[(zlq c).1];intro k h
  cases h
theorem yatv {ws:List Int} {ps:List St} {es:List Int} {qs:List Se}:∀ k (h:k < (dvD ws ps es qs).length),(dvD ws ps es qs)[k].name.size≤maxLen:=by
 by_cases c:dvB ws ps es qs=true
 ·obtain ⟨p,-,-,e,-⟩:=yadq c;rw[e];exact zjq _ 24
 ·rw[(zlq c).2];intro k h
  cases h
theorem yaqp (ws:List Int) (ps:List St) (es:List Int) (qs:List Se):(dvN ws ps es qs).length≤1048576∧(dvD ws ps es qs).length≤1048576:=by
 by_cases c:dvB ws ps es qs=true
 ·obtain ⟨-,-,e1,e2,-⟩:=yadq c;rw[e1,e2,zbn,zbh];omega
 ·rw[(zlq c).1,(zlq c).2];exact ⟨by simp,by simp⟩
theorem yanr:zti [] []=false:=by decide
theorem yaui (ws:List Int) (ps:List St) (es:List Int) (qs:List Se):zti (dvN ws ps es qs) (dvD ws ps es qs)=dvB ws ps es qs:=by
 by_cases c:dvB ws ps es qs=true
 ·obtain ⟨-,-,e1,e2,h⟩:=yadq c;rw[e1,e2,h,c]
 ·rw[(zlq c).1,(zlq c).2,yanr];exact ((Bool.not_eq_true _).mp c).symm
theorem ztm (v:Value) (ws:List Int) (ps:List St) (es:List Int) (qs:List Se) (w:World) (h:RdDev w v ws ps es qs) (hw:ws.length≤1048576) (hp:ps.length≤1048576) (he:es.length≤1048576) (hq:qs.length≤1048576) (hT:TS w) (hE:ED w) (hF:FD w) :
  Calls Tryz.prog 165 #[v] w fun e w'=>∃ v',e=.returned v'∧RowIm w' w.heap.size w'.heap.size v' (dvN ws ps es qs) (dvD ws ps es qs)∧Below w.heap.size w w':=by
 obtain ⟨aW,cW,aP,cP,aS,cS,aQ,cQ,rfl,h1,h2⟩:=h.form;have LO:=zaa (fun w1 (hb:Below w.heap.size w w1)=>zbr _ es qs w1 (h2.below hb) he hq);have LR:=zaa (fun w1 (hb:Below w.heap.size w w1)=>zmg _ ws ps w1 (h1.below hb) hw hp (hT.below hb) (hE.below hb) (hF.below hb));have NO:=zaa (fun q=>yavu (ws:=ws) (ps:=ps) (es:=es) (qs:=qs) q);have YES:=zaa (fun q=>yawj (ws:=ws) (ps:=ps) (es:=es) (qs:=qs) q);clear h h1 h2 hT hE hF
 obtain ⟨W1,hW1⟩:∃ W1,W1=(w.alloc (.cells #[.slice aW ws.length cW,.slice aP ps.length cP,.slice aS es.length cS,.slice aQ qs.length cQ] 45)).alloc (.cells #[.slice none 0 0,.slice none 0 0] 102):=⟨_,rfl⟩
 have hz1:W1.heap.size=w.heap.size+1+1:=by rw[hW1];simp
 have CA:Hid (∀ w',Below W1.heap.size W1 w'→w'.cell? ⟨w.heap.size,0,none⟩=some (.slice aW ws.length cW)∧w'.cell? ⟨w.heap.size,1,none⟩=some (.slice aP ps.length cP)∧w'.cell? ⟨w.heap.size,2,none⟩=some (.slice aS es.length cS)∧w'.cell? ⟨w.heap.size,3,none⟩=some (.slice aQ qs.length cQ)):=fun w' hb=>by
  have:w'.heap[w.heap.size]?=some (.cells #[.slice aW ws.length cW,.slice aP ps.length cP,.slice aS es.length cS,.slice aQ qs.length cQ] 45 (0,0)):=(hb.block _ (by omega)).trans (by rw[hW1];exact zal (zag rfl));obtain ⟨x0,x1,x2,x3,-,-,-,-⟩:=zaf this;exact ⟨x0,x1,x2,x3⟩
 have CR:Hid (∀ w',Below W1.heap.size W1 w'→w'.heap[w.heap.size+1]?=some (.cells #[.slice none 0 0,.slice none 0 0] 102 (0,0))):=fun w' hb=>(hb.block _ (by omega)).trans (by
  rw[hW1];have:=zag (w:=w.alloc (.cells #[.slice aW ws.length cW,.slice aP ps.length cP,.slice aS es.length cS,.slice aQ qs.length cQ] 45)) (o:=.cells #[.slice none 0 0,.slice none 0 0] 102) rfl;rw[World.size_alloc] at this
  exact this)
 have BW:Hid (Below w.heap.size w W1):=by rw[hW1];exact ((Below.refl _ _).alloc (Nat.le_refl _) _).alloc (by simp) _
 have hz0:w.heap.size+1 < W1.heap.size:=by omega
 clear hz1;obtain ⟨x0,x1,x2,x3⟩:=CA.o W1 (Below.refl _ _);generalize riC ws ps=rc at *;generalize riN ws ps=rn at *;generalize riD ws ps=rd at *;generalize dvN ws ps es qs=dn at *;generalize dvD ws ps es qs=dd at *;generalize zbp es qs=ok at *;go_enter Tryz.func165,Tryz.ntmps165;go_wp2_with fail;rw[← hW1];clear hW1;refine (LO.o _ BW.o).mono ?_;rintro e w1 ⟨rfl,hb1⟩;have B1:=zaa hb1;have B1w:=zaa (zab BW.o B1.o BW.o.size);clear x0 x1 x2 x3 hb1;obtain ⟨x0,x1,x2,x3⟩:=CA.o w1 B1.o
 cases ok with
 | false =>
  obtain ⟨rfl,rfl⟩:=NO.o rfl;have CB:=zaa (CR.o _ B1.o);obtain ⟨p0,p1,p2,p3⟩:=zad CB.o;have BR:Hid (Below w.heap.size w ((w1.setCell ⟨w.heap.size+1,0,none⟩ (.slice none 0 0)).setCell ⟨w.heap.size+1,1,none⟩ (.slice none 0 0))):=(B1w.o.setCell (by simp only;omega) _).setCell (by simp only;omega) _;clear NO YES;go_wp2;refine bodyPost_ret (v:=.agg #[.slice none 0 0,.slice none 0 0]) (by simp[results,Tryz.results165,go_sem,p0,p1]) rfl ?_;exact ⟨_,rfl,zdj _ _ _,BR.o⟩
 | true =>
  obtain ⟨rfl,rfl⟩:=YES.o rfl;clear NO YES;go_wp2_with fail;refine (LR.o _ B1w.o).mono ?_;rintro e w2 ⟨v2,rfl,⟨vI,vD,rfl,hI,hD⟩,hb2⟩;obtain ⟨-,a1,c1,hv1,-⟩:=hI.rd;obtain ⟨-,a2,c2,hv2,-⟩:=hD.rd;subst hv1;subst hv2;have HI:=zaa hI;have HD:=zaa hD;have B2:=zaa (zjx B1.o hb2);have B3:Hid (Below W1.heap.size W1 (w2.alloc (.cells #[.slice a1 dn.length c1,.slice a2 dd.length c2] 102))):=zan B2.o _;have hz12:W1.heap.size≤w1.heap.size:=B1.o.size;have hz2:w1.heap.size≤w2.heap.size:=hb2.size;have hzw:w.heap.size≤w1.heap.size:=B1w.o.size;clear x0 x1 x2 x3 hb2 hI hD;obtain ⟨y0,y1,_,_⟩:=zad (zag (w:=w2) (o:=.cells #[.slice a1 dn.length c1,.slice a2 dd.length c2] 102) rfl)
  obtain ⟨w3,hw3⟩:∃ w3,w3=w2.alloc (.cells #[.slice a1 dn.length c1,.slice a2 dd.length c2] 102):=⟨_,rfl⟩
  have BC:Hid (Below w2.heap.size w2 w3):=by rw[hw3];exact (Below.refl _ _).alloc (Nat.le_refl _) _
  rw[← hw3] at B3 y0 y1;have HI3:=zaa (HI.o.below BC.o (Nat.le_refl _));have HD3:=zaa (HD.o.below BC.o (Nat.le_refl _));have hz3:w2.heap.size≤w3.heap.size:=BC.o.size;have CB:=zaa (CR.o _ B3.o);obtain ⟨p0,p1,p2,p3⟩:=zad CB.o;have BR:Hid (Below w.heap.size w ((w3.setCell ⟨w.heap.size+1,0,none⟩ (.slice a1 dn.length c1)).setCell ⟨w.heap.size+1,1,none⟩ (.slice a2 dd.length c2))):=((zab BW.o B3.o BW.o.size).setCell (by simp only;omega) _).setCell (by simp only;omega) _;have RF:=zaa (zlz (yaiz HI3.o HD3.o CB.o (.slice a1 dn.length c1) (.slice a2 dd.length c2)) (lo':=w.heap.size) (hi':=((w3.setCell ⟨w.heap.size+1,0,none⟩ (.slice a1 dn.length c1)).setCell ⟨w.heap.size+1,1,none⟩ (.slice a2 dd.length c2)).heap.size) (by omega) (by simp;omega));clear CB HI HD HI3 HD3 BC B3 B2 LR LO CA CR;subst hw3;go_wp2;refine bodyPost_ret (v:=.agg #[.slice a1 dn.length c1,.slice a2 dd.length c2]) (by simp[results,Tryz.results165,go_sem,p0,p1]) rfl ?_;exact ⟨_,rfl,RF.o,BR.o⟩
end Go.Proofs.YtahiphgmhndgaaaGreatDoor
