/- Several texts laid together: RdF, DuA, PaC, ShL, PbB. -/
import Derived.Test.YtpgoeagccmcifaaGreatDoorZAZ
import Derived.Test.YtpgoeagccmcifaaGreatDoorZBP
import Derived.Test.YtpgoeagccmcifaaGreatDoorZAO
import Derived.Deep.RegionLaw
import Derived.Test.YtpgoeagccmcifaaGreatDoorZAU
import Derived.Test.YtpgoeagccmcifaaGreatDoorZAK
import Derived.Deep.LoopGhost
import Derived.WalkMore
import Derived.Test.YtpgoeagccmcifaaGreatDoorRows
import Derived.Shelf.Small.Strs
import Derived.Shelf.Small.Wraps
import Derived.Shelf.Strings.Search3
import Derived.Shelf.Strings.Count
import Derived.Shelf.Strings.Split
import Derived.Test.YtpgoeagccmcifaaGreatDoorZAJ
set_option maxRecDepth 100000
set_option maxHeartbeats 4000000
namespace Go.Proofs.YtpgoeagccmcifaaGreatDoor
open Go.RowKit
theorem zuv {w:World} {base:Nat} {e:TypeId} {size:Nat} {v:Value} {n:Nat} {xs:List Value} (h:w.ownsRow base e size v n xs) (hn:0 < n):∃ b c,v=.slice (some ⟨b,0,none⟩) n c∧n≤c:=by
 rcases (zad h).shape with ⟨_,e,_⟩ | ⟨b,c,rfl,hc,_⟩
 ·omega
 ·exact ⟨b,c,rfl,hc⟩
theorem yanr (ls:List Int) (k:Nat):denZ (wdI ls (240+3*(k:Int))) (wdI ls (240+3*(k:Int)+1)) (wdI ls (240+3*(k:Int)+2))=zgh ls k∧zrk (wdI ls (240+3*(k:Int))) (wdI ls (240+3*(k:Int)+1)) (wdI ls (240+3*(k:Int)+2))=zbz ls k:=⟨rfl,rfl⟩
theorem yavu (ls:List Int) (n j:Nat) (h:n+j < ls.length):ls[n+j]=wdI ls ((n:Int)+(j:Int)):=by
 have:=yaux h;rw[← this]
 congr 1
theorem ybat (ls:List Int) (i:Nat) (hi:i < 16) (hl:ls.length=336) (j:Nat) (hj:j < 11):(zcp ls)[48+12*i+j]?=(zek ls i).cs[j]?:=by
 rw[zdg ls (48+12*i+j) (by omega),yavu ls (48+12*i) j (by omega),show (((48+12*i:Nat):Int)+(j:Int))=48+12*(i:Int)+(j:Int) by omega]
 rcases (show j=0∨j=1∨j=2∨j=3∨j=4∨j=5∨j=6∨j=7∨j=8∨j=9∨j=10 by omega) with rfl | rfl | rfl | rfl | rfl | rfl | rfl | rfl | rfl | rfl | rfl
 ·simp[zek,Ino.cs]
 all_goals rfl
theorem znz (v:Value) (ws:List Int) (ps:List St) (w:World) (h:RdPm w v ws ps) (hw:ws.length≤1048576) (hp:ps.length≤1048576) (hT:TS w) (hE:ED w) (hF:FD w) :
  Calls Tryz.prog 48 #[v] w fun e w'=>∃ v',e=.returned (.tuple #[v',.int .i64 (riC ws ps)])∧RowIm w' w.heap.size w'.heap.size v' (riN ws ps) (riD ws ps)∧Below w.heap.size w w':=by
 have HR:=zaa h;have LS:=zaa (fun w1 h=>zsy v ws ps w1 h hw hp);have T:=zaa hT;have E:=zaa hE;have F:=zaa hF;obtain ⟨vW,vP,rfl,h1,h2⟩:=h;obtain ⟨aW,cW,rfl,_,_⟩:=h1.shape;obtain ⟨aP,cP,rfl,_,_⟩:=h2.shape;clear h1 h2 hT hE hF
 obtain ⟨W1,hW1⟩:∃ W1,W1=(w.alloc (.cells #[.slice aW ws.length cW,.slice aP ps.length cP] 26)).alloc (.cells #[.slice none 0 0,.slice none 0 0] 67):=⟨_,rfl⟩
 have hz1:W1.heap.size=w.heap.size+1+1:=by rw[hW1];simp
 have CA:Hid (∀ w',Below W1.heap.size W1 w'→w'.cell? ⟨w.heap.size,0,none⟩=some (.slice aW ws.length cW)∧w'.cell? ⟨w.heap.size,1,none⟩=some (.slice aP ps.length cP)):=fun w' hb=>by
  have:w'.heap[w.heap.size]?=some (.cells #[.slice aW ws.length cW,.slice aP ps.length cP] 26 (0,0)):=(hb.block _ (by omega)).trans (by rw[hW1];exact zaj (zag rfl));exact ⟨(zac this).1,(zac this).2.1⟩
 have CR:Hid (∀ w',Below W1.heap.size W1 w'→w'.heap[w.heap.size+1]?=some (.cells #[.slice none 0 0,.slice none 0 0] 67 (0,0))):=fun w' hb=>(hb.block _ (by omega)).trans (by
  rw[hW1];have:=zag (w:=w.alloc (.cells #[.slice aW ws.length cW,.slice aP ps.length cP] 26)) (o:=.cells #[.slice none 0 0,.slice none 0 0] 67) rfl;rw[World.size_alloc] at this
  exact this)
 have BW:Hid (Below w.heap.size w W1):=by rw[hW1];exact ((Below.refl _ _).alloc (Nat.le_refl _) _).alloc (by simp) _
 have hz0:w.heap.size+1 < W1.heap.size:=by omega
 clear hz1;obtain ⟨x0,x1⟩:=CA.o W1 (Below.refl _ _)
 cases c1:pmB ws ps with
 | false =>
  obtain ⟨E1,E2,E3⟩:=yapp c1;obtain ⟨S1,S2⟩:=yafd c1;rw[S1,S2] at LS;rw[E1,E2,E3];clear c1 E1 E2 E3 S1 S2;go_enter Tryz.func48,Tryz.ntmps48;go_wp2_with fail;rw[← hW1];clear hW1;refine (LS.o _ (HR.o.below BW.o)).mono ?_;rintro e w1 ⟨v1,rfl,_,hb1⟩;have B1:=zaa hb1;clear x0 x1 hb1;have CB:=zaa (CR.o _ B1.o);obtain ⟨p0,p1,p2,p3⟩:=zac CB.o;have BR:Hid (Below w.heap.size w ((w1.setCell ⟨w.heap.size+1,0,none⟩ (.slice none 0 0)).setCell ⟨w.heap.size+1,1,none⟩ (.slice none 0 0))):=((zab BW.o B1.o BW.o.size).setCell (by simp only;omega) _).setCell (by simp only;omega) _;go_wp2;refine bodyPost_ret (v:=.tuple #[.agg #[.slice none 0 0,.slice none 0 0],.int .i64 1]) (by simp[results,Tryz.results48,go_sem,p0,p1]) rfl ?_;exact ⟨_,rfl,zdt _ _ _,BR.o⟩
 | true =>
 have C1:=zaa c1;obtain ⟨S1,S2⟩:=yakx c1;rw[S1,S2] at LS;have L336:=zaa (show (zbs ws ps).length=336 by rw[zco];exact (zfc c1).1);have WR:=zaa (fun z=>zqz c1 z);have NO:=zaa (fun q=>yacb C1.o q);have YES:=zaa (fun q=>yaxq C1.o q);have RB:=zaa (show riB (zbs ws ps)=(wdI (zbs ws ps) 0 == 7 && (zcg (zbs ws ps) 24 && zcj (zbc (zbs ws ps) 16) (zbh (zbs ws ps) 24))) from rfl);have LI:=zaa (fun v w1 h hT hE hF=>zgm v (zbc (zbs ws ps) 16) (zbh (zbs ws ps) 24) w1 h (by rw[zbx];omega) (by rw[zbm];omega) hT hE hF (zva C1.o 16) (zkr _ 24));clear c1 S1 S2;generalize riC ws ps=rc at *;generalize riN ws ps=rn at *;generalize riD ws ps=rd at *;generalize zbs ws ps=ls at *;go_enter Tryz.func48,Tryz.ntmps48;go_wp2_with fail;rw[← hW1];clear hW1;refine (LS.o _ (HR.o.below BW.o)).mono ?_;rintro e w1 ⟨v1,rfl,hr1,hb1⟩;have B1:=zaa hb1;have hzz:W1.heap.size≤w1.heap.size:=hb1.size;obtain ⟨b,c,rfl,hcap⟩:=zuv hr1.1 (by have:=L336.o;omega)
 obtain ⟨_,_,_,hbl,_,hcl⟩:=hr1.at
 have HC:Hid (∀ w',Below w1.heap.size w1 w'→∀ j,j < 336→w'.cell? ⟨b,j,none⟩=(zcp ls)[j]?):=fun w' hb j hj=>(hb.cell (p:=⟨b,j,none⟩) hbl).trans (hcl j (by have:=L336.o;omega))
 have c336:336≤c:=by have:=L336.o;omega
 simp only[L336.o];clear hr1 hb1 hcl hcap x0 x1 LS
 have START:Hid (RimI w1 (w1.alloc (.cells #[.slice none 0 0,.slice none 0 0] 67)) w1.heap.size (.slice none 0 0) (.slice none 0 0) (zbc ls 0) []):=⟨zag rfl,World.ownsRow_nil _ _ _ _,World.ownsRow_nil _ _ _ _,(Below.refl _ _).alloc (Nat.le_refl _) _,Nat.le_refl _⟩
 go_wp2_with fail
 go_loopg [20] 16 (fun g i wr=>∃ k:Nat,k+g=16∧i=.int .i64 k∧Hid (∃ vI vD,RimI w1 wr w1.heap.size vI vD (zbc ls k) []))
 case atStart=>exact ⟨0,rfl,rfl,_,_,START.o⟩
 case round =>
  obtain ⟨k,hk,rfl,J⟩:=hrel;obtain ⟨vI,vD,I⟩:=J.o;have I:=zaa I
  have k0:(0:Int)≤(k:Int):=by omega
  clear J START
  by_cases hlt:k < 16
  ·have k1:(k:Int) < 16:=by omega
   obtain ⟨n,hn⟩:∃ n:Nat,n=48+12*k:=⟨_,rfl⟩
   have wm:IntKind.i64.wrap (12*(k:Int))=12*(k:Int):=by rw[IntKind.wrap_i64];omega
   have wa:IntKind.i64.wrap (48+12*(k:Int))=(n:Int):=by rw[IntKind.wrap_i64];omega
   have a0:(0:Int)≤(n:Int):=by omega
   have a1:(n:Int)≤336:=by omega
   have a2:(n:Int)≤(c:Int):=by omega
   have a3:¬ c=n:=by omega
   have LRI:=zaa (fun w2 (hb:Below wr.heap.size wr w2)=>zwh b n (336 - n) (c - n) (zek ls k) w2 (by omega) (by omega) (Nat.lt_of_lt_of_le hbl (zab I.o.b hb I.o.z).size) (fun j hj=>by
    have:=HC.o w2 (zab I.o.b hb I.o.z) (n+j) (by omega);rw[this,hn]
    exact ybat ls k hlt L336.o j hj))
   have MN:=zaa (zqt ls k);have ML:=zbx ls k;unfold Ino.v at LRI;clear hn;generalize zek ls k=x at *;obtain ⟨m0,m1,_,_⟩:=zac I.o.m;have hzI:=I.o.z;go_wp2_with fail
   go_region_law (first
     | (go_simp;go_at_call 99;refine (LRI.o _ (by repeat (first | with_reducible exact BF.o | with_reducible exact Below.refl _ _ | with_reducible refine Below.drew ?_))).mono ?_;rintro e w2 ⟨rfl,hb2⟩;have BF:Hid (Below wr.heap.size wr w2):=zim (by repeat (first | with_reducible exact BF.o | with_reducible exact Below.refl _ _ | with_reducible refine Below.drew ?_)) hb2;clear hb2;have IA:=zaa ((I.o.below BF.o).below ((Below.refl _ _).alloc (Nat.le_refl _) (.cells #[.int .i64 x.kind,.int .i64 x.size,.int .i64 x.links,.int .i64 x.m0,.int .i64 x.m1,.int .i64 x.m2,.int .i64 x.m3,.int .i64 x.m4,.int .i64 x.m5,.int .i64 x.m6,.int .i64 x.m7] 59)));have RX:=zaa (yavl w2 x);obtain ⟨e0,e1,_,_⟩:=zac (I.o.below BF.o).m;obtain ⟨f0,f1,_,_⟩:=zac IA.o.m)
     | (refine zap rfl (.tmp 24) (.tmp 31) 64 rfl w1.heap.size 59 (.agg #[.int .i64 0,.int .i64 0,.int .i64 0,.int .i64 0,.int .i64 0,.int .i64 0,.int .i64 0,.int .i64 0,.int .i64 0,.int .i64 0,.int .i64 0]) 11 88 Tryz.underlying64 yanx rfl (by decide) _ _ _ rfl IA.o.i _ 1 _ rfl RX.o (zyo _) (by simp[maxLen];omega) (by omega) IA.o.z ?_;intro vN wN hownN hgrN;obtain ⟨bN,cN,rfl,_⟩:=zuv hownN (by omega);have GG:=zaa (IA.o.growI x hownN hgrN);obtain ⟨g0,g1,g2,g3⟩:=zac GG.o.1;clear hownN hgrN))
   all_goals
    have G:=zaa GG.o.2;rw[← MN.o] at G;simp only[zbx] at G;go_wp2
    go_roundg (16 - (k+1))
    case measure=>omega
    case rel=>exact ⟨k+1,by omega,by go_num,_,_,G.o⟩
  ·obtain rfl:k=16:=by omega
   have SE:Hid (∃ vI vD,RimI w1 wr w1.heap.size vI vD (zbc ls 16) (zbh ls 0)):=⟨vI,vD,I.o⟩
   have AG0:Hid (∀ j,j < 0→zbz ls j=true):=fun j h=>absurd h (by omega)
   have BB:=zaa (zab BW.o B1.o BW.o.size);clear I;go_wp2_with fail
   go_loopg [35] 24 (fun g i wq=>∃ k:Nat,k+g=24∧i=.int .i64 k∧Hid ((∃ vI vD,RimI w1 wq w1.heap.size vI vD (zbc ls 16) (zbh ls k))∧∀ j,j < k→zbz ls j=true))
   case atStart=>exact ⟨0,rfl,rfl,SE.o,AG0.o⟩
   case round =>
    obtain ⟨k,hk,rfl,J⟩:=hrel;obtain ⟨vI,vD,I⟩:=J.o.1;have I:=zaa I;have AG:=zaa J.o.2
    have k0:(0:Int)≤(k:Int):=by omega
    clear J SE AG0
    by_cases hlt:k < 24
    ·have k1:(k:Int) < 24:=by omega
     obtain ⟨n,hn⟩:∃ n:Nat,n=240+3*k:=⟨_,rfl⟩
     have wm:IntKind.i64.wrap (3*(k:Int))=3*(k:Int):=by rw[IntKind.wrap_i64];omega
     have wa:IntKind.i64.wrap (240+3*(k:Int))=(n:Int):=by rw[IntKind.wrap_i64];omega
     have a0:(0:Int)≤(n:Int):=by omega
     have a1:(n:Int)≤336:=by omega
     have a2:(n:Int)≤(c:Int):=by omega
     have a3:¬ c=n:=by omega
     have r1:=WR.o (240+3*(k:Int)+1);have r2:=WR.o (240+3*(k:Int)+2)
     have HX:Hid (∀ w2,Below wr.heap.size wr w2→∀ j:Nat,j < 3→w2.cell? ⟨b,n+j,none⟩=some (.int .i64 (wdI ls (240+3*(k:Int)+(j:Int))))):=fun w2 hb j hj=>by
      rw[HC.o w2 (zab I.o.b hb I.o.z) (n+j) (by omega),zdg ls (n+j) (by have:=L336.o;omega),yavu ls n j (by have:=L336.o;omega),show ((n:Int)+(j:Int))=240+3*(k:Int)+(j:Int) by omega]
     have LRD:=zaa (fun w2 (hb:Below wr.heap.size wr w2)=>zsu b n (336 - n) (c - n) (wdI ls (240+3*(k:Int))) (wdI ls (240+3*(k:Int)+1)) (wdI ls (240+3*(k:Int)+2)) w2 (by omega) (by omega) (Nat.lt_of_lt_of_le hbl (zab I.o.b hb I.o.z).size) (by have:=HX.o w2 hb 0 (by omega);simpa using this) (by have:=HX.o w2 hb 1 (by omega);simpa using this) (by have:=HX.o w2 hb 2 (by omega);simpa using this) (F.o.below (zab BB.o (zab I.o.b hb I.o.z) BB.o.size)) (by omega) (by omega));simp only[(yanr ls k).1,(yanr ls k).2] at LRD
     have AGN:Hid (zbz ls k=true→∀ j,j < k+1→zbz ls j=true):=fun q j h=>by
      by_cases e:j=k
      ·subst e;exact q
      ·exact AG.o j (by omega)
     have MN:=zaa (zkv ls k);have ML:=zbm ls k
     have GF:Hid (zbz ls k=false→zcg ls 24=false):=fun q=>zjm (n:=24) hlt q
     clear hn HX r1 r2;generalize zgh ls k=x at *;generalize zbz ls k=gd at *;go_wp2_with fail;refine (LRD.o _ (Below.refl _ _)).mono ?_;rintro e w2 ⟨⟨s,rfl,hs⟩,hb2⟩;have B2:=zaa hb2;clear LRD hb2;have B3:=zaa (zar B2.o (.cells #[.int .i64 x.dir,.string s,.int .i64 x.child] 155));have hz2:wr.heap.size≤w2.heap.size:=B2.o.size;have hz3:w1.heap.size≤wr.heap.size:=I.o.z
     cases gd with
     | false =>
      clear hs AGN MN ML;have CB:=zaa (CR.o _ (zim B1.o (zab I.o.b B3.o I.o.z)));obtain ⟨p0,p1,p2,p3⟩:=zac CB.o;have EE:=zaa (NO.o (by rw[RB.o,GF.o rfl];simp));have BR:Hid (Below w.heap.size w (((w2.alloc (.cells #[.int .i64 x.dir,.string s,.int .i64 x.child] 155)).setCell ⟨w.heap.size+1,0,none⟩ (.slice none 0 0)).setCell ⟨w.heap.size+1,1,none⟩ (.slice none 0 0))):=((zab BB.o (zab I.o.b B3.o I.o.z) BB.o.size).setCell (by simp only;omega) _).setCell (by simp only;omega) _;go_wp2;refine bodyPost_ret (v:=.tuple #[.agg #[.slice none 0 0,.slice none 0 0],.int .i64 3]) (by simp[results,Tryz.results48,go_sem,p0,p1]) rfl ?_;obtain ⟨E1,E2,E3⟩:=EE.o;rw[E1,E2,E3];exact ⟨_,rfl,zdt _ _ _,BR.o⟩
     | true =>
      obtain rfl:=hs rfl;have AG2:=zaa (AGN.o rfl);clear hs GF AGN;have XB:Hid (BoxZ 155 wr (w2.alloc (.cells #[.int .i64 x.dir,.string x.name,.int .i64 x.child] 155)) w2.heap.size [.int .i64 x.dir,.string x.name,.int .i64 x.child]):=BoxZ.new B2.o;have e0:=(XB.o.cell 0).1;have e1:=(XB.o.cell 1).1;have e2:=(XB.o.cell 2).1;simp only[List.getElem?_cons_zero,List.getElem?_cons_succ] at e0 e1 e2;have IR:=zaa (I.o.below B3.o);obtain ⟨n0,n1,_,_⟩:=zac IR.o.m;have IA:=zaa (IR.o.below ((Below.refl _ _).alloc (Nat.le_refl _) (.cells #[.int .i64 x.dir,.string x.name,.int .i64 x.child] 155)));have RX:=zaa (yafw (w2.alloc (.cells #[.int .i64 x.dir,.string x.name,.int .i64 x.child] 155)) x);simp only[World.size_alloc] at RX;have hzA:=IA.o.z;simp only[World.size_alloc] at hzA;go_wp2_with (at_builtin;refine zae _ rfl (.tmp 51) (.tmp 53) 65 rfl w1.heap.size 155 (.agg #[.int .i64 0,.string ⟨#[]⟩,.int .i64 0]) 3 32 Tryz.underlying65 zqx rfl (by decide) _ _ _ rfl IA.o.d _ 1 _ rfl RX.o (ziz _) (by simp[maxLen];omega) (by omega) IA.o.z ?_);intro vN wN hownN hgrN;obtain ⟨bN,cN,rfl,_⟩:=zuv hownN (by omega);obtain ⟨g1,g2⟩:=IA.o.growD x (by rw[zbm];exact hownN) hgrN;have G:=zaa g2;rw[← MN.o] at G;clear n0 n1 g2 IA RX hownN hgrN ML MN;obtain ⟨n0,n1,n2,n3⟩:=zac g1;clear g1;go_wp2
      go_roundg (24 - (k+1))
      case measure=>omega
      case rel=>exact ⟨k+1,by omega,by go_num,⟨_,_,G.o⟩,AG2.o⟩
    ·obtain rfl:k=24:=by omega
     have EB:=zaa (zhq (ls:=ls) (n:=24) AG.o);rw[EB.o,Bool.true_and] at RB
     rcases (zad I.o.i).shape with ⟨_,e,_⟩ | ⟨b1,c1,rfl,_,_⟩
     ·rw[zbx] at e;omega
     rcases (zad I.o.d).shape with ⟨_,e,_⟩ | ⟨b2,c2,rfl,_,_⟩
     ·rw[zbm] at e;omega
     simp only[zbx,zbm] at I
     have R0:Hid (RowIm wr w1.heap.size wr.heap.size (.agg #[.slice (some ⟨b1,0,none⟩) 16 c1,.slice (some ⟨b2,0,none⟩) 24 c2]) (zbc ls 16) (zbh ls 24)):=⟨_,_,rfl,zad I.o.i,zad I.o.d⟩
     obtain ⟨n0,n1,_,_⟩:=zac I.o.m;have hzr:w1.heap.size≤wr.heap.size:=I.o.z;have BWr:=zaa (zab BB.o I.o.b BB.o.size);have CB:=zaa (CR.o _ (zim B1.o I.o.b));have IM:=zaa I.o.m;have IL:=I.o.lt
     have h0:wr.cell? ⟨b,0,none⟩=some (.int .i64 (wdI ls 0)):=by
      rw[HC.o wr I.o.b 0 (by omega),zdg ls 0 (by have:=L336.o;omega),yavu ls 0 0 (by have:=L336.o;omega)];rfl
     clear AG EB I HC WR
     by_cases z:wdI ls 0=7
     case neg =>
      have q:(wdI ls 0 != 7)=true:=by rw[bne_iff_ne];exact z
      have EE:=zaa (NO.o (by rw[RB.o,show (wdI ls 0 == 7)=false by rw[beq_eq_false_iff_ne];exact z];simp));obtain ⟨p0,p1,p2,p3⟩:=zac CB.o;have BR:Hid (Below w.heap.size w ((wr.setCell ⟨w.heap.size+1,0,none⟩ (.slice none 0 0)).setCell ⟨w.heap.size+1,1,none⟩ (.slice none 0 0))):=(BWr.o.setCell (by simp only;omega) _).setCell (by simp only;omega) _;clear z;go_wp2;refine bodyPost_ret (v:=.tuple #[.agg #[.slice none 0 0,.slice none 0 0],.int .i64 3]) (by simp[results,Tryz.results48,go_sem,p0,p1]) rfl ?_;obtain ⟨E1,E2,E3⟩:=EE.o;rw[E1,E2,E3];exact ⟨_,rfl,zdt _ _ _,BR.o⟩
     have q:(wdI ls 0 != 7)=false:=by rw[z];rfl
     rw[z] at RB;have LI2:=zaa (LI.o _ wr R0.o.rd (T.o.below BWr.o) (E.o.below BWr.o) (F.o.below BWr.o));clear LI;generalize zcj (zbc ls 16) (zbh ls 24)=ib at *;rw[z] at h0;clear z q;go_wp2_with fail;refine LI2.o.mono ?_;rintro e w5 ⟨rfl,hb5⟩;have hz5:wr.heap.size≤w5.heap.size:=hb5.size;have B5:=zaa (zab BWr.o hb5 BWr.o.size);have R5:=zaa (R0.o.below hb5 (Nat.le_refl _));have CB5:=zaa ((hb5.block _ (by omega)).trans CB.o);have IM5:=zaa ((hb5.block _ IL).trans IM.o);clear n0 n1 h0 hb5 R0 CB IM LI2;obtain ⟨n0,n1,_,_⟩:=zac IM5.o;obtain ⟨p0,p1,p2,p3⟩:=zac CB5.o
     cases ib with
     | false =>
      have EE:=zaa (NO.o (by rw[RB.o];rfl));have BR:Hid (Below w.heap.size w ((w5.setCell ⟨w.heap.size+1,0,none⟩ (.slice none 0 0)).setCell ⟨w.heap.size+1,1,none⟩ (.slice none 0 0))):=(B5.o.setCell (by simp only;omega) _).setCell (by simp only;omega) _;go_wp2;refine bodyPost_ret (v:=.tuple #[.agg #[.slice none 0 0,.slice none 0 0],.int .i64 3]) (by simp[results,Tryz.results48,go_sem,p0,p1]) rfl ?_;obtain ⟨E1,E2,E3⟩:=EE.o;rw[E1,E2,E3];exact ⟨_,rfl,zdt _ _ _,BR.o⟩
     | true =>
      have EE:=zaa (YES.o (by rw[RB.o];rfl));have BR:Hid (Below w.heap.size w ((w5.setCell ⟨w.heap.size+1,0,none⟩ (.slice (some ⟨b1,0,none⟩) 16 c1)).setCell ⟨w.heap.size+1,1,none⟩ (.slice (some ⟨b2,0,none⟩) 24 c2))):=(B5.o.setCell (by simp only;omega) _).setCell (by simp only;omega) _;have RF:=zaa (zjq (zxl R5.o CB5.o (.slice (some ⟨b1,0,none⟩) 16 c1) (.slice (some ⟨b2,0,none⟩) 24 c2)) (lo':=w.heap.size) (hi':=((w5.setCell ⟨w.heap.size+1,0,none⟩ (.slice (some ⟨b1,0,none⟩) 16 c1)).setCell ⟨w.heap.size+1,1,none⟩ (.slice (some ⟨b2,0,none⟩) 24 c2)).heap.size) (by have:=BB.o.size;omega) (by simp;omega));clear CB5 R5 IM5;go_wp2;refine bodyPost_ret (v:=.tuple #[.agg #[.slice (some ⟨b1,0,none⟩) 16 c1,.slice (some ⟨b2,0,none⟩) 24 c2],.int .i64 0]) (by simp[results,Tryz.results48,go_sem,p0,p1]) rfl ?_;obtain ⟨E1,E2,E3⟩:=EE.o;rw[E1,E2,E3];exact ⟨_,rfl,RF.o,BR.o⟩
theorem ybay {ws:List Int} {ps:List St} {es:List Int} {qs:List Se} (h:zdj es qs=false):dvN ws ps es qs=[]∧dvD ws ps es qs=[]:=(yaky (by rw[h,Bool.and_false])).2
theorem ybbw {ws:List Int} {ps:List St} {es:List Int} {qs:List Se} (h:zdj es qs=true):dvN ws ps es qs=riN ws ps∧dvD ws ps es qs=riD ws ps:=by
 cases p:pmB ws ps with
 | true=>exact (yala (by rw[p,h];rfl)).2
 | false =>
  obtain ⟨-,a,b⟩:=yapp p;obtain ⟨-,c,d⟩:=yaky (ws:=ws) (ps:=ps) (es:=es) (qs:=qs) (by rw[p];rfl);exact ⟨by rw[a,c],by rw[b,d]⟩
theorem zns {ws:List Int} {ps:List St} {es:List Int} {qs:List Se} (h:¬ dvB ws ps es qs=true):dvN ws ps es qs=[]∧dvD ws ps es qs=[]:=⟨by unfold dvN;rw[if_neg h],by unfold dvD;rw[if_neg h]⟩
theorem dv_R {ws:List Int} {ps:List St} {es:List Int} {qs:List Se}:∀ k (h:k < (dvN ws ps es qs).length),(dvN ws ps es qs)[k].R:=by
 by_cases c:dvB ws ps es qs=true
 ·obtain ⟨p,-,e,-,-⟩:=zfo c;rw[e];exact zva p 16
 ·rw[(zns c).1];intro k h
  cases h
theorem zut {ws:List Int} {ps:List St} {es:List Int} {qs:List Se}:∀ k (h:k < (dvD ws ps es qs).length),(dvD ws ps es qs)[k].name.size≤maxLen:=by
 by_cases c:dvB ws ps es qs=true
 ·obtain ⟨p,-,-,e,-⟩:=zfo c;rw[e];exact zkr _ 24
 ·rw[(zns c).2];intro k h
  cases h
theorem zoe (ws:List Int) (ps:List St) (es:List Int) (qs:List Se):(dvN ws ps es qs).length≤1048576∧(dvD ws ps es qs).length≤1048576:=by
 by_cases c:dvB ws ps es qs=true
 ·obtain ⟨-,-,e1,e2,-⟩:=zfo c;rw[e1,e2,zbx,zbm];omega
 ·rw[(zns c).1,(zns c).2];exact ⟨by simp,by simp⟩
theorem yase:zcj [] []=false:=by decide
theorem yaer (ws:List Int) (ps:List St) (es:List Int) (qs:List Se):zcj (dvN ws ps es qs) (dvD ws ps es qs)=dvB ws ps es qs:=by
 by_cases c:dvB ws ps es qs=true
 ·obtain ⟨-,-,e1,e2,h⟩:=zfo c;rw[e1,e2,h,c]
 ·rw[(zns c).1,(zns c).2,yase];exact ((Bool.not_eq_true _).mp c).symm
theorem zhz (v:Value) (ws:List Int) (ps:List St) (es:List Int) (qs:List Se) (w:World) (h:RdDev w v ws ps es qs) (hw:ws.length≤1048576) (hp:ps.length≤1048576) (he:es.length≤1048576) (hq:qs.length≤1048576) (hT:TS w) (hE:ED w) (hF:FD w) :
  Calls Tryz.prog 19 #[v] w fun e w'=>∃ v',e=.returned v'∧RowIm w' w.heap.size w'.heap.size v' (dvN ws ps es qs) (dvD ws ps es qs)∧Below w.heap.size w w':=by
 obtain ⟨aW,cW,aP,cP,aS,cS,aQ,cQ,rfl,h1,h2⟩:=h.form;have LO:=zaa (fun w1 (hb:Below w.heap.size w w1)=>zdf _ es qs w1 (h2.below hb) he hq);have LR:=zaa (fun w1 (hb:Below w.heap.size w w1)=>znz _ ws ps w1 (h1.below hb) hw hp (hT.below hb) (hE.below hb) (hF.below hb));have NO:=zaa (fun q=>ybay (ws:=ws) (ps:=ps) (es:=es) (qs:=qs) q);have YES:=zaa (fun q=>ybbw (ws:=ws) (ps:=ps) (es:=es) (qs:=qs) q);clear h h1 h2 hT hE hF
 obtain ⟨W1,hW1⟩:∃ W1,W1=(w.alloc (.cells #[.slice aW ws.length cW,.slice aP ps.length cP,.slice aS es.length cS,.slice aQ qs.length cQ] 31)).alloc (.cells #[.slice none 0 0,.slice none 0 0] 67):=⟨_,rfl⟩
 have hz1:W1.heap.size=w.heap.size+1+1:=by rw[hW1];simp
 have CA:Hid (∀ w',Below W1.heap.size W1 w'→w'.cell? ⟨w.heap.size,0,none⟩=some (.slice aW ws.length cW)∧w'.cell? ⟨w.heap.size,1,none⟩=some (.slice aP ps.length cP)∧w'.cell? ⟨w.heap.size,2,none⟩=some (.slice aS es.length cS)∧w'.cell? ⟨w.heap.size,3,none⟩=some (.slice aQ qs.length cQ)):=fun w' hb=>by
  have:w'.heap[w.heap.size]?=some (.cells #[.slice aW ws.length cW,.slice aP ps.length cP,.slice aS es.length cS,.slice aQ qs.length cQ] 31 (0,0)):=(hb.block _ (by omega)).trans (by rw[hW1];exact zaj (zag rfl));obtain ⟨x0,x1,x2,x3,-,-,-,-⟩:=zai this;exact ⟨x0,x1,x2,x3⟩
 have CR:Hid (∀ w',Below W1.heap.size W1 w'→w'.heap[w.heap.size+1]?=some (.cells #[.slice none 0 0,.slice none 0 0] 67 (0,0))):=fun w' hb=>(hb.block _ (by omega)).trans (by
  rw[hW1];have:=zag (w:=w.alloc (.cells #[.slice aW ws.length cW,.slice aP ps.length cP,.slice aS es.length cS,.slice aQ qs.length cQ] 31)) (o:=.cells #[.slice none 0 0,.slice none 0 0] 67) rfl;rw[World.size_alloc] at this
  exact this)
 have BW:Hid (Below w.heap.size w W1):=by rw[hW1];exact ((Below.refl _ _).alloc (Nat.le_refl _) _).alloc (by simp) _
 have hz0:w.heap.size+1 < W1.heap.size:=by omega
 clear hz1;obtain ⟨x0,x1,x2,x3⟩:=CA.o W1 (Below.refl _ _);generalize riC ws ps=rc at *;generalize riN ws ps=rn at *;generalize riD ws ps=rd at *;generalize dvN ws ps es qs=dn at *;generalize dvD ws ps es qs=dd at *;generalize zdj es qs=ok at *;go_enter Tryz.func19,Tryz.ntmps19;go_wp2_with fail;rw[← hW1];clear hW1;refine (LO.o _ BW.o).mono ?_;rintro e w1 ⟨rfl,hb1⟩;have B1:=zaa hb1;have B1w:=zaa (zab BW.o B1.o BW.o.size);clear x0 x1 x2 x3 hb1;obtain ⟨x0,x1,x2,x3⟩:=CA.o w1 B1.o
 cases ok with
 | false =>
  obtain ⟨rfl,rfl⟩:=NO.o rfl;have CB:=zaa (CR.o _ B1.o);obtain ⟨p0,p1,p2,p3⟩:=zac CB.o;have BR:Hid (Below w.heap.size w ((w1.setCell ⟨w.heap.size+1,0,none⟩ (.slice none 0 0)).setCell ⟨w.heap.size+1,1,none⟩ (.slice none 0 0))):=(B1w.o.setCell (by simp only;omega) _).setCell (by simp only;omega) _;clear NO YES;go_wp2;refine bodyPost_ret (v:=.agg #[.slice none 0 0,.slice none 0 0]) (by simp[results,Tryz.results19,go_sem,p0,p1]) rfl ?_;exact ⟨_,rfl,zdt _ _ _,BR.o⟩
 | true =>
  obtain ⟨rfl,rfl⟩:=YES.o rfl;clear NO YES;go_wp2_with fail;refine (LR.o _ B1w.o).mono ?_;rintro e w2 ⟨v2,rfl,⟨vI,vD,rfl,hI,hD⟩,hb2⟩;obtain ⟨-,a1,c1,hv1,-⟩:=hI.rd;obtain ⟨-,a2,c2,hv2,-⟩:=hD.rd;subst hv1;subst hv2;have HI:=zaa hI;have HD:=zaa hD;have B2:=zaa (zim B1.o hb2);have B3:Hid (Below W1.heap.size W1 (w2.alloc (.cells #[.slice a1 dn.length c1,.slice a2 dd.length c2] 67))):=zar B2.o _;have hz12:W1.heap.size≤w1.heap.size:=B1.o.size;have hz2:w1.heap.size≤w2.heap.size:=hb2.size;have hzw:w.heap.size≤w1.heap.size:=B1w.o.size;clear x0 x1 x2 x3 hb2 hI hD;obtain ⟨y0,y1,_,_⟩:=zac (zag (w:=w2) (o:=.cells #[.slice a1 dn.length c1,.slice a2 dd.length c2] 67) rfl)
  obtain ⟨w3,hw3⟩:∃ w3,w3=w2.alloc (.cells #[.slice a1 dn.length c1,.slice a2 dd.length c2] 67):=⟨_,rfl⟩
  have BC:Hid (Below w2.heap.size w2 w3):=by rw[hw3];exact (Below.refl _ _).alloc (Nat.le_refl _) _
  rw[← hw3] at B3 y0 y1;have HI3:=zaa (HI.o.below BC.o (Nat.le_refl _));have HD3:=zaa (HD.o.below BC.o (Nat.le_refl _));have hz3:w2.heap.size≤w3.heap.size:=BC.o.size;have CB:=zaa (CR.o _ B3.o);obtain ⟨p0,p1,p2,p3⟩:=zac CB.o;have BR:Hid (Below w.heap.size w ((w3.setCell ⟨w.heap.size+1,0,none⟩ (.slice a1 dn.length c1)).setCell ⟨w.heap.size+1,1,none⟩ (.slice a2 dd.length c2))):=((zab BW.o B3.o BW.o.size).setCell (by simp only;omega) _).setCell (by simp only;omega) _;have RF:=zaa (zjq (yaaj HI3.o HD3.o CB.o (.slice a1 dn.length c1) (.slice a2 dd.length c2)) (lo':=w.heap.size) (hi':=((w3.setCell ⟨w.heap.size+1,0,none⟩ (.slice a1 dn.length c1)).setCell ⟨w.heap.size+1,1,none⟩ (.slice a2 dd.length c2)).heap.size) (by omega) (by simp;omega));clear CB HI HD HI3 HD3 BC B3 B2 LR LO CA CR;subst hw3;go_wp2;refine bodyPost_ret (v:=.agg #[.slice a1 dn.length c1,.slice a2 dd.length c2]) (by simp[results,Tryz.results19,go_sem,p0,p1]) rfl ?_;exact ⟨_,rfl,RF.o,BR.o⟩
theorem zxq (v:Value) (ws:List Ino) (ps:List Den) (i:Int) (w:World) (h:RdIm w v ws ps) (hl:ws.length=16) (h0:0≤i∧i≤15) :
  Calls Tryz.prog 46 #[v,.int .i64 i] w fun e w'=>e=.returned (.bool (zal ws i == 2))∧Below w.heap.size w w':=by
 obtain ⟨vW,vP,rfl,h1,h2⟩:=h;obtain ⟨aW,cW,rfl,_,hcW⟩:=h1.shape;obtain ⟨aP,cP,rfl,_,_⟩:=h2.shape
 obtain ⟨n,rfl⟩:∃ n:Nat,i=(n:Int):=⟨i.toNat,by omega⟩
 have hn:n < ws.length:=by omega
 obtain ⟨bW,oW,rfl,hblW,hcellW⟩:=hcW (by omega);have BW:Hid (Below w.heap.size w (w.alloc (.cells #[.slice (some ⟨bW,oW,none⟩) ws.length cW,.slice aP ps.length cP] 67))):=(Below.refl _ _).alloc (Nat.le_refl _) _;have k0:=(BW.o.cell (p:=⟨bW,oW+n*11,none⟩) hblW).trans (hcellW n hn).1;rw[← zbv hn] at k0
 have n0:(0:Int)≤(n:Int):=by omega
 have n1:(n:Int) < (ws.length:Int):=by omega
 clear h1 h2 hcW hcellW hl h0 hn;generalize zal ws (n:Int)=kk at *;go_enter Tryz.func46,Tryz.ntmps46;go_wp2;go_ret;exact ⟨rfl,BW.o⟩
end Go.Proofs.YtpgoeagccmcifaaGreatDoor

namespace Go.Proofs.YtpgoeagccmcifaaGreatDoor
open Go.Shelf Go.RowKit
def yadn:Go.Shelf.Ren:=⟨fun | 103=>164 | 210=>186 | 206=>198 | n=>n,fun | 9=>9 | 4=>4 | 24=>180 | 3=>3 | n=>n,fun | n=>n⟩
theorem yayn:Go.Proofs.Lays.n103 Tryz.prog yadn:={
 mixed:=by kernel_rfl
 f103:=Tryz.func164.trans (congrArg some (by kernel_rfl))
 f206:=Tryz.func198.trans (congrArg some (by kernel_rfl))
 f210:=Tryz.func186.trans (congrArg some (by kernel_rfl))
 t3:=Tryz.underlying3
 a3:=Tryz.isAgg3
 z3:=Tryz.sizeOf3
 v3:=Tryz.zeroValue3
 t4:=Tryz.underlying4
 a4:=Tryz.isAgg4
 z4:=Tryz.sizeOf4
 v4:=Tryz.zeroValue4
 t9:=Tryz.underlying9
 a9:=Tryz.isAgg9
 z9:=Tryz.sizeOf9
 v9:=Tryz.zeroValue9
 t24:=Tryz.underlying180
 a24:=Tryz.isAgg180
 z24:=Tryz.sizeOf180
 v24:=Tryz.zeroValue180 }
def zhp:Go.Shelf.Ren:=⟨fun | 146=>165 | 221=>187 | 268=>199 | 138=>200 | 143=>201 | 195=>206 | 197=>207 | 218=>208 | 219=>209 | 260=>210 | 217=>211 | 225=>212 | 224=>213 | 267=>214 | 266=>215 | 314=>216 | n=>n,fun | 9=>9 | 31=>33 | 3=>3 | 4=>4 | 0=>0 | 105=>236 | 21=>21 | 5=>5 | 46=>239 | 119=>240 | 139=>243 | 138=>242 | 146=>245 | 51=>244 | n=>n,fun | 1=>5 | 3=>6 | 4=>7 | n=>n⟩
theorem yaca:Go.Proofs.Lays.n146 Tryz.prog zhp:={
 mixed:=by kernel_rfl
 f138:=Tryz.func200.trans (congrArg some (by kernel_rfl))
 f143:=Tryz.func201.trans (congrArg some (by kernel_rfl))
 f146:=Tryz.func165.trans (congrArg some (by kernel_rfl))
 f195:=Tryz.func206.trans (congrArg some (by kernel_rfl))
 f197:=Tryz.func207.trans (congrArg some (by kernel_rfl))
 f217:=Tryz.func211.trans (congrArg some (by kernel_rfl))
 f218:=Tryz.func208.trans (congrArg some (by kernel_rfl))
 f219:=Tryz.func209.trans (congrArg some (by kernel_rfl))
 f221:=Tryz.func187.trans (congrArg some (by kernel_rfl))
 f224:=Tryz.func213.trans (congrArg some (by kernel_rfl))
 f225:=Tryz.func212.trans (congrArg some (by kernel_rfl))
 f260:=Tryz.func210.trans (congrArg some (by kernel_rfl))
 f266:=Tryz.func215.trans (congrArg some (by kernel_rfl))
 f267:=Tryz.func214.trans (congrArg some (by kernel_rfl))
 f268:=Tryz.func199.trans (congrArg some (by kernel_rfl))
 f314:=Tryz.func216.trans (congrArg some (by kernel_rfl))
 t0:=Tryz.underlying0
 a0:=Tryz.isAgg0
 z0:=Tryz.sizeOf0
 v0:=Tryz.zeroValue0
 t3:=Tryz.underlying3
 a3:=Tryz.isAgg3
 z3:=Tryz.sizeOf3
 v3:=Tryz.zeroValue3
 t4:=Tryz.underlying4
 a4:=Tryz.isAgg4
 z4:=Tryz.sizeOf4
 v4:=Tryz.zeroValue4
 t5:=Tryz.underlying5
 a5:=Tryz.isAgg5
 z5:=Tryz.sizeOf5
 v5:=Tryz.zeroValue5
 t9:=Tryz.underlying9
 a9:=Tryz.isAgg9
 z9:=Tryz.sizeOf9
 v9:=Tryz.zeroValue9
 t21:=Tryz.underlying21
 a21:=Tryz.isAgg21
 z21:=Tryz.sizeOf21
 v21:=Tryz.zeroValue21
 t31:=Tryz.underlying33
 a31:=Tryz.isAgg33
 z31:=Tryz.sizeOf33
 v31:=Tryz.zeroValue33
 t46:=Tryz.underlying239
 a46:=Tryz.isAgg239
 z46:=Tryz.sizeOf239
 v46:=Tryz.zeroValue239
 t51:=Tryz.underlying244
 a51:=Tryz.isAgg244
 z51:=Tryz.sizeOf244
 v51:=Tryz.zeroValue244
 t105:=Tryz.underlying236
 a105:=Tryz.isAgg236
 z105:=Tryz.sizeOf236
 v105:=Tryz.zeroValue236
 t119:=Tryz.underlying240
 a119:=Tryz.isAgg240
 z119:=Tryz.sizeOf240
 t138:=Tryz.underlying242
 a138:=Tryz.isAgg242
 z138:=Tryz.sizeOf242
 v138:=Tryz.zeroValue242
 t139:=Tryz.underlying243
 a139:=Tryz.isAgg243
 z139:=Tryz.sizeOf243
 v139:=Tryz.zeroValue243
 t146:=Tryz.underlying245
 a146:=Tryz.isAgg245
 z146:=Tryz.sizeOf245
 v146:=Tryz.zeroValue245
 g1:=by kernel_rfl
 g3:=by kernel_rfl
 g4:=by kernel_rfl }
end Go.Proofs.YtpgoeagccmcifaaGreatDoor

namespace Go.Proofs.YtpgoeagccmcifaaGreatDoor
open Go.Shelf Go.RowKit Go.Lib
theorem zus (s p:ByteArray) (w:World) :
  Calls Tryz.prog 164 #[.string s,.string p] w fun e w'=>e=.returned (.tuple #[.string ⟨(Lib.trimPrefix s.data.toList p.data.toList).toArray⟩,.bool (Lib.hasPrefix s.data.toList p.data.toList)])∧w'=w:=Any.strings_CutPrefix yayn s p w
theorem yabq (x:ByteArray) (w:World):Calls Tryz.prog 201 #[.string x,.string ⟨#[47]⟩] w fun e w'=>e=.returned (.int .i64 (Lib.indexB x ⟨#[47]⟩))∧w'=w:=by
 refine (show Calls Tryz.prog 201 #[.string x,.string ⟨#[47]⟩] w fun e w'=>e=.returned (.int .i64 (Lib.indexByte x.data.toList 47))∧w'=w from Any.strings_Index_one (ρ:=zhp) { yaca with } x 47 w).mono fun e w' ⟨he,hw⟩=>⟨?_,hw⟩
 rw[he]
 show _=Ending.returned (Value.int .i64 (Lib.index x.data.toList [47]))
 rw[Lib.index_one]
theorem yabt (x:ByteArray) (w:World):Calls Tryz.prog 200 #[.string x,.string ⟨#[47]⟩] w fun e w'=>e=.returned (.int .i64 (Lib.countB x ⟨#[47]⟩))∧w'=w:=by
 refine (show Calls Tryz.prog 200 #[.string x,.string ⟨#[47]⟩] w fun e w'=>e=.returned (.int .i64 (Lib.countByte x.data.toList 47))∧w'=w from Any.strings_Count_one (ρ:=zhp) { yaca with } x 47 w).mono fun e w' ⟨he,hw⟩=>⟨?_,hw⟩
 rw[he]
 show _=Ending.returned (Value.int .i64 ((Lib.count x.data.toList [47]:Nat):Int))
 rw[Lib.count_one];rfl
theorem yadp (s:ByteArray) (w:World) (hs:s.size < 4294967281) :
  Calls Tryz.prog 165 #[.string s,.string ⟨#[47]⟩] w fun e w' =>
   e=.returned (.slice (some ⟨w.heap.size,0,none⟩) (pcs s).length (pcs s).length)∧w'=w.alloc (.cells (zfm (pcs s)).toArray 9):=by
 have hle:=Lib.countB_le ⟨#[47]⟩ (by decide) s.size s (Nat.le_refl _);have hlen:=Lib.splitB_all ⟨#[47]⟩ (by decide) 0 _ s rfl
 have c:Calls Tryz.prog 187 #[.string s,.string ⟨#[47]⟩,.int .i64 ((0:Nat):Int),.int .i64 (-1)] w fun e w' =>
   e=.returned (.slice (some ⟨w.heap.size,0,none⟩) (Lib.splitB ⟨#[47]⟩ 0 (Lib.countB s ⟨#[47]⟩+1 - 1) s).length (Lib.countB s ⟨#[47]⟩+1))∧w'=w.alloc (.cells (Lib.cellsOf (Lib.splitB ⟨#[47]⟩ 0 (Lib.countB s ⟨#[47]⟩+1 - 1) s) (Lib.countB s ⟨#[47]⟩+1)) 9) :=
  Any.strings_genSplit_core (ρ:=zhp) { yaca with } (by kernel_rfl) s ⟨#[47]⟩ 0 (-1) (Lib.countB s ⟨#[47]⟩+1) w hs (by decide) (Nat.zero_le _) (fun x _ _=>yabq x _) (yabt s w) (by decide) (by decide) (by rw[if_pos (by decide)];omega)
 rw[Nat.add_sub_cancel,hlen] at c
 have e2:Lib.cellsOf (Lib.splitB ⟨#[47]⟩ 0 (Lib.countB s ⟨#[47]⟩) s) (Lib.countB s ⟨#[47]⟩+1)=((Lib.splitB ⟨#[47]⟩ 0 (Lib.countB s ⟨#[47]⟩) s).map Value.string).toArray:=by rw[← hlen];exact Lib.cellsOf_full _
 rw[e2,zxz,yamu] at c;have C:=zaa c;clear c hle hlen e2;unfold zfm;generalize (pcs s).length=n at *;generalize ((pcs s).map Value.string).toArray=cs at *;go_enter Tryz.func165,Tryz.ntmps165;go_wp2_with (go_at_call 187;refine C.o.mono ?_;rintro e w' ⟨rfl,hw⟩;rw[hw]);go_ret;exact ⟨rfl,rfl⟩
end Go.Proofs.YtpgoeagccmcifaaGreatDoor
