/- An image, read: ReadImage by the program. -/
import Derived.Test.YtbohndgbfbfldaaGreatDoorZBN
import Derived.Test.YtbohndgbfbfldaaGreatDoorRdE
import Derived.Test.YtbohndgbfbfldaaGreatDoorZBM
import Derived.Deep.RegionLaw
set_option maxRecDepth 100000
set_option maxHeartbeats 4000000
namespace Go.Proofs.YtbohndgbfbfldaaGreatDoor
open Go.RowKit
theorem zlf {w:World} {base:Nat} {e:TypeId} {size:Nat} {v:Value} {n:Nat} {xs:List Value} (h:w.ownsRow base e size v n xs) (hn:0 < n):∃ b c,v=.slice (some ⟨b,0,none⟩) n c∧n≤c:=by
 rcases (zai h).shape with ⟨_,e,_⟩ | ⟨b,c,rfl,hc,_⟩
 ·omega
 ·exact ⟨b,c,rfl,hc⟩
theorem zuo (ls:List Int) (k:Nat):denZ (wdI ls (240+3*(k:Int))) (wdI ls (240+3*(k:Int)+1)) (wdI ls (240+3*(k:Int)+2))=zom ls k∧zhj (wdI ls (240+3*(k:Int))) (wdI ls (240+3*(k:Int)+1)) (wdI ls (240+3*(k:Int)+2))=zdg ls k:=⟨rfl,rfl⟩
theorem yacu (ls:List Int) (n j:Nat) (h:n+j < ls.length):ls[n+j]=wdI ls ((n:Int)+(j:Int)):=by
 have:=yaes h;rw[← this]
 congr 1
theorem yaej (ls:List Int) (i:Nat) (hi:i < 16) (hl:ls.length=336) (j:Nat) (hj:j < 11):(zbk ls)[48+12*i+j]?=(zln ls i).cs[j]?:=by
 rw[zbs ls (48+12*i+j) (by omega),yacu ls (48+12*i) j (by omega),show (((48+12*i:Nat):Int)+(j:Int))=48+12*(i:Int)+(j:Int) by omega]
 rcases (show j=0∨j=1∨j=2∨j=3∨j=4∨j=5∨j=6∨j=7∨j=8∨j=9∨j=10 by omega) with rfl | rfl | rfl | rfl | rfl | rfl | rfl | rfl | rfl | rfl | rfl
 ·simp[zln,Ino.cs]
 all_goals rfl
theorem zft (v:Value) (ws:List Int) (ps:List St) (w:World) (h:RdPm w v ws ps) (hw:ws.length≤1048576) (hp:ps.length≤1048576) (hT:TS w) (hE:ED w) (hF:FD w) :
  Calls Tryz.prog 157 #[v] w fun e w'=>∃ v',e=.returned (.tuple #[v',.int .i64 (riC ws ps)])∧RowIm w' w.heap.size w'.heap.size v' (riN ws ps) (riD ws ps)∧Below w.heap.size w w':=by
 have HR:=zaa h;have LS:=zaa (fun w1 h=>zjb v ws ps w1 h hw hp);have T:=zaa hT;have E:=zaa hE;have F:=zaa hF;obtain ⟨vW,vP,rfl,h1,h2⟩:=h;obtain ⟨aW,cW,rfl,_,_⟩:=h1.shape;obtain ⟨aP,cP,rfl,_,_⟩:=h2.shape;clear h1 h2 hT hE hF
 obtain ⟨W1,hW1⟩:∃ W1,W1=(w.alloc (.cells #[.slice aW ws.length cW,.slice aP ps.length cP] 25)).alloc (.cells #[.slice none 0 0,.slice none 0 0] 123):=⟨_,rfl⟩
 have hz1:W1.heap.size=w.heap.size+1+1:=by rw[hW1];simp
 have CA:Hid (∀ w',Below W1.heap.size W1 w'→w'.cell? ⟨w.heap.size,0,none⟩=some (.slice aW ws.length cW)∧w'.cell? ⟨w.heap.size,1,none⟩=some (.slice aP ps.length cP)):=fun w' hb=>by
  have:w'.heap[w.heap.size]?=some (.cells #[.slice aW ws.length cW,.slice aP ps.length cP] 25 (0,0)):=(hb.block _ (by omega)).trans (by rw[hW1];exact zao (zae rfl));exact ⟨(zac this).1,(zac this).2.1⟩
 have CR:Hid (∀ w',Below W1.heap.size W1 w'→w'.heap[w.heap.size+1]?=some (.cells #[.slice none 0 0,.slice none 0 0] 123 (0,0))):=fun w' hb=>(hb.block _ (by omega)).trans (by
  rw[hW1];have:=zae (w:=w.alloc (.cells #[.slice aW ws.length cW,.slice aP ps.length cP] 25)) (o:=.cells #[.slice none 0 0,.slice none 0 0] 123) rfl;rw[World.size_alloc] at this
  exact this)
 have BW:Hid (Below w.heap.size w W1):=by rw[hW1];exact ((Below.refl _ _).alloc (Nat.le_refl _) _).alloc (by simp) _
 have hz0:w.heap.size+1 < W1.heap.size:=by omega
 clear hz1;obtain ⟨x0,x1⟩:=CA.o W1 (Below.refl _ _)
 cases c1:pmB ws ps with
 | false =>
  obtain ⟨E1,E2,E3⟩:=yaax c1;obtain ⟨S1,S2⟩:=zqw c1;rw[S1,S2] at LS;rw[E1,E2,E3];clear c1 E1 E2 E3 S1 S2;go_enter Tryz.func157,Tryz.ntmps157;go_wp2_with fail;rw[← hW1];clear hW1;refine (LS.o _ (HR.o.below BW.o)).mono ?_;rintro e w1 ⟨v1,rfl,_,hb1⟩;have B1:=zaa hb1;clear x0 x1 hb1;have CB:=zaa (CR.o _ B1.o);obtain ⟨p0,p1,p2,p3⟩:=zac CB.o;have BR:Hid (Below w.heap.size w ((w1.setCell ⟨w.heap.size+1,0,none⟩ (.slice none 0 0)).setCell ⟨w.heap.size+1,1,none⟩ (.slice none 0 0))):=((zab BW.o B1.o BW.o.size).setCell (by simp only;omega) _).setCell (by simp only;omega) _;go_wp2;refine bodyPost_ret (v:=.tuple #[.agg #[.slice none 0 0,.slice none 0 0],.int .i64 1]) (by simp[results,Tryz.results157,go_sem,p0,p1]) rfl ?_;exact ⟨_,rfl,zdx _ _ _,BR.o⟩
 | true =>
 have C1:=zaa c1;obtain ⟨S1,S2⟩:=zui c1;rw[S1,S2] at LS;have L336:=zaa (show (zcq ws ps).length=336 by rw[zkv];exact (zlv c1).1);have WR:=zaa (fun z=>zmt c1 z);have NO:=zaa (fun q=>zuw C1.o q);have YES:=zaa (fun q=>yafg C1.o q);have RB:=zaa (show riB (zcq ws ps)=(wdI (zcq ws ps) 0 == 7 && (zey (zcq ws ps) 24 && zsz (zbj (zcq ws ps) 16) (zbp (zcq ws ps) 24))) from rfl);have LI:=zaa (fun v w1 h hT hE hF=>zdw v (zbj (zcq ws ps) 16) (zbp (zcq ws ps) 24) w1 h (by rw[zcr];omega) (by rw[zco];omega) hT hE hF (zqg C1.o 16) (zir _ 24));clear c1 S1 S2;generalize riC ws ps=rc at *;generalize riN ws ps=rn at *;generalize riD ws ps=rd at *;generalize zcq ws ps=ls at *;go_enter Tryz.func157,Tryz.ntmps157;go_wp2_with fail;rw[← hW1];clear hW1;refine (LS.o _ (HR.o.below BW.o)).mono ?_;rintro e w1 ⟨v1,rfl,hr1,hb1⟩;have B1:=zaa hb1;have hzz:W1.heap.size≤w1.heap.size:=hb1.size;obtain ⟨b,c,rfl,hcap⟩:=zlf hr1.1 (by have:=L336.o;omega)
 obtain ⟨_,_,_,hbl,_,hcl⟩:=hr1.at
 have HC:Hid (∀ w',Below w1.heap.size w1 w'→∀ j,j < 336→w'.cell? ⟨b,j,none⟩=(zbk ls)[j]?):=fun w' hb j hj=>(hb.cell (p:=⟨b,j,none⟩) hbl).trans (hcl j (by have:=L336.o;omega))
 have c336:336≤c:=by have:=L336.o;omega
 simp only[L336.o];clear hr1 hb1 hcl hcap x0 x1 LS
 have START:Hid (RimI w1 (w1.alloc (.cells #[.slice none 0 0,.slice none 0 0] 123)) w1.heap.size (.slice none 0 0) (.slice none 0 0) (zbj ls 0) []):=⟨zae rfl,World.ownsRow_nil _ _ _ _,World.ownsRow_nil _ _ _ _,(Below.refl _ _).alloc (Nat.le_refl _) _,Nat.le_refl _⟩
 go_wp2_with fail
 go_loopg [20] 16 (fun g i wr=>∃ k:Nat,k+g=16∧i=.int .i64 k∧Hid (∃ vI vD,RimI w1 wr w1.heap.size vI vD (zbj ls k) []))
 case atStart=>exact ⟨0,rfl,rfl,_,_,START.o⟩
 case round =>
  obtain ⟨k,hk,rfl,J⟩:=hrel;obtain ⟨vI,vD,I⟩:=J.o;have I:=zaa I
  have k0:(0:Int)≤(k:Int):=by omega
  clear J START
  by_cases hlt:k < 16
  ·have k1:(k:Int) < 16:=by omega
   obtain ⟨n,hn⟩:∃ n:Nat,n=48+12*k:=⟨_,rfl⟩
   have wm:IntKind.i64.wrap (12*(k:Int))=12*(k:Int):=by rw[IntKind.wrap_i64];omega
   have wa:IntKind.i64.wrap (48+12*(k:Int))=(n:Int):=by rw[IntKind.wrap_i64];omega
   have a0:(0:Int)≤(n:Int):=by omega
   have a1:(n:Int)≤336:=by omega
   have a2:(n:Int)≤(c:Int):=by omega
   have a3:¬ c=n:=by omega
   have LRI:=zaa (fun w2 (hb:Below wr.heap.size wr w2)=>zkl b n (336 - n) (c - n) (zln ls k) w2 (by omega) (by omega) (Nat.lt_of_lt_of_le hbl (zab I.o.b hb I.o.z).size) (fun j hj=>by
    have:=HC.o w2 (zab I.o.b hb I.o.z) (n+j) (by omega);rw[this,hn]
    exact yaej ls k hlt L336.o j hj))
   have MN:=zaa (zop ls k);have ML:=zcr ls k;unfold Ino.v at LRI;clear hn;generalize zln ls k=x at *;obtain ⟨m0,m1,_,_⟩:=zac I.o.m;have hzI:=I.o.z;go_wp2_with fail
   go_region_law (first
     | (go_simp;go_at_call 193;refine (LRI.o _ (by repeat (first | with_reducible exact BF.o | with_reducible exact Below.refl _ _ | with_reducible refine Below.drew ?_))).mono ?_;rintro e w2 ⟨rfl,hb2⟩;have BF:Hid (Below wr.heap.size wr w2):=zxr (by repeat (first | with_reducible exact BF.o | with_reducible exact Below.refl _ _ | with_reducible refine Below.drew ?_)) hb2;clear hb2;have IA:=zaa ((I.o.below BF.o).below ((Below.refl _ _).alloc (Nat.le_refl _) (.cells #[.int .i64 x.kind,.int .i64 x.size,.int .i64 x.links,.int .i64 x.m0,.int .i64 x.m1,.int .i64 x.m2,.int .i64 x.m3,.int .i64 x.m4,.int .i64 x.m5,.int .i64 x.m6,.int .i64 x.m7] 149)));have RX:=zaa (yaeq w2 x);obtain ⟨e0,e1,_,_⟩:=zac (I.o.below BF.o).m;obtain ⟨f0,f1,_,_⟩:=zac IA.o.m)
     | (refine zek rfl (.tmp 24) (.tmp 31) 121 rfl w1.heap.size 149 (.agg #[.int .i64 0,.int .i64 0,.int .i64 0,.int .i64 0,.int .i64 0,.int .i64 0,.int .i64 0,.int .i64 0,.int .i64 0,.int .i64 0,.int .i64 0]) 11 88 Tryz.underlying121 yacc rfl (by decide) _ _ _ rfl IA.o.i _ 1 _ rfl RX.o (zwj _) (by simp[maxLen];omega) (by omega) IA.o.z ?_;intro vN wN hownN hgrN;obtain ⟨bN,cN,rfl,_⟩:=zlf hownN (by omega);have GG:=zaa (IA.o.growI x hownN hgrN);obtain ⟨g0,g1,g2,g3⟩:=zac GG.o.1;clear hownN hgrN))
   all_goals
    have G:=zaa GG.o.2;rw[← MN.o] at G;simp only[zcr] at G;go_wp2
    go_roundg (16 - (k+1))
    case measure=>omega
    case rel=>exact ⟨k+1,by omega,by go_num,_,_,G.o⟩
  ·obtain rfl:k=16:=by omega
   have SE:Hid (∃ vI vD,RimI w1 wr w1.heap.size vI vD (zbj ls 16) (zbp ls 0)):=⟨vI,vD,I.o⟩
   have AG0:Hid (∀ j,j < 0→zdg ls j=true):=fun j h=>absurd h (by omega)
   have BB:=zaa (zab BW.o B1.o BW.o.size);clear I;go_wp2_with fail
   go_loopg [35] 24 (fun g i wq=>∃ k:Nat,k+g=24∧i=.int .i64 k∧Hid ((∃ vI vD,RimI w1 wq w1.heap.size vI vD (zbj ls 16) (zbp ls k))∧∀ j,j < k→zdg ls j=true))
   case atStart=>exact ⟨0,rfl,rfl,SE.o,AG0.o⟩
   case round =>
    obtain ⟨k,hk,rfl,J⟩:=hrel;obtain ⟨vI,vD,I⟩:=J.o.1;have I:=zaa I;have AG:=zaa J.o.2
    have k0:(0:Int)≤(k:Int):=by omega
    clear J SE AG0
    by_cases hlt:k < 24
    ·have k1:(k:Int) < 24:=by omega
     obtain ⟨n,hn⟩:∃ n:Nat,n=240+3*k:=⟨_,rfl⟩
     have wm:IntKind.i64.wrap (3*(k:Int))=3*(k:Int):=by rw[IntKind.wrap_i64];omega
     have wa:IntKind.i64.wrap (240+3*(k:Int))=(n:Int):=by rw[IntKind.wrap_i64];omega
     have a0:(0:Int)≤(n:Int):=by omega
     have a1:(n:Int)≤336:=by omega
     have a2:(n:Int)≤(c:Int):=by omega
     have a3:¬ c=n:=by omega
     have r1:=WR.o (240+3*(k:Int)+1);have r2:=WR.o (240+3*(k:Int)+2)
     have HX:Hid (∀ w2,Below wr.heap.size wr w2→∀ j:Nat,j < 3→w2.cell? ⟨b,n+j,none⟩=some (.int .i64 (wdI ls (240+3*(k:Int)+(j:Int))))):=fun w2 hb j hj=>by
      rw[HC.o w2 (zab I.o.b hb I.o.z) (n+j) (by omega),zbs ls (n+j) (by have:=L336.o;omega),yacu ls n j (by have:=L336.o;omega),show ((n:Int)+(j:Int))=240+3*(k:Int)+(j:Int) by omega]
     have LRD:=zaa (fun w2 (hb:Below wr.heap.size wr w2)=>zjk b n (336 - n) (c - n) (wdI ls (240+3*(k:Int))) (wdI ls (240+3*(k:Int)+1)) (wdI ls (240+3*(k:Int)+2)) w2 (by omega) (by omega) (Nat.lt_of_lt_of_le hbl (zab I.o.b hb I.o.z).size) (by have:=HX.o w2 hb 0 (by omega);simpa using this) (by have:=HX.o w2 hb 1 (by omega);simpa using this) (by have:=HX.o w2 hb 2 (by omega);simpa using this) (F.o.below (zab BB.o (zab I.o.b hb I.o.z) BB.o.size)) (by omega) (by omega));simp only[(zuo ls k).1,(zuo ls k).2] at LRD
     have AGN:Hid (zdg ls k=true→∀ j,j < k+1→zdg ls j=true):=fun q j h=>by
      by_cases e:j=k
      ·subst e;exact q
      ·exact AG.o j (by omega)
     have MN:=zaa (zph ls k);have ML:=zco ls k
     have GF:Hid (zdg ls k=false→zey ls 24=false):=fun q=>zro (n:=24) hlt q
     clear hn HX r1 r2;generalize zom ls k=x at *;generalize zdg ls k=gd at *;go_wp2_with fail;refine (LRD.o _ (Below.refl _ _)).mono ?_;rintro e w2 ⟨⟨s,rfl,hs⟩,hb2⟩;have B2:=zaa hb2;clear LRD hb2;have B3:=zaa (zba B2.o (.cells #[.int .i64 x.dir,.string s,.int .i64 x.child] 143));have hz2:wr.heap.size≤w2.heap.size:=B2.o.size;have hz3:w1.heap.size≤wr.heap.size:=I.o.z
     cases gd with
     | false =>
      clear hs AGN MN ML;have CB:=zaa (CR.o _ (zxr B1.o (zab I.o.b B3.o I.o.z)));obtain ⟨p0,p1,p2,p3⟩:=zac CB.o;have EE:=zaa (NO.o (by rw[RB.o,GF.o rfl];simp));have BR:Hid (Below w.heap.size w (((w2.alloc (.cells #[.int .i64 x.dir,.string s,.int .i64 x.child] 143)).setCell ⟨w.heap.size+1,0,none⟩ (.slice none 0 0)).setCell ⟨w.heap.size+1,1,none⟩ (.slice none 0 0))):=((zab BB.o (zab I.o.b B3.o I.o.z) BB.o.size).setCell (by simp only;omega) _).setCell (by simp only;omega) _;go_wp2;refine bodyPost_ret (v:=.tuple #[.agg #[.slice none 0 0,.slice none 0 0],.int .i64 3]) (by simp[results,Tryz.results157,go_sem,p0,p1]) rfl ?_;obtain ⟨E1,E2,E3⟩:=EE.o;rw[E1,E2,E3];exact ⟨_,rfl,zdx _ _ _,BR.o⟩
     | true =>
      obtain rfl:=hs rfl;have AG2:=zaa (AGN.o rfl);clear hs GF AGN;have XB:Hid (BoxZ 143 wr (w2.alloc (.cells #[.int .i64 x.dir,.string x.name,.int .i64 x.child] 143)) w2.heap.size [.int .i64 x.dir,.string x.name,.int .i64 x.child]):=BoxZ.new B2.o;have e0:=(XB.o.cell 0).1;have e1:=(XB.o.cell 1).1;have e2:=(XB.o.cell 2).1;simp only[List.getElem?_cons_zero,List.getElem?_cons_succ] at e0 e1 e2;have IR:=zaa (I.o.below B3.o);obtain ⟨n0,n1,_,_⟩:=zac IR.o.m;have IA:=zaa (IR.o.below ((Below.refl _ _).alloc (Nat.le_refl _) (.cells #[.int .i64 x.dir,.string x.name,.int .i64 x.child] 143)));have RX:=zaa (yaaq (w2.alloc (.cells #[.int .i64 x.dir,.string x.name,.int .i64 x.child] 143)) x);simp only[World.size_alloc] at RX;have hzA:=IA.o.z;simp only[World.size_alloc] at hzA;go_wp2_with (at_builtin;refine zaq _ rfl (.tmp 51) (.tmp 53) 38 rfl w1.heap.size 143 (.agg #[.int .i64 0,.string ⟨#[]⟩,.int .i64 0]) 3 32 Tryz.underlying38 zla rfl (by decide) _ _ _ rfl IA.o.d _ 1 _ rfl RX.o (ziu _) (by simp[maxLen];omega) (by omega) IA.o.z ?_);intro vN wN hownN hgrN;obtain ⟨bN,cN,rfl,_⟩:=zlf hownN (by omega);obtain ⟨g1,g2⟩:=IA.o.growD x (by rw[zco];exact hownN) hgrN;have G:=zaa g2;rw[← MN.o] at G;clear n0 n1 g2 IA RX hownN hgrN ML MN;obtain ⟨n0,n1,n2,n3⟩:=zac g1;clear g1;go_wp2
      go_roundg (24 - (k+1))
      case measure=>omega
      case rel=>exact ⟨k+1,by omega,by go_num,⟨_,_,G.o⟩,AG2.o⟩
    ·obtain rfl:k=24:=by omega
     have EB:=zaa (zpv (ls:=ls) (n:=24) AG.o);rw[EB.o,Bool.true_and] at RB
     rcases (zai I.o.i).shape with ⟨_,e,_⟩ | ⟨b1,c1,rfl,_,_⟩
     ·rw[zcr] at e;omega
     rcases (zai I.o.d).shape with ⟨_,e,_⟩ | ⟨b2,c2,rfl,_,_⟩
     ·rw[zco] at e;omega
     simp only[zcr,zco] at I
     have R0:Hid (RowIm wr w1.heap.size wr.heap.size (.agg #[.slice (some ⟨b1,0,none⟩) 16 c1,.slice (some ⟨b2,0,none⟩) 24 c2]) (zbj ls 16) (zbp ls 24)):=⟨_,_,rfl,zai I.o.i,zai I.o.d⟩
     obtain ⟨n0,n1,_,_⟩:=zac I.o.m;have hzr:w1.heap.size≤wr.heap.size:=I.o.z;have BWr:=zaa (zab BB.o I.o.b BB.o.size);have CB:=zaa (CR.o _ (zxr B1.o I.o.b));have IM:=zaa I.o.m;have IL:=I.o.lt
     have h0:wr.cell? ⟨b,0,none⟩=some (.int .i64 (wdI ls 0)):=by
      rw[HC.o wr I.o.b 0 (by omega),zbs ls 0 (by have:=L336.o;omega),yacu ls 0 0 (by have:=L336.o;omega)];rfl
     clear AG EB I HC WR
     by_cases z:wdI ls 0=7
     case neg =>
      have q:(wdI ls 0 != 7)=true:=by rw[bne_iff_ne];exact z
      have EE:=zaa (NO.o (by rw[RB.o,show (wdI ls 0 == 7)=false by rw[beq_eq_false_iff_ne];exact z];simp));obtain ⟨p0,p1,p2,p3⟩:=zac CB.o;have BR:Hid (Below w.heap.size w ((wr.setCell ⟨w.heap.size+1,0,none⟩ (.slice none 0 0)).setCell ⟨w.heap.size+1,1,none⟩ (.slice none 0 0))):=(BWr.o.setCell (by simp only;omega) _).setCell (by simp only;omega) _;clear z;go_wp2;refine bodyPost_ret (v:=.tuple #[.agg #[.slice none 0 0,.slice none 0 0],.int .i64 3]) (by simp[results,Tryz.results157,go_sem,p0,p1]) rfl ?_;obtain ⟨E1,E2,E3⟩:=EE.o;rw[E1,E2,E3];exact ⟨_,rfl,zdx _ _ _,BR.o⟩
     have q:(wdI ls 0 != 7)=false:=by rw[z];rfl
     rw[z] at RB;have LI2:=zaa (LI.o _ wr R0.o.rd (T.o.below BWr.o) (E.o.below BWr.o) (F.o.below BWr.o));clear LI;generalize zsz (zbj ls 16) (zbp ls 24)=ib at *;rw[z] at h0;clear z q;go_wp2_with fail;refine LI2.o.mono ?_;rintro e w5 ⟨rfl,hb5⟩;have hz5:wr.heap.size≤w5.heap.size:=hb5.size;have B5:=zaa (zab BWr.o hb5 BWr.o.size);have R5:=zaa (R0.o.below hb5 (Nat.le_refl _));have CB5:=zaa ((hb5.block _ (by omega)).trans CB.o);have IM5:=zaa ((hb5.block _ IL).trans IM.o);clear n0 n1 h0 hb5 R0 CB IM LI2;obtain ⟨n0,n1,_,_⟩:=zac IM5.o;obtain ⟨p0,p1,p2,p3⟩:=zac CB5.o
     cases ib with
     | false =>
      have EE:=zaa (NO.o (by rw[RB.o];rfl));have BR:Hid (Below w.heap.size w ((w5.setCell ⟨w.heap.size+1,0,none⟩ (.slice none 0 0)).setCell ⟨w.heap.size+1,1,none⟩ (.slice none 0 0))):=(B5.o.setCell (by simp only;omega) _).setCell (by simp only;omega) _;go_wp2;refine bodyPost_ret (v:=.tuple #[.agg #[.slice none 0 0,.slice none 0 0],.int .i64 3]) (by simp[results,Tryz.results157,go_sem,p0,p1]) rfl ?_;obtain ⟨E1,E2,E3⟩:=EE.o;rw[E1,E2,E3];exact ⟨_,rfl,zdx _ _ _,BR.o⟩
     | true =>
      have EE:=zaa (YES.o (by rw[RB.o];rfl));have BR:Hid (Below w.heap.size w ((w5.setCell ⟨w.heap.size+1,0,none⟩ (.slice (some ⟨b1,0,none⟩) 16 c1)).setCell ⟨w.heap.size+1,1,none⟩ (.slice (some ⟨b2,0,none⟩) 24 c2))):=(B5.o.setCell (by simp only;omega) _).setCell (by simp only;omega) _;have RF:=zaa (zka (zvj R5.o CB5.o (.slice (some ⟨b1,0,none⟩) 16 c1) (.slice (some ⟨b2,0,none⟩) 24 c2)) (lo':=w.heap.size) (hi':=((w5.setCell ⟨w.heap.size+1,0,none⟩ (.slice (some ⟨b1,0,none⟩) 16 c1)).setCell ⟨w.heap.size+1,1,none⟩ (.slice (some ⟨b2,0,none⟩) 24 c2)).heap.size) (by have:=BB.o.size;omega) (by simp;omega));clear CB5 R5 IM5;go_wp2;refine bodyPost_ret (v:=.tuple #[.agg #[.slice (some ⟨b1,0,none⟩) 16 c1,.slice (some ⟨b2,0,none⟩) 24 c2],.int .i64 0]) (by simp[results,Tryz.results157,go_sem,p0,p1]) rfl ?_;obtain ⟨E1,E2,E3⟩:=EE.o;rw[E1,E2,E3];exact ⟨_,rfl,RF.o,BR.o⟩
end Go.Proofs.YtbohndgbfbfldaaGreatDoor
