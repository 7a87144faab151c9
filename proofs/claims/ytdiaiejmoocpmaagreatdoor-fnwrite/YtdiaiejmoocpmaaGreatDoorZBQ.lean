import Derived.Test.YtdiaiejmoocpmaaGreatDoorZBP
import Derived.WalkMore
import Derived.Shelf.Small.Strs
import Derived.Shelf.Small.Wraps
import Derived.Shelf.Strings.Search3
import Derived.Shelf.Strings.Count
import Derived.Shelf.Strings.Split
set_option maxRecDepth 100000
set_option maxHeartbeats 4000000
namespace Go.Proofs.YtdiaiejmoocpmaaGreatDoor
open Go.RowKit
theorem zvr{w:World}{base:Nat}{e:TypeId}{size:Nat}{v:Value}{n:Nat}{xs:List Value}(h:w.ownsRow base e size v n xs)(hn:0<n):∃ b c,v=.slice (some ⟨b,0,none⟩) n c/\n<=c:=by
 rcases(zad h).shape with ⟨_,e,_⟩ | ⟨b,c,rfl,hc,_⟩
 ·omega
 ·exact⟨b,c,rfl,hc⟩
theorem yajl(ls:List Int)(k:Nat):denZ (wdI ls (240+3*(k:Int))) (wdI ls (240+3*(k:Int)+1)) (wdI ls (240+3*(k:Int)+2))=zgi ls k/\zri (wdI ls (240+3*(k:Int))) (wdI ls (240+3*(k:Int)+1)) (wdI ls (240+3*(k:Int)+2))=zby ls k:=⟨rfl,rfl⟩
theorem yayd(ls:List Int)(n j:Nat)(h:n+j<ls.length):ls[n+j]=wdI ls ((n:Int)+(j:Int)):=by
 have:=yavu h;rw[<- this]
 congr 1
theorem ybao(ls:List Int)(i:Nat)(hi:i<16)(hl:ls.length=336)(j:Nat)(hj:j<11):(zcl ls)[48+12*i+j]?=(zej ls i).cs[j]?:=by
 rw[zde ls (48+12*i+j) (by omega),yayd ls (48+12*i) j (by omega),show(((48+12*i:Nat):Int)+(j:Int))=48+12*(i:Int)+(j:Int) by omega]
 rcases(show j=0\/j=1\/j=2\/j=3\/j=4\/j=5\/j=6\/j=7\/j=8\/j=9\/j=10 by omega)with rfl|rfl|rfl|rfl|rfl|rfl|rfl|rfl|rfl|rfl|rfl
 ·simp[zej,Ino.cs]
 all_goals rfl
theorem znp(v:Value)(ws:List Int)(ps:List St)(w:World)(h:RdPm w v ws ps)(hw:ws.length<=1048576)(hp:ps.length<=1048576)(hT:TS w)(hE:ED w)(hF:FD w) :
  zC 49 #[v] w fun e w'=>∃ v',e=.returned (.tuple #[v',.I (riC ws ps)])/\RowIm w' w.heap.size w'.heap.size v' (riN ws ps) (riD ws ps)/\zB w w':=by
 have HR:=zaa h;have LS:=zaa (fun w1 h=>zto v ws ps w1 h hw hp);have T:=zaa hT;have E:=zaa hE;have F:=zaa hF;obtain⟨vW,vP,rfl,h1,h2⟩:=h;obtain⟨aW,cW,rfl,_,_⟩:=h1.shape;obtain⟨aP,cP,rfl,_,_⟩:=h2.shape;clear h1 h2 hT hE hF
 obtain⟨W1,hW1⟩:=zE ((w.alloc (.cells #[.slice aW ws.length cW,.slice aP ps.length cP] 26)).alloc (.cells #[.N,.N] 67))
 have hz1:W1.heap.size=w.heap.size+1+1:=by rw[hW1];simp
 have CA:Hid (∀ w',zB W1 w'->w'.cell? ⟨w.heap.size,0,none⟩=some (.slice aW ws.length cW)/\w'.cell? ⟨w.heap.size,1,none⟩=some (.slice aP ps.length cP)):=fun w' hb=>by
  have:w'.heap[w.heap.size]?=some (.cells #[.slice aW ws.length cW,.slice aP ps.length cP] 26 (0,0)):=(hb.block _ (by omega)).trans (by rw[hW1];exact zaj (zaf rfl));exact⟨(zac this).1,(zac this).2.1⟩
 have CR:Hid (∀ w',zB W1 w'->w'.heap[w.heap.size+1]?=some (.cells #[.N,.N] 67 (0,0))):=fun w' hb=>(hb.block _ (by omega)).trans (by
  rw[hW1];have:=zaf (w:=w.alloc (.cells #[.slice aW ws.length cW,.slice aP ps.length cP] 26)) (o:=.cells #[.N,.N] 67) rfl;rw[World.size_alloc]at this
  exact this)
 have BW:Hid (zB w W1):=by rw[hW1];exact(zR.alloc zL _).alloc (by simp) _
 have hz0:w.heap.size+1<W1.heap.size:=by omega
 clear hz1;obtain⟨x0,x1⟩:=CA.o W1 zR
 cases c1:pmB ws ps with
 | false =>
  obtain⟨E1,E2,E3⟩:=yalm c1;obtain⟨S1,S2⟩:=yaeg c1;rw[S1,S2]at LS;rw[E1,E2,E3];clear c1 E1 E2 E3 S1 S2;go_enter Tryz.func49,Tryz.ntmps49;go_wp2_with fail;rw[<- hW1];clear hW1;refine(LS.o _ (HR.o.below BW.o)).mono ?_;rintro e w1 ⟨v1,rfl,_,hb1⟩;have B1:=zaa hb1;clear x0 x1 hb1;have CB:=zaa (CR.o _ B1.o);obtain⟨p0,p1,p2,p3⟩:=zac CB.o;have BR:Hid (zB w ((w1.setCell ⟨w.heap.size+1,0,none⟩ (.N)).setCell ⟨w.heap.size+1,1,none⟩ (.N))):=((zab BW.o B1.o BW.o.size).setCell (by simp only;omega) _).setCell (by simp only;omega) _;go_wp2;refine bodyPost_ret (v:=.tuple #[.agg #[.N,.N],.I 1]) (by simp[results,Tryz.results49,go_sem,p0,p1]) rfl ?_;exact⟨_,rfl,zdu _ _ _,BR.o⟩
 | true =>
 have C1:=zaa c1;obtain⟨S1,S2⟩:=yalz c1;rw[S1,S2]at LS;have L336:=zaa (show(zbs ws ps).length=336 by rw[zcp];exact(zfh c1).1);have WR:=zaa (fun z=>zqp c1 z);have NO:=zaa (fun q=>yacn C1.o q);have YES:=zaa (fun q=>yaxs C1.o q);have RB:=zaa (show riB (zbs ws ps)=(wdI (zbs ws ps) 0 == 7&&(zch (zbs ws ps) 24&&zck (zbc (zbs ws ps) 16) (zbh (zbs ws ps) 24)))from rfl);have LI:=zaa (fun v w1 h hT hE hF=>zgk v (zbc (zbs ws ps) 16) (zbh (zbs ws ps) 24) w1 h (by rw[zbw];omega) (by rw[zbm];omega) hT hE hF (zwg C1.o 16) (zkp _ 24));clear c1 S1 S2;generalize riC ws ps=rc at *;generalize riN ws ps=rn at *;generalize riD ws ps=rd at *;generalize zbs ws ps=ls at *;go_enter Tryz.func49,Tryz.ntmps49;go_wp2_with fail;rw[<- hW1];clear hW1;refine(LS.o _ (HR.o.below BW.o)).mono ?_;rintro e w1 ⟨v1,rfl,hr1,hb1⟩;have B1:=zaa hb1;have hzz:W1.heap.size<=w1.heap.size:=hb1.size;obtain⟨b,c,rfl,hcap⟩:=zvr hr1.1 (by have:=L336.o;omega)
 obtain⟨_,_,_,hbl,_,hcl⟩:=hr1.at
 have HC:Hid (∀ w',zB w1 w'->∀ j,j<336->w'.cell? ⟨b,j,none⟩=(zcl ls)[j]?):=fun w' hb j hj=>(hb.cell (p:=⟨b,j,none⟩) hbl).trans (hcl j (by have:=L336.o;omega))
 have c336:336<=c:=by have:=L336.o;omega
 simp only[L336.o];clear hr1 hb1 hcl hcap x0 x1 LS
 have START:Hid (RimI w1 (w1.alloc (.cells #[.N,.N] 67)) w1.heap.size (.N) (.N) (zbc ls 0) []):=⟨zaf rfl,World.ownsRow_nil _ _ _ _,World.ownsRow_nil _ _ _ _,zR.alloc zL _,Nat.le_refl _⟩
 go_wp2_with fail
 go_loopg [20] 16 (fun g i wr=>∃ k:Nat,k+g=16/\i=.I k/\Hid (∃ vI vD,RimI w1 wr w1.heap.size vI vD (zbc ls k) []))
 case atStart=>exact⟨0,rfl,rfl,_,_,START.o⟩
 case round =>
  obtain⟨k,hk,rfl,J⟩:=hrel;obtain⟨vI,vD,I⟩:=J.o;have I:=zaa I
  have k0:(0:Int)<=(k:Int):=by omega
  clear J START
  by_cases hlt:k<16
  ·have k1:(k:Int)<16:=by omega
   obtain⟨n,hn⟩:∃ n:Nat,n=48+12*k:=⟨_,rfl⟩
   have wm:IntKind.i64.wrap (12*(k:Int))=12*(k:Int):=by rw[IntKind.wrap_i64];omega
   have wa:IntKind.i64.wrap (48+12*(k:Int))=(n:Int):=by rw[IntKind.wrap_i64];omega
   have a0:(0:Int)<=(n:Int):=by omega
   have a1:(n:Int)<=336:=by omega
   have a2:(n:Int)<=(c:Int):=by omega
   have a3:¬ c=n:=by omega
   have LRI:=zaa (fun w2 (hb:zB wr w2)=>zxd b n (336-n) (c-n) (zej ls k) w2 (by omega) (by omega) (Nat.lt_of_lt_of_le hbl (zab I.o.b hb I.o.z).size) (fun j hj=>by
    have:=HC.o w2 (zab I.o.b hb I.o.z) (n+j) (by omega);rw[this,hn]
    exact ybao ls k hlt L336.o j hj))
   have MN:=zaa (zrw ls k);have ML:=zbw ls k;unfold Ino.v at LRI;clear hn;generalize zej ls k=x at *;obtain⟨m0,m1,_,_⟩:=zac I.o.m;have hzI:=I.o.z;go_wp2_with fail
   go_region_law (first
     | (go_simp;go_at_call 102;refine(LRI.o _ (by repeat (first | with_reducible exact BF.o | with_reducible exact zR | with_reducible refine Below.drew ?_))).mono ?_;rintro e w2 ⟨rfl,hb2⟩;have BF:Hid (zB wr w2):=zik (by repeat (first | with_reducible exact BF.o | with_reducible exact zR | with_reducible refine Below.drew ?_)) hb2;clear hb2;have IA:=zaa ((I.o.below BF.o).below (zR.alloc zL (.cells #[.I x.kind,.I x.size,.I x.links,.I x.m0,.I x.m1,.I x.m2,.I x.m3,.I x.m4,.I x.m5,.I x.m6,.I x.m7] 59)));have RX:=zaa (yavj w2 x);obtain⟨e0,e1,_,_⟩:=zac (I.o.below BF.o).m;obtain⟨f0,f1,_,_⟩:=zac IA.o.m)
     | (refine zap rfl (.tmp 24) (.tmp 31) 64 rfl w1.heap.size 59 (.agg #[.I 0,.I 0,.I 0,.I 0,.I 0,.I 0,.I 0,.I 0,.I 0,.I 0,.I 0]) 11 88 Tryz.underlying64 yapg rfl (by decide) _ _ _ rfl IA.o.i _ 1 _ rfl RX.o (zzv _) (by simp[maxLen];omega) (by omega) IA.o.z ?_;intro vN wN hownN hgrN;obtain⟨bN,cN,rfl,_⟩:=zvr hownN (by omega);have GG:=zaa (IA.o.growI x hownN hgrN);obtain⟨g0,g1,g2,g3⟩:=zac GG.o.1;clear hownN hgrN))
   all_goals
    have G:=zaa GG.o.2;rw[<- MN.o]at G;simp only[zbw]at G;go_wp2
    go_roundg (16-(k+1))
    case measure=>omega
    case rel=>exact⟨k+1,by omega,by go_num,_,_,G.o⟩
  ·obtain rfl:k=16:=by omega
   have SE:Hid (∃ vI vD,RimI w1 wr w1.heap.size vI vD (zbc ls 16) (zbh ls 0)):=⟨vI,vD,I.o⟩
   have AG0:Hid (∀ j,j<0->zby ls j=true):=fun j h=>absurd h (by omega)
   have BB:=zaa (zab BW.o B1.o BW.o.size);clear I;go_wp2_with fail
   go_loopg [35] 24 (fun g i wq=>∃ k:Nat,k+g=24/\i=.I k/\Hid ((∃ vI vD,RimI w1 wq w1.heap.size vI vD (zbc ls 16) (zbh ls k))/\∀ j,j<k->zby ls j=true))
   case atStart=>exact⟨0,rfl,rfl,SE.o,AG0.o⟩
   case round =>
    obtain⟨k,hk,rfl,J⟩:=hrel;obtain⟨vI,vD,I⟩:=J.o.1;have I:=zaa I;have AG:=zaa J.o.2
    have k0:(0:Int)<=(k:Int):=by omega
    clear J SE AG0
    by_cases hlt:k<24
    ·have k1:(k:Int)<24:=by omega
     obtain⟨n,hn⟩:∃ n:Nat,n=240+3*k:=⟨_,rfl⟩
     have wm:IntKind.i64.wrap (3*(k:Int))=3*(k:Int):=by rw[IntKind.wrap_i64];omega
     have wa:IntKind.i64.wrap (240+3*(k:Int))=(n:Int):=by rw[IntKind.wrap_i64];omega
     have a0:(0:Int)<=(n:Int):=by omega
     have a1:(n:Int)<=336:=by omega
     have a2:(n:Int)<=(c:Int):=by omega
     have a3:¬ c=n:=by omega
     have r1:=WR.o (240+3*(k:Int)+1);have r2:=WR.o (240+3*(k:Int)+2)
     have HX:Hid (∀ w2,zB wr w2->∀ j:Nat,j<3->w2.cell? ⟨b,n+j,none⟩=some (.I (wdI ls (240+3*(k:Int)+(j:Int))))):=fun w2 hb j hj=>by
      rw[HC.o w2 (zab I.o.b hb I.o.z) (n+j) (by omega),zde ls (n+j) (by have:=L336.o;omega),yayd ls n j (by have:=L336.o;omega),show((n:Int)+(j:Int))=240+3*(k:Int)+(j:Int) by omega]
     have LRD:=zaa (fun w2 (hb:zB wr w2)=>zsx b n (336-n) (c-n) (wdI ls (240+3*(k:Int))) (wdI ls (240+3*(k:Int)+1)) (wdI ls (240+3*(k:Int)+2)) w2 (by omega) (by omega) (Nat.lt_of_lt_of_le hbl (zab I.o.b hb I.o.z).size) (by have:=HX.o w2 hb 0 (by omega);simpa using this) (by have:=HX.o w2 hb 1 (by omega);simpa using this) (by have:=HX.o w2 hb 2 (by omega);simpa using this) (F.o.below (zab BB.o (zab I.o.b hb I.o.z) BB.o.size)) (by omega) (by omega));simp only[(yajl ls k).1,(yajl ls k).2]at LRD
     have AGN:Hid (zby ls k=true->∀ j,j<k+1->zby ls j=true):=fun q j h=>by
      by_cases e:j=k
      ·subst e;exact q
      ·exact AG.o j (by omega)
     have MN:=zaa (zlb ls k);have ML:=zbm ls k
     have GF:Hid (zby ls k=false->zch ls 24=false):=fun q=>zjq (n:=24) hlt q
     clear hn HX r1 r2;generalize zgi ls k=x at *;generalize zby ls k=gd at *;go_wp2_with fail;refine(LRD.o _ zR).mono ?_;rintro e w2 ⟨⟨s,rfl,hs⟩,hb2⟩;have B2:=zaa hb2;clear LRD hb2;have B3:=zaa (zar B2.o (.cells #[.I x.dir,.string s,.I x.child] 158));have hz2:wr.heap.size<=w2.heap.size:=B2.o.size;have hz3:w1.heap.size<=wr.heap.size:=I.o.z
     cases gd with
     | false =>
      clear hs AGN MN ML;have CB:=zaa (CR.o _ (zik B1.o (zab I.o.b B3.o I.o.z)));obtain⟨p0,p1,p2,p3⟩:=zac CB.o;have EE:=zaa (NO.o (by rw[RB.o,GF.o rfl];simp));have BR:Hid (zB w (((w2.alloc (.cells #[.I x.dir,.string s,.I x.child] 158)).setCell ⟨w.heap.size+1,0,none⟩ (.N)).setCell ⟨w.heap.size+1,1,none⟩ (.N))):=((zab BB.o (zab I.o.b B3.o I.o.z) BB.o.size).setCell (by simp only;omega) _).setCell (by simp only;omega) _;go_wp2;refine bodyPost_ret (v:=.tuple #[.agg #[.N,.N],.I 3]) (by simp[results,Tryz.results49,go_sem,p0,p1]) rfl ?_;obtain⟨E1,E2,E3⟩:=EE.o;rw[E1,E2,E3];exact⟨_,rfl,zdu _ _ _,BR.o⟩
     | true =>
      obtain rfl:=hs rfl;have AG2:=zaa (AGN.o rfl);clear hs GF AGN;have XB:Hid (BoxZ 158 wr (w2.alloc (.cells #[.I x.dir,.string x.name,.I x.child] 158)) w2.heap.size [.I x.dir,.string x.name,.I x.child]):=BoxZ.new B2.o;have e0:=(XB.o.cell 0).1;have e1:=(XB.o.cell 1).1;have e2:=(XB.o.cell 2).1;simp only[List.getElem?_cons_zero,List.getElem?_cons_succ]at e0 e1 e2;have IR:=zaa (I.o.below B3.o);obtain⟨n0,n1,_,_⟩:=zac IR.o.m;have IA:=zaa (IR.o.below (zR.alloc zL (.cells #[.I x.dir,.string x.name,.I x.child] 158)));have RX:=zaa (yaew (w2.alloc (.cells #[.I x.dir,.string x.name,.I x.child] 158)) x);simp only[World.size_alloc]at RX;have hzA:=IA.o.z;simp only[World.size_alloc]at hzA;go_wp2_with (at_builtin;refine zae _ rfl (.tmp 51) (.tmp 53) 65 rfl w1.heap.size 158 (.agg #[.I 0,.string ⟨#[]⟩,.I 0]) 3 32 Tryz.underlying65 zqj rfl (by decide) _ _ _ rfl IA.o.d _ 1 _ rfl RX.o (zip _) (by simp[maxLen];omega) (by omega) IA.o.z ?_);intro vN wN hownN hgrN;obtain⟨bN,cN,rfl,_⟩:=zvr hownN (by omega);obtain⟨g1,g2⟩:=IA.o.growD x (by rw[zbm];exact hownN) hgrN;have G:=zaa g2;rw[<- MN.o]at G;clear n0 n1 g2 IA RX hownN hgrN ML MN;obtain⟨n0,n1,n2,n3⟩:=zac g1;clear g1;go_wp2
      go_roundg (24-(k+1))
      case measure=>omega
      case rel=>exact⟨k+1,by omega,by go_num,⟨_,_,G.o⟩,AG2.o⟩
    ·obtain rfl:k=24:=by omega
     have EB:=zaa (zhr (ls:=ls) (n:=24) AG.o);rw[EB.o,Bool.true_and]at RB
     rcases(zad I.o.i).shape with ⟨_,e,_⟩ | ⟨b1,c1,rfl,_,_⟩
     ·rw[zbw]at e;omega
     rcases(zad I.o.d).shape with ⟨_,e,_⟩ | ⟨b2,c2,rfl,_,_⟩
     ·rw[zbm]at e;omega
     simp only[zbw,zbm]at I
     have R0:Hid (RowIm wr w1.heap.size wr.heap.size (.agg #[.slice (some ⟨b1,0,none⟩) 16 c1,.slice (some ⟨b2,0,none⟩) 24 c2]) (zbc ls 16) (zbh ls 24)):=⟨_,_,rfl,zad I.o.i,zad I.o.d⟩
     obtain⟨n0,n1,_,_⟩:=zac I.o.m;have hzr:w1.heap.size<=wr.heap.size:=I.o.z;have BWr:=zaa (zab BB.o I.o.b BB.o.size);have CB:=zaa (CR.o _ (zik B1.o I.o.b));have IM:=zaa I.o.m;have IL:=I.o.lt
     have h0:wr.cell? ⟨b,0,none⟩=some (.I (wdI ls 0)):=by
      rw[HC.o wr I.o.b 0 (by omega),zde ls 0 (by have:=L336.o;omega),yayd ls 0 0 (by have:=L336.o;omega)];rfl
     clear AG EB I HC WR
     by_cases z:wdI ls 0=7
     case neg =>
      have q:(wdI ls 0 != 7)=true:=by rw[bne_iff_ne];exact z
      have EE:=zaa (NO.o (by rw[RB.o,show(wdI ls 0 == 7)=false by rw[beq_eq_false_iff_ne];exact z];simp));obtain⟨p0,p1,p2,p3⟩:=zac CB.o;have BR:Hid (zB w ((wr.setCell ⟨w.heap.size+1,0,none⟩ (.N)).setCell ⟨w.heap.size+1,1,none⟩ (.N))):=(BWr.o.setCell (by simp only;omega) _).setCell (by simp only;omega) _;clear z;go_wp2;refine bodyPost_ret (v:=.tuple #[.agg #[.N,.N],.I 3]) (by simp[results,Tryz.results49,go_sem,p0,p1]) rfl ?_;obtain⟨E1,E2,E3⟩:=EE.o;rw[E1,E2,E3];exact⟨_,rfl,zdu _ _ _,BR.o⟩
     have q:(wdI ls 0 != 7)=false:=by rw[z];rfl
     rw[z]at RB;have LI2:=zaa (LI.o _ wr R0.o.rd (T.o.below BWr.o) (E.o.below BWr.o) (F.o.below BWr.o));clear LI;generalize zck (zbc ls 16) (zbh ls 24)=ib at *;rw[z]at h0;clear z q;go_wp2_with fail;refine LI2.o.mono ?_;rintro e w5 ⟨rfl,hb5⟩;have hz5:wr.heap.size<=w5.heap.size:=hb5.size;have B5:=zaa (zab BWr.o hb5 BWr.o.size);have R5:=zaa (R0.o.below hb5 zL);have CB5:=zaa ((hb5.block _ (by omega)).trans CB.o);have IM5:=zaa ((hb5.block _ IL).trans IM.o);clear n0 n1 h0 hb5 R0 CB IM LI2;obtain⟨n0,n1,_,_⟩:=zac IM5.o;obtain⟨p0,p1,p2,p3⟩:=zac CB5.o
     cases ib with
     | false =>
      have EE:=zaa (NO.o (by rw[RB.o];rfl));have BR:Hid (zB w ((w5.setCell ⟨w.heap.size+1,0,none⟩ (.N)).setCell ⟨w.heap.size+1,1,none⟩ (.N))):=(B5.o.setCell (by simp only;omega) _).setCell (by simp only;omega) _;go_wp2;refine bodyPost_ret (v:=.tuple #[.agg #[.N,.N],.I 3]) (by simp[results,Tryz.results49,go_sem,p0,p1]) rfl ?_;obtain⟨E1,E2,E3⟩:=EE.o;rw[E1,E2,E3];exact⟨_,rfl,zdu _ _ _,BR.o⟩
     | true =>
      have EE:=zaa (YES.o (by rw[RB.o];rfl));have BR:Hid (zB w ((w5.setCell ⟨w.heap.size+1,0,none⟩ (.slice (some ⟨b1,0,none⟩) 16 c1)).setCell ⟨w.heap.size+1,1,none⟩ (.slice (some ⟨b2,0,none⟩) 24 c2))):=(B5.o.setCell (by simp only;omega) _).setCell (by simp only;omega) _;have RF:=zaa (zjp (zyk R5.o CB5.o (.slice (some ⟨b1,0,none⟩) 16 c1) (.slice (some ⟨b2,0,none⟩) 24 c2)) (lo':=w.heap.size) (hi':=((w5.setCell ⟨w.heap.size+1,0,none⟩ (.slice (some ⟨b1,0,none⟩) 16 c1)).setCell ⟨w.heap.size+1,1,none⟩ (.slice (some ⟨b2,0,none⟩) 24 c2)).heap.size) (by have:=BB.o.size;omega) (by simp;omega));clear CB5 R5 IM5;go_wp2;refine bodyPost_ret (v:=.tuple #[.agg #[.slice (some ⟨b1,0,none⟩) 16 c1,.slice (some ⟨b2,0,none⟩) 24 c2],.I 0]) (by simp[results,Tryz.results49,go_sem,p0,p1]) rfl ?_;obtain⟨E1,E2,E3⟩:=EE.o;rw[E1,E2,E3];exact⟨_,rfl,RF.o,BR.o⟩
theorem ybaj{ws:List Int}{ps:List St}{es:List Int}{qs:List Se}(h:zdk es qs=false):dvN ws ps es qs=[]/\dvD ws ps es qs=[]:=(yalt (by rw[h,Bool.and_false])).2
theorem ybcp{ws:List Int}{ps:List St}{es:List Int}{qs:List Se}(h:zdk es qs=true):dvN ws ps es qs=riN ws ps/\dvD ws ps es qs=riD ws ps:=by
 cases p:pmB ws ps with
 | true=>exact(yakh (by rw[p,h];rfl)).2
 | false =>
  obtain⟨-,a,b⟩:=yalm p;obtain⟨-,c,d⟩:=yalt (ws:=ws) (ps:=ps) (es:=es) (qs:=qs) (by rw[p];rfl);exact⟨by rw[a,c],by rw[b,d]⟩
theorem zoa{ws:List Int}{ps:List St}{es:List Int}{qs:List Se}(h:¬ dvB ws ps es qs=true):dvN ws ps es qs=[]/\dvD ws ps es qs=[]:=⟨by unfold dvN;rw[if_neg h],by unfold dvD;rw[if_neg h]⟩
theorem dv_R{ws:List Int}{ps:List St}{es:List Int}{qs:List Se}:∀ k (h:k<(dvN ws ps es qs).length),(dvN ws ps es qs)[k].R:=by
 by_cases c:dvB ws ps es qs=true
 ·obtain⟨p,-,e,-,-⟩:=zfp c;rw[e];exact zwg p 16
 ·rw[(zoa c).1];intro k h
  cases h
theorem zwx{ws:List Int}{ps:List St}{es:List Int}{qs:List Se}:∀ k (h:k<(dvD ws ps es qs).length),(dvD ws ps es qs)[k].name.size<=maxLen:=by
 by_cases c:dvB ws ps es qs=true
 ·obtain⟨p,-,-,e,-⟩:=zfp c;rw[e];exact zkp _ 24
 ·rw[(zoa c).2];intro k h
  cases h
theorem zoi(ws:List Int)(ps:List St)(es:List Int)(qs:List Se):(dvN ws ps es qs).length<=1048576/\(dvD ws ps es qs).length<=1048576:=by
 by_cases c:dvB ws ps es qs=true
 ·obtain⟨-,-,e1,e2,-⟩:=zfp c;rw[e1,e2,zbw,zbm];omega
 ·rw[(zoa c).1,(zoa c).2];exact⟨by simp,by simp⟩
theorem yatj:zck [] []=false:=by decide
theorem yafz(ws:List Int)(ps:List St)(es:List Int)(qs:List Se):zck (dvN ws ps es qs) (dvD ws ps es qs)=dvB ws ps es qs:=by
 by_cases c:dvB ws ps es qs=true
 ·obtain⟨-,-,e1,e2,h⟩:=zfp c;rw[e1,e2,h,c]
 ·rw[(zoa c).1,(zoa c).2,yatj];exact((Bool.not_eq_true _).mp c).symm
theorem zia(v:Value)(ws:List Int)(ps:List St)(es:List Int)(qs:List Se)(w:World)(h:RdDev w v ws ps es qs)(hw:ws.length<=1048576)(hp:ps.length<=1048576)(he:es.length<=1048576)(hq:qs.length<=1048576)(hT:TS w)(hE:ED w)(hF:FD w) :
  zC 19 #[v] w fun e w'=>∃ v',e=.returned v'/\RowIm w' w.heap.size w'.heap.size v' (dvN ws ps es qs) (dvD ws ps es qs)/\zB w w':=by
 obtain⟨aW,cW,aP,cP,aS,cS,aQ,cQ,rfl,h1,h2⟩:=h.form;have LO:=zaa (fun w1 (hb:zB w w1)=>zdd _ es qs w1 (h2.below hb) he hq);have LR:=zaa (fun w1 (hb:zB w w1)=>znp _ ws ps w1 (h1.below hb) hw hp (hT.below hb) (hE.below hb) (hF.below hb));have NO:=zaa (fun q=>ybaj (ws:=ws) (ps:=ps) (es:=es) (qs:=qs) q);have YES:=zaa (fun q=>ybcp (ws:=ws) (ps:=ps) (es:=es) (qs:=qs) q);clear h h1 h2 hT hE hF
 obtain⟨W1,hW1⟩:=zE ((w.alloc (.cells #[.slice aW ws.length cW,.slice aP ps.length cP,.slice aS es.length cS,.slice aQ qs.length cQ] 31)).alloc (.cells #[.N,.N] 67))
 have hz1:W1.heap.size=w.heap.size+1+1:=by rw[hW1];simp
 have CA:Hid (∀ w',zB W1 w'->w'.cell? ⟨w.heap.size,0,none⟩=some (.slice aW ws.length cW)/\w'.cell? ⟨w.heap.size,1,none⟩=some (.slice aP ps.length cP)/\w'.cell? ⟨w.heap.size,2,none⟩=some (.slice aS es.length cS)/\w'.cell? ⟨w.heap.size,3,none⟩=some (.slice aQ qs.length cQ)):=fun w' hb=>by
  have:w'.heap[w.heap.size]?=some (.cells #[.slice aW ws.length cW,.slice aP ps.length cP,.slice aS es.length cS,.slice aQ qs.length cQ] 31 (0,0)):=(hb.block _ (by omega)).trans (by rw[hW1];exact zaj (zaf rfl));obtain⟨x0,x1,x2,x3,-,-,-,-⟩:=zai this;exact⟨x0,x1,x2,x3⟩
 have CR:Hid (∀ w',zB W1 w'->w'.heap[w.heap.size+1]?=some (.cells #[.N,.N] 67 (0,0))):=fun w' hb=>(hb.block _ (by omega)).trans (by
  rw[hW1];have:=zaf (w:=w.alloc (.cells #[.slice aW ws.length cW,.slice aP ps.length cP,.slice aS es.length cS,.slice aQ qs.length cQ] 31)) (o:=.cells #[.N,.N] 67) rfl;rw[World.size_alloc]at this
  exact this)
 have BW:Hid (zB w W1):=by rw[hW1];exact(zR.alloc zL _).alloc (by simp) _
 have hz0:w.heap.size+1<W1.heap.size:=by omega
 clear hz1;obtain⟨x0,x1,x2,x3⟩:=CA.o W1 zR;generalize riC ws ps=rc at *;generalize riN ws ps=rn at *;generalize riD ws ps=rd at *;generalize dvN ws ps es qs=dn at *;generalize dvD ws ps es qs=dd at *;generalize zdk es qs=ok at *;go_enter Tryz.func19,Tryz.ntmps19;go_wp2_with fail;rw[<- hW1];clear hW1;refine(LO.o _ BW.o).mono ?_;rintro e w1 ⟨rfl,hb1⟩;have B1:=zaa hb1;have B1w:=zaa (zab BW.o B1.o BW.o.size);clear x0 x1 x2 x3 hb1;obtain⟨x0,x1,x2,x3⟩:=CA.o w1 B1.o
 cases ok with
 | false =>
  obtain⟨rfl,rfl⟩:=NO.o rfl;have CB:=zaa (CR.o _ B1.o);obtain⟨p0,p1,p2,p3⟩:=zac CB.o;have BR:Hid (zB w ((w1.setCell ⟨w.heap.size+1,0,none⟩ (.N)).setCell ⟨w.heap.size+1,1,none⟩ (.N))):=(B1w.o.setCell (by simp only;omega) _).setCell (by simp only;omega) _;clear NO YES;go_wp2;refine bodyPost_ret (v:=.agg #[.N,.N]) (by simp[results,Tryz.results19,go_sem,p0,p1]) rfl ?_;exact⟨_,rfl,zdu _ _ _,BR.o⟩
 | true =>
  obtain⟨rfl,rfl⟩:=YES.o rfl;clear NO YES;go_wp2_with fail;refine(LR.o _ B1w.o).mono ?_;rintro e w2 ⟨v2,rfl,⟨vI,vD,rfl,hI,hD⟩,hb2⟩;obtain⟨-,a1,c1,hv1,-⟩:=hI.rd;obtain⟨-,a2,c2,hv2,-⟩:=hD.rd;subst hv1;subst hv2;have HI:=zaa hI;have HD:=zaa hD;have B2:=zaa (zik B1.o hb2);have B3:Hid (zB W1 (w2.alloc (.cells #[.slice a1 dn.length c1,.slice a2 dd.length c2] 67))):=zar B2.o _;have hz12:W1.heap.size<=w1.heap.size:=B1.o.size;have hz2:w1.heap.size<=w2.heap.size:=hb2.size;have hzw:w.heap.size<=w1.heap.size:=B1w.o.size;clear x0 x1 x2 x3 hb2 hI hD;obtain⟨y0,y1,_,_⟩:=zac (zaf (w:=w2) (o:=.cells #[.slice a1 dn.length c1,.slice a2 dd.length c2] 67) rfl)
  obtain⟨w3,hw3⟩:=zE (w2.alloc (.cells #[.slice a1 dn.length c1,.slice a2 dd.length c2] 67))
  have BC:Hid (zB w2 w3):=by rw[hw3];exact zR.alloc zL _
  rw[<- hw3]at B3 y0 y1;have HI3:=zaa (HI.o.below BC.o zL);have HD3:=zaa (HD.o.below BC.o zL);have hz3:w2.heap.size<=w3.heap.size:=BC.o.size;have CB:=zaa (CR.o _ B3.o);obtain⟨p0,p1,p2,p3⟩:=zac CB.o;have BR:Hid (zB w ((w3.setCell ⟨w.heap.size+1,0,none⟩ (.slice a1 dn.length c1)).setCell ⟨w.heap.size+1,1,none⟩ (.slice a2 dd.length c2))):=((zab BW.o B3.o BW.o.size).setCell (by simp only;omega) _).setCell (by simp only;omega) _;have RF:=zaa (zjp (yaao HI3.o HD3.o CB.o (.slice a1 dn.length c1) (.slice a2 dd.length c2)) (lo':=w.heap.size) (hi':=((w3.setCell ⟨w.heap.size+1,0,none⟩ (.slice a1 dn.length c1)).setCell ⟨w.heap.size+1,1,none⟩ (.slice a2 dd.length c2)).heap.size) (by omega) (by simp;omega));clear CB HI HD HI3 HD3 BC B3 B2 LR LO CA CR;subst hw3;go_wp2;refine bodyPost_ret (v:=.agg #[.slice a1 dn.length c1,.slice a2 dd.length c2]) (by simp[results,Tryz.results19,go_sem,p0,p1]) rfl ?_;exact⟨_,rfl,RF.o,BR.o⟩
theorem yaap(v:Value)(ws:List Ino)(ps:List Den)(i:Int)(w:World)(h:RdIm w v ws ps)(hl:ws.length=16)(h0:0<=i/\i<=15) :
  zC 47 #[v,.I i] w fun e w'=>e=.returned (.bool (zal ws i == 2))/\zB w w':=by
 obtain⟨vW,vP,rfl,h1,h2⟩:=h;obtain⟨aW,cW,rfl,_,hcW⟩:=h1.shape;obtain⟨aP,cP,rfl,_,_⟩:=h2.shape
 obtain⟨n,rfl⟩:∃ n:Nat,i=(n:Int):=⟨i.toNat,by omega⟩
 have hn:n<ws.length:=by omega
 obtain⟨bW,oW,rfl,hblW,hcellW⟩:=hcW (by omega);have BW:Hid (zB w (w.alloc (.cells #[.slice (some ⟨bW,oW,none⟩) ws.length cW,.slice aP ps.length cP] 67))):=zR.alloc zL _;have k0:=(BW.o.cell (p:=⟨bW,oW+n*11,none⟩) hblW).trans (hcellW n hn).1;rw[<- zbv hn]at k0
 have n0:(0:Int)<=(n:Int):=by omega
 have n1:(n:Int)<(ws.length:Int):=by omega
 clear h1 h2 hcW hcellW hl h0 hn;generalize zal ws (n:Int)=kk at *;go_enter Tryz.func47,Tryz.ntmps47;go_wp2;go_ret;exact⟨rfl,BW.o⟩
end Go.Proofs.YtdiaiejmoocpmaaGreatDoor

namespace Go.Proofs.YtdiaiejmoocpmaaGreatDoor
open Go.Shelf Go.RowKit
def yadn:Go.Shelf.Ren:=⟨fun | 103=>167 | 210=>189 | 206=>201 | n=>n,fun | 9=>9 | 4=>4 | 24=>183 | 3=>3 | n=>n,fun | n=>n⟩
theorem yawk:Go.Proofs.Lays.n103 Tryz.prog yadn:={
 mixed:=by kernel_rfl
 f103:=Tryz.func167.trans (congrArg some (by kernel_rfl))
 f206:=Tryz.func201.trans (congrArg some (by kernel_rfl))
 f210:=Tryz.func189.trans (congrArg some (by kernel_rfl))
 t3:=Tryz.underlying3
 a3:=Tryz.isAgg3
 z3:=Tryz.sizeOf3
 v3:=Tryz.zeroValue3
 t4:=Tryz.underlying4
 a4:=Tryz.isAgg4
 z4:=Tryz.sizeOf4
 v4:=Tryz.zeroValue4
 t9:=Tryz.underlying9
 a9:=Tryz.isAgg9
 z9:=Tryz.sizeOf9
 v9:=Tryz.zeroValue9
 t24:=Tryz.underlying183
 a24:=Tryz.isAgg183
 z24:=Tryz.sizeOf183
 v24:=Tryz.zeroValue183 }
def zht:Go.Shelf.Ren:=⟨fun | 146=>168 | 221=>190 | 268=>202 | 138=>203 | 143=>204 | 195=>209 | 197=>210 | 218=>211 | 219=>212 | 260=>213 | 217=>214 | 225=>215 | 224=>216 | 267=>217 | 266=>218 | 314=>219 | n=>n,fun | 9=>9 | 31=>33 | 3=>3 | 4=>4 | 0=>0 | 105=>239 | 21=>21 | 5=>5 | 46=>242 | 119=>243 | 139=>246 | 138=>245 | 146=>248 | 51=>247 | n=>n,fun | 1=>5 | 3=>6 | 4=>7 | n=>n⟩
theorem yabj:Go.Proofs.Lays.n146 Tryz.prog zht:={
 mixed:=by kernel_rfl
 f138:=Tryz.func203.trans (congrArg some (by kernel_rfl))
 f143:=Tryz.func204.trans (congrArg some (by kernel_rfl))
 f146:=Tryz.func168.trans (congrArg some (by kernel_rfl))
 f195:=Tryz.func209.trans (congrArg some (by kernel_rfl))
 f197:=Tryz.func210.trans (congrArg some (by kernel_rfl))
 f217:=Tryz.func214.trans (congrArg some (by kernel_rfl))
 f218:=Tryz.func211.trans (congrArg some (by kernel_rfl))
 f219:=Tryz.func212.trans (congrArg some (by kernel_rfl))
 f221:=Tryz.func190.trans (congrArg some (by kernel_rfl))
 f224:=Tryz.func216.trans (congrArg some (by kernel_rfl))
 f225:=Tryz.func215.trans (congrArg some (by kernel_rfl))
 f260:=Tryz.func213.trans (congrArg some (by kernel_rfl))
 f266:=Tryz.func218.trans (congrArg some (by kernel_rfl))
 f267:=Tryz.func217.trans (congrArg some (by kernel_rfl))
 f268:=Tryz.func202.trans (congrArg some (by kernel_rfl))
 f314:=Tryz.func219.trans (congrArg some (by kernel_rfl))
 t0:=Tryz.underlying0
 a0:=Tryz.isAgg0
 z0:=Tryz.sizeOf0
 v0:=Tryz.zeroValue0
 t3:=Tryz.underlying3
 a3:=Tryz.isAgg3
 z3:=Tryz.sizeOf3
 v3:=Tryz.zeroValue3
 t4:=Tryz.underlying4
 a4:=Tryz.isAgg4
 z4:=Tryz.sizeOf4
 v4:=Tryz.zeroValue4
 t5:=Tryz.underlying5
 a5:=Tryz.isAgg5
 z5:=Tryz.sizeOf5
 v5:=Tryz.zeroValue5
 t9:=Tryz.underlying9
 a9:=Tryz.isAgg9
 z9:=Tryz.sizeOf9
 v9:=Tryz.zeroValue9
 t21:=Tryz.underlying21
 a21:=Tryz.isAgg21
 z21:=Tryz.sizeOf21
 v21:=Tryz.zeroValue21
 t31:=Tryz.underlying33
 a31:=Tryz.isAgg33
 z31:=Tryz.sizeOf33
 v31:=Tryz.zeroValue33
 t46:=Tryz.underlying242
 a46:=Tryz.isAgg242
 z46:=Tryz.sizeOf242
 v46:=Tryz.zeroValue242
 t51:=Tryz.underlying247
 a51:=Tryz.isAgg247
 z51:=Tryz.sizeOf247
 v51:=Tryz.zeroValue247
 t105:=Tryz.underlying239
 a105:=Tryz.isAgg239
 z105:=Tryz.sizeOf239
 v105:=Tryz.zeroValue239
 t119:=Tryz.underlying243
 a119:=Tryz.isAgg243
 z119:=Tryz.sizeOf243
 t138:=Tryz.underlying245
 a138:=Tryz.isAgg245
 z138:=Tryz.sizeOf245
 v138:=Tryz.zeroValue245
 t139:=Tryz.underlying246
 a139:=Tryz.isAgg246
 z139:=Tryz.sizeOf246
 v139:=Tryz.zeroValue246
 t146:=Tryz.underlying248
 a146:=Tryz.isAgg248
 z146:=Tryz.sizeOf248
 v146:=Tryz.zeroValue248
 g1:=by kernel_rfl
 g3:=by kernel_rfl
 g4:=by kernel_rfl }
end Go.Proofs.YtdiaiejmoocpmaaGreatDoor

namespace Go.Proofs.YtdiaiejmoocpmaaGreatDoor
open Go.Shelf Go.RowKit Go.Lib
theorem zuv(s p:ByteArray)(w:World) :
  zC 167 #[.string s,.string p] w fun e w'=>e=.returned (.tuple #[.string ⟨(Lib.trimPrefix s.data.toList p.data.toList).toArray⟩,.bool (Lib.hasPrefix s.data.toList p.data.toList)])/\w'=w:=Any.strings_CutPrefix yawk s p w
theorem yabn(x:ByteArray)(w:World):zC 204 #[.string x,.string ⟨#[47]⟩] w fun e w'=>e=.returned (.I (Lib.indexB x ⟨#[47]⟩))/\w'=w:=by
 refine(show zC 204 #[.string x,.string ⟨#[47]⟩] w fun e w'=>e=.returned (.I (Lib.indexByte x.data.toList 47))/\w'=w from Any.strings_Index_one (ρ:=zht) { yabj with } x 47 w).mono fun e w' ⟨he,hw⟩=>⟨?_,hw⟩
 rw[he]
 show _=Ending.returned (Value.I (Lib.index x.data.toList [47]))
 rw[Lib.index_one]
theorem yadl(x:ByteArray)(w:World):zC 203 #[.string x,.string ⟨#[47]⟩] w fun e w'=>e=.returned (.I (Lib.countB x ⟨#[47]⟩))/\w'=w:=by
 refine(show zC 203 #[.string x,.string ⟨#[47]⟩] w fun e w'=>e=.returned (.I (Lib.countByte x.data.toList 47))/\w'=w from Any.strings_Count_one (ρ:=zht) { yabj with } x 47 w).mono fun e w' ⟨he,hw⟩=>⟨?_,hw⟩
 rw[he]
 show _=Ending.returned (Value.I ((Lib.count x.data.toList [47]:Nat):Int))
 rw[Lib.count_one];rfl
theorem yabg(s:ByteArray)(w:World)(hs:s.size<4294967281) :
  zC 168 #[.string s,.string ⟨#[47]⟩] w fun e w' =>
   e=.returned (.slice (some ⟨w.heap.size,0,none⟩) (pcs s).length (pcs s).length)/\w'=w.alloc (.cells (zfl (pcs s)).toArray 9):=by
 have hle:=Lib.countB_le ⟨#[47]⟩ (by decide) s.size s zL;have hlen:=Lib.splitB_all ⟨#[47]⟩ (by decide) 0 _ s rfl
 have c:zC 190 #[.string s,.string ⟨#[47]⟩,.I ((0:Nat):Int),.I (-1)] w fun e w' =>
   e=.returned (.slice (some ⟨w.heap.size,0,none⟩) (Lib.splitB ⟨#[47]⟩ 0 (Lib.countB s ⟨#[47]⟩+1-1) s).length (Lib.countB s ⟨#[47]⟩+1))/\w'=w.alloc (.cells (Lib.cellsOf (Lib.splitB ⟨#[47]⟩ 0 (Lib.countB s ⟨#[47]⟩+1-1) s) (Lib.countB s ⟨#[47]⟩+1)) 9) :=
  Any.strings_genSplit_core (ρ:=zht) { yabj with } (by kernel_rfl) s ⟨#[47]⟩ 0 (-1) (Lib.countB s ⟨#[47]⟩+1) w hs (by decide) (Nat.zero_le _) (fun x _ _=>yabn x _) (yadl s w) (by decide) (by decide) (by rw[if_pos (by decide)];omega)
 rw[Nat.add_sub_cancel,hlen]at c
 have e2:Lib.cellsOf (Lib.splitB ⟨#[47]⟩ 0 (Lib.countB s ⟨#[47]⟩) s) (Lib.countB s ⟨#[47]⟩+1)=((Lib.splitB ⟨#[47]⟩ 0 (Lib.countB s ⟨#[47]⟩) s).map Value.string).toArray:=by rw[<- hlen];exact Lib.cellsOf_full _
 rw[e2,yaaf,yaoc]at c;have C:=zaa c;clear c hle hlen e2;unfold zfl;generalize (pcs s).length=n at *;generalize ((pcs s).map Value.string).toArray=cs at *;go_enter Tryz.func168,Tryz.ntmps168;go_wp2_with (go_at_call 190;refine C.o.mono ?_;rintro e w' ⟨rfl,hw⟩;rw[hw]);go_ret;exact⟨rfl,rfl⟩
end Go.Proofs.YtdiaiejmoocpmaaGreatDoor
