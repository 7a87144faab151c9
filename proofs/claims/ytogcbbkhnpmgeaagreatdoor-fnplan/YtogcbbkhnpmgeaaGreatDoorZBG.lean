import Derived.Test.YtogcbbkhnpmgeaaGreatDoorZBF
set_option maxRecDepth 100000
set_option maxHeartbeats 4000000
namespace Go.Proofs.YtogcbbkhnpmgeaaGreatDoor
open Go.RowKit
theorem zwu{w:World}{base:Nat}{e:TypeId}{size:Nat}{v:Value}{n:Nat}{xs:List Value}(h:w.ownsRow base e size v n xs)(hn:0<n):∃ b c,v=.slice (some ⟨b,0,none⟩) n c/\n<=c:=by
 rcases(zad h).shape with ⟨_,e,_⟩ | ⟨b,c,rfl,hc,_⟩
 ·omega
 ·exact⟨b,c,rfl,hc⟩
theorem yami(ls:List Int)(k:Nat):denZ (wdI ls (240+3*(k:Int))) (wdI ls (240+3*(k:Int)+1)) (wdI ls (240+3*(k:Int)+2))=zgg ls k/\zqn (wdI ls (240+3*(k:Int))) (wdI ls (240+3*(k:Int)+1)) (wdI ls (240+3*(k:Int)+2))=zcc ls k:=⟨rfl,rfl⟩
theorem yaxp(ls:List Int)(n j:Nat)(h:n+j<ls.length):ls[n+j]=wdI ls ((n:Int)+(j:Int)):=by
 have:=yawf h;rw[<- this]
 congr 1
theorem ybaz(ls:List Int)(i:Nat)(hi:i<16)(hl:ls.length=336)(j:Nat)(hj:j<11):(zeg ls)[48+12*i+j]?=(zeh ls i).cs[j]?:=by
 rw[zdx ls (48+12*i+j) (by omega),yaxp ls (48+12*i) j (by omega),show(((48+12*i:Nat):Int)+(j:Int))=48+12*(i:Int)+(j:Int) by omega]
 rcases(show j=0\/j=1\/j=2\/j=3\/j=4\/j=5\/j=6\/j=7\/j=8\/j=9\/j=10 by omega)with rfl|rfl|rfl|rfl|rfl|rfl|rfl|rfl|rfl|rfl|rfl
 ·simp[zeh,Ino.cs]
 all_goals rfl
theorem zny(v:Value)(ws:List Int)(ps:List St)(w:World)(h:RdPm w v ws ps)(hw:ws.length<=1048576)(hp:ps.length<=1048576)(hT:TS w)(hE:ED w)(hF:FD w) :
  zC 12 #[v] w fun e w'=>∃ v',e=.returned (.tuple #[v',.I (riC ws ps)])/\RowIm w' w.heap.size w'.heap.size v' (riN ws ps) (riD ws ps)/\zB w w':=by
 have HR:=zaa h;have LS:=zaa (fun w1 h=>ztk v ws ps w1 h hw hp);have T:=zaa hT;have E:=zaa hE;have F:=zaa hF;obtain⟨vW,vP,rfl,h1,h2⟩:=h;obtain⟨aW,cW,rfl,_,_⟩:=h1.shape;obtain⟨aP,cP,rfl,_,_⟩:=h2.shape;clear h1 h2 hT hE hF
 obtain⟨W1,hW1⟩:=zE ((w.alloc (.cells #[.slice aW ws.length cW,.slice aP ps.length cP] 26)).alloc (.cells #[.N,.N] 51))
 have hz1:W1.heap.size=w.heap.size+1+1:=by rw[hW1];simp
 have CA:Hid (∀ w',zB W1 w'->w'.cell? ⟨w.heap.size,0,none⟩=some (.slice aW ws.length cW)/\w'.cell? ⟨w.heap.size,1,none⟩=some (.slice aP ps.length cP)):=fun w' hb=>by
  have:w'.heap[w.heap.size]?=some (.cells #[.slice aW ws.length cW,.slice aP ps.length cP] 26 (0,0)):=(hb.block _ (by omega)).trans (by rw[hW1];exact zal (zaf rfl));exact⟨(zac this).1,(zac this).2.1⟩
 have CR:Hid (∀ w',zB W1 w'->w'.heap[w.heap.size+1]?=some (.cells #[.N,.N] 51 (0,0))):=fun w' hb=>(hb.block _ (by omega)).trans (by
  rw[hW1];have:=zaf (w:=w.alloc (.cells #[.slice aW ws.length cW,.slice aP ps.length cP] 26)) (o:=.cells #[.N,.N] 51) rfl;rw[World.size_alloc]at this
  exact this)
 have BW:Hid (zB w W1):=by rw[hW1];exact(zR.alloc zL _).alloc (by simp) _
 have hz0:w.heap.size+1<W1.heap.size:=by omega
 clear hz1;obtain⟨x0,x1⟩:=CA.o W1 zR
 cases c1:pmB ws ps with
 | false =>
  obtain⟨E1,E2,E3⟩:=yapj c1;obtain⟨S1,S2⟩:=yaeu c1;rw[S1,S2]at LS;rw[E1,E2,E3];clear c1 E1 E2 E3 S1 S2;go_enter Tryz.func12,Tryz.ntmps12;go_wp2_with fail;rw[<- hW1];clear hW1;refine(LS.o _ (HR.o.below BW.o)).mono ?_;rintro e w1 ⟨v1,rfl,_,hb1⟩;have B1:=zaa hb1;clear x0 x1 hb1;have CB:=zaa (CR.o _ B1.o);obtain⟨p0,p1,p2,p3⟩:=zac CB.o;have BR:Hid (zB w ((w1.setCell ⟨w.heap.size+1,0,none⟩ (.N)).setCell ⟨w.heap.size+1,1,none⟩ (.N))):=((zab BW.o B1.o BW.o.size).setCell (by simp only;omega) _).setCell (by simp only;omega) _;go_wp2;refine bodyPost_ret (v:=.tuple #[.agg #[.N,.N],.I 1]) (by simp[results,Tryz.results12,go_sem,p0,p1]) rfl ?_;exact⟨_,rfl,zdp _ _ _,BR.o⟩
 | true =>
 have C1:=zaa c1;obtain⟨S1,S2⟩:=yaoz c1;rw[S1,S2]at LS;have L336:=zaa (show(zce ws ps).length=336 by rw[zcp];exact(zgj c1).1);have WR:=zaa (fun z=>zqy c1 z);have NO:=zaa (fun q=>yaeq C1.o q);have YES:=zaa (fun q=>ybad C1.o q);have RB:=zaa (show riB (zce ws ps)=(wdI (zce ws ps) 0 == 7&&(zcl (zce ws ps) 24&&zbg (zbj (zce ws ps) 16) (zbl (zce ws ps) 24)))from rfl);have LI:=zaa (fun v w1 h hT hE hF=>zby v (zbj (zce ws ps) 16) (zbl (zce ws ps) 24) w1 h (by rw[zbz];omega) (by rw[zbu];omega) hT hE hF (zwy C1.o 16) (zkx _ 24));clear c1 S1 S2;generalize riC ws ps=rc at *;generalize riN ws ps=rn at *;generalize riD ws ps=rd at *;generalize zce ws ps=ls at *;go_enter Tryz.func12,Tryz.ntmps12;go_wp2_with fail;rw[<- hW1];clear hW1;refine(LS.o _ (HR.o.below BW.o)).mono ?_;rintro e w1 ⟨v1,rfl,hr1,hb1⟩;have B1:=zaa hb1;have hzz:W1.heap.size<=w1.heap.size:=hb1.size;obtain⟨b,c,rfl,hcap⟩:=zwu hr1.1 (by have:=L336.o;omega)
 obtain⟨_,_,_,hbl,_,hcl⟩:=hr1.at
 have HC:Hid (∀ w',zB w1 w'->∀ j,j<336->w'.cell? ⟨b,j,none⟩=(zeg ls)[j]?):=fun w' hb j hj=>(hb.cell (p:=⟨b,j,none⟩) hbl).trans (hcl j (by have:=L336.o;omega))
 have c336:336<=c:=by have:=L336.o;omega
 simp only[L336.o];clear hr1 hb1 hcl hcap x0 x1 LS
 have START:Hid (RimI w1 (w1.alloc (.cells #[.N,.N] 51)) w1.heap.size (.N) (.N) (zbj ls 0) []):=⟨zaf rfl,World.ownsRow_nil _ _ _ _,World.ownsRow_nil _ _ _ _,zR.alloc zL _,Nat.le_refl _⟩
 go_wp2_with fail
 go_loopg [20] 16 (fun g i wr=>∃ k:Nat,k+g=16/\i=.I k/\Hid (∃ vI vD,RimI w1 wr w1.heap.size vI vD (zbj ls k) []))
 case atStart=>exact⟨0,rfl,rfl,_,_,START.o⟩
 case round =>
  obtain⟨k,hk,rfl,J⟩:=hrel;obtain⟨vI,vD,I⟩:=J.o;have I:=zaa I
  have k0:(0:Int)<=(k:Int):=by omega
  clear J START
  by_cases hlt:k<16
  ·have k1:(k:Int)<16:=by omega
   obtain⟨n,hn⟩:∃ n:Nat,n=48+12*k:=⟨_,rfl⟩
   have wm:IntKind.i64.wrap (12*(k:Int))=12*(k:Int):=by rw[IntKind.wrap_i64];omega
   have wa:IntKind.i64.wrap (48+12*(k:Int))=(n:Int):=by rw[IntKind.wrap_i64];omega
   have a0:(0:Int)<=(n:Int):=by omega
   have a1:(n:Int)<=336:=by omega
   have a2:(n:Int)<=(c:Int):=by omega
   have a3:¬ c=n:=by omega
   have LRI:=zaa (fun w2 (hb:zB wr w2)=>zwt b n (336-n) (c-n) (zeh ls k) w2 (by omega) (by omega) (Nat.lt_of_lt_of_le hbl (zab I.o.b hb I.o.z).size) (fun j hj=>by
    have:=HC.o w2 (zab I.o.b hb I.o.z) (n+j) (by omega);rw[this,hn]
    exact ybaz ls k hlt L336.o j hj))
   have MN:=zaa (zse ls k);have ML:=zbz ls k;unfold Ino.v at LRI;clear hn;generalize zeh ls k=x at *;obtain⟨m0,m1,_,_⟩:=zac I.o.m;have hzI:=I.o.z;go_wp2_with fail
   go_region_law (first
     | (go_simp;go_at_call 34;refine(LRI.o _ (by repeat (first | with_reducible exact BF.o | with_reducible exact zR | with_reducible refine Below.drew ?_))).mono ?_;rintro e w2 ⟨rfl,hb2⟩;have BF:Hid (zB wr w2):=zgu (by repeat (first | with_reducible exact BF.o | with_reducible exact zR | with_reducible refine Below.drew ?_)) hb2;clear hb2;have IA:=zaa ((I.o.below BF.o).below (zR.alloc zL (.cells #[.I x.kind,.I x.size,.I x.links,.I x.m0,.I x.m1,.I x.m2,.I x.m3,.I x.m4,.I x.m5,.I x.m6,.I x.m7] 87)));have RX:=zaa (yawg w2 x);obtain⟨e0,e1,_,_⟩:=zac (I.o.below BF.o).m;obtain⟨f0,f1,_,_⟩:=zac IA.o.m)
     | (refine zap rfl (.tmp 24) (.tmp 31) 48 rfl w1.heap.size 87 (.agg #[.I 0,.I 0,.I 0,.I 0,.I 0,.I 0,.I 0,.I 0,.I 0,.I 0,.I 0]) 11 88 Tryz.underlying48 yamw rfl (by decide) _ _ _ rfl IA.o.i _ 1 _ rfl RX.o (yaaj _) (by simp[maxLen];omega) (by omega) IA.o.z ?_;intro vN wN hownN hgrN;obtain⟨bN,cN,rfl,_⟩:=zwu hownN (by omega);have GG:=zaa (IA.o.growI x hownN hgrN);obtain⟨g0,g1,g2,g3⟩:=zac GG.o.1;clear hownN hgrN))
   all_goals
    have G:=zaa GG.o.2;rw[<- MN.o]at G;simp only[zbz]at G;go_wp2
    go_roundg (16-(k+1))
    case measure=>omega
    case rel=>exact⟨k+1,by omega,by go_num,_,_,G.o⟩
  ·obtain rfl:k=16:=by omega
   have SE:Hid (∃ vI vD,RimI w1 wr w1.heap.size vI vD (zbj ls 16) (zbl ls 0)):=⟨vI,vD,I.o⟩
   have AG0:Hid (∀ j,j<0->zcc ls j=true):=fun j h=>absurd h (by omega)
   have BB:=zaa (zab BW.o B1.o BW.o.size);clear I;go_wp2_with fail
   go_loopg [35] 24 (fun g i wq=>∃ k:Nat,k+g=24/\i=.I k/\Hid ((∃ vI vD,RimI w1 wq w1.heap.size vI vD (zbj ls 16) (zbl ls k))/\∀ j,j<k->zcc ls j=true))
   case atStart=>exact⟨0,rfl,rfl,SE.o,AG0.o⟩
   case round =>
    obtain⟨k,hk,rfl,J⟩:=hrel;obtain⟨vI,vD,I⟩:=J.o.1;have I:=zaa I;have AG:=zaa J.o.2
    have k0:(0:Int)<=(k:Int):=by omega
    clear J SE AG0
    by_cases hlt:k<24
    ·have k1:(k:Int)<24:=by omega
     obtain⟨n,hn⟩:∃ n:Nat,n=240+3*k:=⟨_,rfl⟩
     have wm:IntKind.i64.wrap (3*(k:Int))=3*(k:Int):=by rw[IntKind.wrap_i64];omega
     have wa:IntKind.i64.wrap (240+3*(k:Int))=(n:Int):=by rw[IntKind.wrap_i64];omega
     have a0:(0:Int)<=(n:Int):=by omega
     have a1:(n:Int)<=336:=by omega
     have a2:(n:Int)<=(c:Int):=by omega
     have a3:¬ c=n:=by omega
     have r1:=WR.o (240+3*(k:Int)+1);have r2:=WR.o (240+3*(k:Int)+2)
     have HX:Hid (∀ w2,zB wr w2->∀ j:Nat,j<3->w2.cell? ⟨b,n+j,none⟩=some (.I (wdI ls (240+3*(k:Int)+(j:Int))))):=fun w2 hb j hj=>by
      rw[HC.o w2 (zab I.o.b hb I.o.z) (n+j) (by omega),zdx ls (n+j) (by have:=L336.o;omega),yaxp ls n j (by have:=L336.o;omega),show((n:Int)+(j:Int))=240+3*(k:Int)+(j:Int) by omega]
     have LRD:=zaa (fun w2 (hb:zB wr w2)=>zto b n (336-n) (c-n) (wdI ls (240+3*(k:Int))) (wdI ls (240+3*(k:Int)+1)) (wdI ls (240+3*(k:Int)+2)) w2 (by omega) (by omega) (Nat.lt_of_lt_of_le hbl (zab I.o.b hb I.o.z).size) (by have:=HX.o w2 hb 0 (by omega);simpa using this) (by have:=HX.o w2 hb 1 (by omega);simpa using this) (by have:=HX.o w2 hb 2 (by omega);simpa using this) (F.o.below (zab BB.o (zab I.o.b hb I.o.z) BB.o.size)) (by omega) (by omega));simp only[(yami ls k).1,(yami ls k).2]at LRD
     have AGN:Hid (zcc ls k=true->∀ j,j<k+1->zcc ls j=true):=fun q j h=>by
      by_cases e:j=k
      ·subst e;exact q
      ·exact AG.o j (by omega)
     have MN:=zaa (zlf ls k);have ML:=zbu ls k
     have GF:Hid (zcc ls k=false->zcl ls 24=false):=fun q=>zjz (n:=24) hlt q
     clear hn HX r1 r2;generalize zgg ls k=x at *;generalize zcc ls k=gd at *;go_wp2_with fail;refine(LRD.o _ zR).mono ?_;rintro e w2 ⟨⟨s,rfl,hs⟩,hb2⟩;have B2:=zaa hb2;clear LRD hb2;have B3:=zaa (zat B2.o (.cells #[.I x.dir,.string s,.I x.child] 90));have hz2:wr.heap.size<=w2.heap.size:=B2.o.size;have hz3:w1.heap.size<=wr.heap.size:=I.o.z
     cases gd with
     | false =>
      clear hs AGN MN ML;have CB:=zaa (CR.o _ (zgu B1.o (zab I.o.b B3.o I.o.z)));obtain⟨p0,p1,p2,p3⟩:=zac CB.o;have EE:=zaa (NO.o (by rw[RB.o,GF.o rfl];simp));have BR:Hid (zB w (((w2.alloc (.cells #[.I x.dir,.string s,.I x.child] 90)).setCell ⟨w.heap.size+1,0,none⟩ (.N)).setCell ⟨w.heap.size+1,1,none⟩ (.N))):=((zab BB.o (zab I.o.b B3.o I.o.z) BB.o.size).setCell (by simp only;omega) _).setCell (by simp only;omega) _;go_wp2;refine bodyPost_ret (v:=.tuple #[.agg #[.N,.N],.I 3]) (by simp[results,Tryz.results12,go_sem,p0,p1]) rfl ?_;obtain⟨E1,E2,E3⟩:=EE.o;rw[E1,E2,E3];exact⟨_,rfl,zdp _ _ _,BR.o⟩
     | true =>
      obtain rfl:=hs rfl;have AG2:=zaa (AGN.o rfl);clear hs GF AGN;have XB:Hid (BoxZ 90 wr (w2.alloc (.cells #[.I x.dir,.string x.name,.I x.child] 90)) w2.heap.size [.I x.dir,.string x.name,.I x.child]):=BoxZ.new B2.o;have e0:=(XB.o.cell 0).1;have e1:=(XB.o.cell 1).1;have e2:=(XB.o.cell 2).1;simp only[List.getElem?_cons_zero,List.getElem?_cons_succ]at e0 e1 e2;have IR:=zaa (I.o.below B3.o);obtain⟨n0,n1,_,_⟩:=zac IR.o.m;have IA:=zaa (IR.o.below (zR.alloc zL (.cells #[.I x.dir,.string x.name,.I x.child] 90)));have RX:=zaa (yafc (w2.alloc (.cells #[.I x.dir,.string x.name,.I x.child] 90)) x);simp only[World.size_alloc]at RX;have hzA:=IA.o.z;simp only[World.size_alloc]at hzA;go_wp2_with (at_builtin;refine zae _ rfl (.tmp 51) (.tmp 53) 49 rfl w1.heap.size 90 (.agg #[.I 0,.string ⟨#[]⟩,.I 0]) 3 32 Tryz.underlying49 zqc rfl (by decide) _ _ _ rfl IA.o.d _ 1 _ rfl RX.o (zjt _) (by simp[maxLen];omega) (by omega) IA.o.z ?_);intro vN wN hownN hgrN;obtain⟨bN,cN,rfl,_⟩:=zwu hownN (by omega);obtain⟨g1,g2⟩:=IA.o.growD x (by rw[zbu];exact hownN) hgrN;have G:=zaa g2;rw[<- MN.o]at G;clear n0 n1 g2 IA RX hownN hgrN ML MN;obtain⟨n0,n1,n2,n3⟩:=zac g1;clear g1;go_wp2
      go_roundg (24-(k+1))
      case measure=>omega
      case rel=>exact⟨k+1,by omega,by go_num,⟨_,_,G.o⟩,AG2.o⟩
    ·obtain rfl:k=24:=by omega
     have EB:=zaa (zim (ls:=ls) (n:=24) AG.o);rw[EB.o,Bool.true_and]at RB
     rcases(zad I.o.i).shape with ⟨_,e,_⟩ | ⟨b1,c1,rfl,_,_⟩
     ·rw[zbz]at e;omega
     rcases(zad I.o.d).shape with ⟨_,e,_⟩ | ⟨b2,c2,rfl,_,_⟩
     ·rw[zbu]at e;omega
     simp only[zbz,zbu]at I
     have R0:Hid (RowIm wr w1.heap.size wr.heap.size (.agg #[.slice (some ⟨b1,0,none⟩) 16 c1,.slice (some ⟨b2,0,none⟩) 24 c2]) (zbj ls 16) (zbl ls 24)):=⟨_,_,rfl,zad I.o.i,zad I.o.d⟩
     obtain⟨n0,n1,_,_⟩:=zac I.o.m;have hzr:w1.heap.size<=wr.heap.size:=I.o.z;have BWr:=zaa (zab BB.o I.o.b BB.o.size);have CB:=zaa (CR.o _ (zgu B1.o I.o.b));have IM:=zaa I.o.m;have IL:=I.o.lt
     have h0:wr.cell? ⟨b,0,none⟩=some (.I (wdI ls 0)):=by
      rw[HC.o wr I.o.b 0 (by omega),zdx ls 0 (by have:=L336.o;omega),yaxp ls 0 0 (by have:=L336.o;omega)];rfl
     clear AG EB I HC WR
     by_cases z:wdI ls 0=7
     case neg =>
      have q:(wdI ls 0 != 7)=true:=by rw[bne_iff_ne];exact z
      have EE:=zaa (NO.o (by rw[RB.o,show(wdI ls 0 == 7)=false by rw[beq_eq_false_iff_ne];exact z];simp));obtain⟨p0,p1,p2,p3⟩:=zac CB.o;have BR:Hid (zB w ((wr.setCell ⟨w.heap.size+1,0,none⟩ (.N)).setCell ⟨w.heap.size+1,1,none⟩ (.N))):=(BWr.o.setCell (by simp only;omega) _).setCell (by simp only;omega) _;clear z;go_wp2;refine bodyPost_ret (v:=.tuple #[.agg #[.N,.N],.I 3]) (by simp[results,Tryz.results12,go_sem,p0,p1]) rfl ?_;obtain⟨E1,E2,E3⟩:=EE.o;rw[E1,E2,E3];exact⟨_,rfl,zdp _ _ _,BR.o⟩
     have q:(wdI ls 0 != 7)=false:=by rw[z];rfl
     rw[z]at RB;have LI2:=zaa (LI.o _ wr R0.o.rd (T.o.below BWr.o) (E.o.below BWr.o) (F.o.below BWr.o));clear LI;generalize zbg (zbj ls 16) (zbl ls 24)=ib at *;rw[z]at h0;clear z q;go_wp2_with fail;refine LI2.o.mono ?_;rintro e w5 ⟨rfl,hb5⟩;have hz5:wr.heap.size<=w5.heap.size:=hb5.size;have B5:=zaa (zab BWr.o hb5 BWr.o.size);have R5:=zaa (R0.o.below hb5 zL);have CB5:=zaa ((hb5.block _ (by omega)).trans CB.o);have IM5:=zaa ((hb5.block _ IL).trans IM.o);clear n0 n1 h0 hb5 R0 CB IM LI2;obtain⟨n0,n1,_,_⟩:=zac IM5.o;obtain⟨p0,p1,p2,p3⟩:=zac CB5.o
     cases ib with
     | false =>
      have EE:=zaa (NO.o (by rw[RB.o];rfl));have BR:Hid (zB w ((w5.setCell ⟨w.heap.size+1,0,none⟩ (.N)).setCell ⟨w.heap.size+1,1,none⟩ (.N))):=(B5.o.setCell (by simp only;omega) _).setCell (by simp only;omega) _;go_wp2;refine bodyPost_ret (v:=.tuple #[.agg #[.N,.N],.I 3]) (by simp[results,Tryz.results12,go_sem,p0,p1]) rfl ?_;obtain⟨E1,E2,E3⟩:=EE.o;rw[E1,E2,E3];exact⟨_,rfl,zdp _ _ _,BR.o⟩
     | true =>
      have EE:=zaa (YES.o (by rw[RB.o];rfl));have BR:Hid (zB w ((w5.setCell ⟨w.heap.size+1,0,none⟩ (.slice (some ⟨b1,0,none⟩) 16 c1)).setCell ⟨w.heap.size+1,1,none⟩ (.slice (some ⟨b2,0,none⟩) 24 c2))):=(B5.o.setCell (by simp only;omega) _).setCell (by simp only;omega) _;have RF:=zaa (zke (zyh R5.o CB5.o (.slice (some ⟨b1,0,none⟩) 16 c1) (.slice (some ⟨b2,0,none⟩) 24 c2)) (lo':=w.heap.size) (hi':=((w5.setCell ⟨w.heap.size+1,0,none⟩ (.slice (some ⟨b1,0,none⟩) 16 c1)).setCell ⟨w.heap.size+1,1,none⟩ (.slice (some ⟨b2,0,none⟩) 24 c2)).heap.size) (by have:=BB.o.size;omega) (by simp;omega));clear CB5 R5 IM5;go_wp2;refine bodyPost_ret (v:=.tuple #[.agg #[.slice (some ⟨b1,0,none⟩) 16 c1,.slice (some ⟨b2,0,none⟩) 24 c2],.I 0]) (by simp[results,Tryz.results12,go_sem,p0,p1]) rfl ?_;obtain⟨E1,E2,E3⟩:=EE.o;rw[E1,E2,E3];exact⟨_,rfl,RF.o,BR.o⟩
theorem ybbt{ws:List Int}{ps:List St}{es:List Int}{qs:List Se}(h:zfp es qs=false):dvN ws ps es qs=[]/\dvD ws ps es qs=[]:=(yalf (by rw[h,Bool.and_false])).2
theorem ybel{ws:List Int}{ps:List St}{es:List Int}{qs:List Se}(h:zfp es qs=true):dvN ws ps es qs=riN ws ps/\dvD ws ps es qs=riD ws ps:=by
 cases p:pmB ws ps with
 | true=>exact(yamk (by rw[p,h];rfl)).2
 | false =>
  obtain⟨-,a,b⟩:=yapj p;obtain⟨-,c,d⟩:=yalf (ws:=ws) (ps:=ps) (es:=es) (qs:=qs) (by rw[p];rfl);exact⟨by rw[a,c],by rw[b,d]⟩
theorem znq{ws:List Int}{ps:List St}{es:List Int}{qs:List Se}(h:¬ dvB ws ps es qs=true):dvN ws ps es qs=[]/\dvD ws ps es qs=[]:=⟨by unfold dvN;rw[if_neg h],by unfold dvD;rw[if_neg h]⟩
theorem dv_R{ws:List Int}{ps:List St}{es:List Int}{qs:List Se}:∀ k (h:k<(dvN ws ps es qs).length),(dvN ws ps es qs)[k].R:=by
 by_cases c:dvB ws ps es qs=true
 ·obtain⟨p,-,e,-,-⟩:=zen c;rw[e];exact zwy p 16
 ·rw[(znq c).1];intro k h
  cases h
theorem zld{ws:List Int}{ps:List St}{es:List Int}{qs:List Se}:∀ k (h:k<(dvD ws ps es qs).length),(dvD ws ps es qs)[k].name.size<=maxLen:=by
 by_cases c:dvB ws ps es qs=true
 ·obtain⟨p,-,-,e,-⟩:=zen c;rw[e];exact zkx _ 24
 ·rw[(znq c).2];intro k h
  cases h
theorem zgv(ws:List Int)(ps:List St)(es:List Int)(qs:List Se):(dvN ws ps es qs).length<=1048576/\(dvD ws ps es qs).length<=1048576:=by
 by_cases c:dvB ws ps es qs=true
 ·obtain⟨-,-,e1,e2,-⟩:=zen c;rw[e1,e2,zbz,zbu];omega
 ·rw[(znq c).1,(znq c).2];exact⟨by simp,by simp⟩
theorem yavi:zbg [] []=false:=by decide
theorem zry(ws:List Int)(ps:List St)(es:List Int)(qs:List Se):zbg (dvN ws ps es qs) (dvD ws ps es qs)=dvB ws ps es qs:=by
 by_cases c:dvB ws ps es qs=true
 ·obtain⟨-,-,e1,e2,h⟩:=zen c;rw[e1,e2,h,c]
 ·rw[(znq c).1,(znq c).2,yavi];exact((Bool.not_eq_true _).mp c).symm
theorem zik(v:Value)(ws:List Int)(ps:List St)(es:List Int)(qs:List Se)(w:World)(h:RdDev w v ws ps es qs)(hw:ws.length<=1048576)(hp:ps.length<=1048576)(he:es.length<=1048576)(hq:qs.length<=1048576)(hT:TS w)(hE:ED w)(hF:FD w) :
  zC 23 #[v] w fun e w'=>∃ v',e=.returned v'/\RowIm w' w.heap.size w'.heap.size v' (dvN ws ps es qs) (dvD ws ps es qs)/\zB w w':=by
 obtain⟨aW,cW,aP,cP,aS,cS,aQ,cQ,rfl,h1,h2⟩:=h.form;have LO:=zaa (fun w1 (hb:zB w w1)=>zfy _ es qs w1 (h2.below hb) he hq);have LR:=zaa (fun w1 (hb:zB w w1)=>zny _ ws ps w1 (h1.below hb) hw hp (hT.below hb) (hE.below hb) (hF.below hb));have NO:=zaa (fun q=>ybbt (ws:=ws) (ps:=ps) (es:=es) (qs:=qs) q);have YES:=zaa (fun q=>ybel (ws:=ws) (ps:=ps) (es:=es) (qs:=qs) q);clear h h1 h2 hT hE hF
 obtain⟨W1,hW1⟩:=zE ((w.alloc (.cells #[.slice aW ws.length cW,.slice aP ps.length cP,.slice aS es.length cS,.slice aQ qs.length cQ] 31)).alloc (.cells #[.N,.N] 51))
 have hz1:W1.heap.size=w.heap.size+1+1:=by rw[hW1];simp
 have CA:Hid (∀ w',zB W1 w'->w'.cell? ⟨w.heap.size,0,none⟩=some (.slice aW ws.length cW)/\w'.cell? ⟨w.heap.size,1,none⟩=some (.slice aP ps.length cP)/\w'.cell? ⟨w.heap.size,2,none⟩=some (.slice aS es.length cS)/\w'.cell? ⟨w.heap.size,3,none⟩=some (.slice aQ qs.length cQ)):=fun w' hb=>by
  have:w'.heap[w.heap.size]?=some (.cells #[.slice aW ws.length cW,.slice aP ps.length cP,.slice aS es.length cS,.slice aQ qs.length cQ] 31 (0,0)):=(hb.block _ (by omega)).trans (by rw[hW1];exact zal (zaf rfl));obtain⟨x0,x1,x2,x3,-,-,-,-⟩:=zaq this;exact⟨x0,x1,x2,x3⟩
 have CR:Hid (∀ w',zB W1 w'->w'.heap[w.heap.size+1]?=some (.cells #[.N,.N] 51 (0,0))):=fun w' hb=>(hb.block _ (by omega)).trans (by
  rw[hW1];have:=zaf (w:=w.alloc (.cells #[.slice aW ws.length cW,.slice aP ps.length cP,.slice aS es.length cS,.slice aQ qs.length cQ] 31)) (o:=.cells #[.N,.N] 51) rfl;rw[World.size_alloc]at this
  exact this)
 have BW:Hid (zB w W1):=by rw[hW1];exact(zR.alloc zL _).alloc (by simp) _
 have hz0:w.heap.size+1<W1.heap.size:=by omega
 clear hz1;obtain⟨x0,x1,x2,x3⟩:=CA.o W1 zR;generalize riC ws ps=rc at *;generalize riN ws ps=rn at *;generalize riD ws ps=rd at *;generalize dvN ws ps es qs=dn at *;generalize dvD ws ps es qs=dd at *;generalize zfp es qs=ok at *;go_enter Tryz.func23,Tryz.ntmps23;go_wp2_with fail;rw[<- hW1];clear hW1;refine(LO.o _ BW.o).mono ?_;rintro e w1 ⟨rfl,hb1⟩;have B1:=zaa hb1;have B1w:=zaa (zab BW.o B1.o BW.o.size);clear x0 x1 x2 x3 hb1;obtain⟨x0,x1,x2,x3⟩:=CA.o w1 B1.o
 cases ok with
 | false =>
  obtain⟨rfl,rfl⟩:=NO.o rfl;have CB:=zaa (CR.o _ B1.o);obtain⟨p0,p1,p2,p3⟩:=zac CB.o;have BR:Hid (zB w ((w1.setCell ⟨w.heap.size+1,0,none⟩ (.N)).setCell ⟨w.heap.size+1,1,none⟩ (.N))):=(B1w.o.setCell (by simp only;omega) _).setCell (by simp only;omega) _;clear NO YES;go_wp2;refine bodyPost_ret (v:=.agg #[.N,.N]) (by simp[results,Tryz.results23,go_sem,p0,p1]) rfl ?_;exact⟨_,rfl,zdp _ _ _,BR.o⟩
 | true =>
  obtain⟨rfl,rfl⟩:=YES.o rfl;clear NO YES;go_wp2_with fail;refine(LR.o _ B1w.o).mono ?_;rintro e w2 ⟨v2,rfl,⟨vI,vD,rfl,hI,hD⟩,hb2⟩;obtain⟨-,a1,c1,hv1,-⟩:=hI.rd;obtain⟨-,a2,c2,hv2,-⟩:=hD.rd;subst hv1;subst hv2;have HI:=zaa hI;have HD:=zaa hD;have B2:=zaa (zgu B1.o hb2);have B3:Hid (zB W1 (w2.alloc (.cells #[.slice a1 dn.length c1,.slice a2 dd.length c2] 51))):=zat B2.o _;have hz12:W1.heap.size<=w1.heap.size:=B1.o.size;have hz2:w1.heap.size<=w2.heap.size:=hb2.size;have hzw:w.heap.size<=w1.heap.size:=B1w.o.size;clear x0 x1 x2 x3 hb2 hI hD;obtain⟨y0,y1,_,_⟩:=zac (zaf (w:=w2) (o:=.cells #[.slice a1 dn.length c1,.slice a2 dd.length c2] 51) rfl)
  obtain⟨w3,hw3⟩:=zE (w2.alloc (.cells #[.slice a1 dn.length c1,.slice a2 dd.length c2] 51))
  have BC:Hid (zB w2 w3):=by rw[hw3];exact zR.alloc zL _
  rw[<- hw3]at B3 y0 y1;have HI3:=zaa (HI.o.below BC.o zL);have HD3:=zaa (HD.o.below BC.o zL);have hz3:w2.heap.size<=w3.heap.size:=BC.o.size;have CB:=zaa (CR.o _ B3.o);obtain⟨p0,p1,p2,p3⟩:=zac CB.o;have BR:Hid (zB w ((w3.setCell ⟨w.heap.size+1,0,none⟩ (.slice a1 dn.length c1)).setCell ⟨w.heap.size+1,1,none⟩ (.slice a2 dd.length c2))):=((zab BW.o B3.o BW.o.size).setCell (by simp only;omega) _).setCell (by simp only;omega) _;have RF:=zaa (zke (yaal HI3.o HD3.o CB.o (.slice a1 dn.length c1) (.slice a2 dd.length c2)) (lo':=w.heap.size) (hi':=((w3.setCell ⟨w.heap.size+1,0,none⟩ (.slice a1 dn.length c1)).setCell ⟨w.heap.size+1,1,none⟩ (.slice a2 dd.length c2)).heap.size) (by omega) (by simp;omega));clear CB HI HD HI3 HD3 BC B3 B2 LR LO CA CR;subst hw3;go_wp2;refine bodyPost_ret (v:=.agg #[.slice a1 dn.length c1,.slice a2 dd.length c2]) (by simp[results,Tryz.results23,go_sem,p0,p1]) rfl ?_;exact⟨_,rfl,RF.o,BR.o⟩
end Go.Proofs.YtogcbbkhnpmgeaaGreatDoor
