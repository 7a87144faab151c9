import Derived.Test.YtdiaiejmoocpmaaGreatDoorZAZ
import Derived.Test.YtdiaiejmoocpmaaGreatDoorZBA
set_option maxRecDepth 100000
set_option maxHeartbeats 16000000
namespace Go.Proofs.YtdiaiejmoocpmaaGreatDoor
open Go.RowKit
def zph(w w':World)(e:Ending)(r:List Mi×Int):Prop:=∃ v',e=.returned (.tuple #[v',.I r.2])/\Row w' 84 3 w.heap.size w'.heap.size v' r.1.length (mis r.1)/\zB w w'
theorem zfr{w w1:World}{n:Nat}{c:Int}(B:zB w w1)(e:n=w1.heap.size):zph w (w1.alloc (.cells #[] 84)) (.returned (.tuple #[.slice (some ⟨n,0,none⟩) 0 0,.I c])) ([],c):=by
 subst e;exact⟨_,rfl,(zpl w1 _ _).wide B.size zL,B.alloc B.size _⟩
structure MiI(W w:World)(vL:Value)(ls:List Mi):Prop where
 l:w.ownsRow W.heap.size 84 3 vL ls.length (mis ls)
 b:zB W w
theorem MiI.z{W w:World}{vL:Value}{ls:List Mi}(h:MiI W w vL ls):W.heap.size<=w.heap.size:=h.b.size
theorem MiI.below{W w w':World}{vL:Value}{ls:List Mi}(h:MiI W w vL ls)(hb:zB w w'):MiI W w' vL ls :=
 ⟨((zad h.l).below hb zL).1,zab h.b hb h.z⟩
theorem MiI.grow{W w w':World}{vL v':Value}{ls:List Mi}(h:MiI W w vL ls)(ms:List Mi)(ho:w'.ownsRow W.heap.size 84 3 v' (ls.length+ms.length) (mis ls++mis ms))(hg:w.grownBy w' vL.ownBlock):MiI W w' v' (ls++ms) :=
 ⟨by rw[zhc,List.length_append];exact ho,h.b.grown hg h.z (fun q hq=>(h.l.lt q hq).1)⟩
theorem ybcg:(114:Nat)≠84:=by decide
structure WrI(W w:World)(vL vU:Value)(ls:List Mi)(us:List Se):Prop where
 l:w.ownsRow W.heap.size 84 3 vL ls.length (mis ls)
 u:w.ownsRow W.heap.size 114 2 vU us.length (ses us)
 b:zB W w
theorem WrI.z{W w:World}{vL vU:Value}{ls:List Mi}{us:List Se}(h:WrI W w vL vU ls us):W.heap.size<=w.heap.size:=h.b.size
theorem WrI.mi{W w:World}{vL vU:Value}{ls:List Mi}{us:List Se}(h:WrI W w vL vU ls us):MiI W w vL ls:=⟨h.l,h.b⟩
theorem WrI.below{W w w':World}{vL vU:Value}{ls:List Mi}{us:List Se}(h:WrI W w vL vU ls us)(hb:zB w w'):WrI W w' vL vU ls us :=
 ⟨((zad h.l).below hb zL).1,((zad h.u).below hb zL).1,zab h.b hb h.z⟩
theorem WrI.growU{W w w':World}{vL vU v':Value}{ls:List Mi}{us:List Se}(h:WrI W w vL vU ls us)(ms:List Se)(ho:w'.ownsRow W.heap.size 114 2 v' (us.length+ms.length) (ses us++ses ms))(hg:w.grownBy w' vU.ownBlock):WrI W w' vL v' ls (us++ms) :=
 ⟨(Row.apart (zad h.l) (zad h.u) (Ne.symm ybcg) hg).1,by rw[yanj,List.length_append];exact ho,h.b.grown hg h.z (fun q hq=>(h.u.lt q hq).1)⟩
theorem zvk(i page size e:Int):(wrU i page size e).length<=2:=by
 unfold wrU
 split<;>simp
theorem yazp{i:Nat}{p:Nat}(hi:i<16)(hp:p<8)(size e:Int):∀ k (h:k<(wrU (i:Int) (p:Int) size e).length),0<=(wrU (i:Int) (p:Int) size e)[k].at_/\(wrU (i:Int) (p:Int) size e)[k].at_<336:=by
 intro k h;have m:=List.getElem_mem h
 revert m
 generalize (wrU (i:Int) (p:Int) size e)[k]=u;unfold wrU;intro m
 rcases List.mem_cons.1 m with rfl | m
 ·exact⟨by show 0<=48+12*(i:Int)+(3+(p:Int));omega,by show 48+12*(i:Int)+(3+(p:Int))<336;omega⟩
 ·split at m
  ·rw[List.mem_singleton.1 m];exact⟨by show 0<=48+12*(i:Int)+1;omega,by show 48+12*(i:Int)+1<336;omega⟩
  ·cases m
theorem zoo(v:Value)(ns:List Ino)(ds:List Den)(s:ByteArray)(page x:Int)(w:World)(h:RdIm w v ns ds)(hi:zck ns ds=true)(hs:s.size<=65536) :
  zC 28 #[v,.string s,.I page,.I x] w fun e w'=>zph w w' e (wrI ns ds s page x):=by
 have LL:=zaa (fun w1 (hb:zB w w1)=>zkq v ns ds s w1 (h.below hb) hi hs);have EL:=zaa (show wrI ns ds s page x=if (flI ns ds s).2=0 then wrF ns (flI ns ds s).1 page x else([],(flI ns ds s).2)from rfl);have LO:=zaa (fun c=>zgl (s:=s) (zbu.1 hi) c);obtain⟨l16,l24,_⟩:=zba hi
 have TR:∀ k (h:k<ns.length),∀ z∈ns[k].map,0<=z/\z<=1048576:=fun k hk z hz=>by
  have t:=(zfj ((zbu.1 hi).ok k (by omega))).1 z (by rw[zbp hk];exact hz);unfold zeo zfb at t;rw[Bool.and_eq_true,decide_eq_true_eq,decide_eq_true_eq]at t;omega
 have LF1:Hid (∀ w1,zB w w1->zC 67 #[v,.I 1,.I 24] w1 fun e w'=>e=.returned (.I (fpI ns))/\zB w1 w'):=fun w1 hb=>zho v ns ds 1 24 w1 (h.below hb) (by omega) TR (by omega)
 have LF2:Hid (∀ w1,zB w w1->zC 67 #[v,.I 2,.I 32] w1 fun e w'=>e=.returned (.I (fsI ns))/\zB w1 w'):=fun w1 hb=>zho v ns ds 2 32 w1 (h.below hb) (by omega) TR (by omega)
 have L16:=zaa l16
 have F1:Hid (0<=fpI ns->∃ k:Nat,k<24/\fpI ns=(k:Int)):=fun c=>by
  obtain⟨k,a,b,-⟩:=zdy c;exact⟨k,a,b⟩
 have F2:Hid (0<=fsI ns->∃ k:Nat,k<32/\fsI ns=(k:Int)):=fun c=>by
  obtain⟨k,a,b,-⟩:=zdy c;exact⟨k,a,b⟩
 have EF:=zaa (fun i=>show wrF ns i page x=if (0<=page/\page<8)/\zat x=true then(if fpI ns<0/\fsI ns<0 then([],7) else((if 0<=fpI ns then⟨1,312+fpI ns,x⟩::zbb [312+fpI ns] else[⟨4,fsI ns,x⟩,⟨5,0,0⟩])++zdc (zdt (wrU i page (zcx ns i) (if 0<=fpI ns then 4*fpI ns+1 else 4*fsI ns+2))),0)) else([],4)from rfl);obtain⟨vW,vP,rfl,h1,h2⟩:=h;obtain⟨aW,cW,rfl,_,hcW⟩:=h1.shape;obtain⟨aP,cP,rfl,_,hcP⟩:=h2.shape;obtain⟨bW,oW,rfl,hblW,hcellW⟩:=hcW (by omega)
 have HM:Hid (∀ k,k<16->∀ w',zB w w'->w'.cell? ⟨bW,oW+k*11+1,none⟩=some (.I (zcx ns (k:Int)))):=fun k hk w' hb=>by
  unfold zcx;rw[Int.toNat_natCast,zbp (by omega:k<ns.length)];exact(hb.cell (p:=⟨bW,oW+k*11+1,none⟩) hblW).trans (hcellW k (by omega)).2.1
 clear h1 h2 hi hs hcW hcP hcellW l16 l24 TR
 obtain⟨W,hW⟩:=zE (w.alloc (.cells #[.slice (some ⟨bW,oW,none⟩) ns.length cW,.slice aP ds.length cP] 67))
 have CA:Hid (∀ w',zB W w'->w'.cell? ⟨w.heap.size,0,none⟩=some (.slice (some ⟨bW,oW,none⟩) ns.length cW)/\w'.cell? ⟨w.heap.size,1,none⟩=some (.slice aP ds.length cP)):=fun w' hb=>by
  have:w'.heap[w.heap.size]?=some (.cells #[.slice (some ⟨bW,oW,none⟩) ns.length cW,.slice aP ds.length cP] 67 (0,0)):=(hb.block _ (by rw[hW];simp)).trans (by rw[hW];exact zaf rfl);exact⟨(zac this).1,(zac this).2.1⟩
 have BW:Hid (zB w W):=by rw[hW];exact zR.alloc zL _
 obtain⟨x0,x1⟩:=CA.o _ zR
 have hz:w.heap.size<W.heap.size:=by rw[hW];simp
 generalize wrI ns ds s page x=res at *;generalize flI ns ds s=lr at *;obtain⟨li,lc⟩:=lr;simp only at EL LO LL;go_enter Tryz.func28,Tryz.ntmps28;go_wp2_with fail;rw[<- hW];clear hW x0 x1;refine(LL.o _ BW.o).mono ?_;rintro e w1 ⟨rfl,hb1⟩;have A1:=zaa hb1;have B1:=zaa (zab BW.o A1.o BW.o.size);clear hb1 LL
 by_cases c:lc=0
 case neg =>
  rw[if_neg c]at EL;obtain rfl:=EL.o
  have q:(lc != 0)=true:=by rw[bne_iff_ne];exact c
  clear EL LO c;go_wp2;go_ret2;exact zfr B1.o rfl
 subst c;rw[if_pos rfl]at EL;obtain⟨i,i16,ei,-⟩:=LO.o rfl;subst ei;rw[EF.o]at EL;have HS:=zaa (HM.o i i16)
 have i1:i<ns.length:=by have:=L16.o;omega
 have i0:(0:Int)<=(i:Int):=by omega
 have il:(i:Int)<(ns.length:Int):=by omega
 have ir:0<=(i:Int)/\(i:Int)<16:=by omega
 clear HM EF LO L16;generalize zcx ns (i:Int)=sz at *
 by_cases c:0<=page/\page<8
 case neg =>
  rw[if_neg (fun q=>c q.1)]at EL;obtain rfl:=EL.o;clear EL;go_wp2_with fail;refine(zgs _ _ _ _ (by omega)).mono ?_;rintro e w' ⟨rfl,hw'⟩;subst w';go_wp2;go_ret2;exact zfr B1.o rfl
 obtain⟨p,rfl⟩:∃ p:Nat,page=(p:Int):=⟨page.toNat,by omega⟩
 have p8:p<8:=by omega
 go_wp2_with fail;refine(zbr _ _ _ _ (by omega)).mono ?_;rintro e w' ⟨rfl,hw'⟩;subst w';go_wp2_with fail;refine(zci _ _).mono ?_;rintro e w' ⟨rfl,hw'⟩;subst w'
 cases cx:zat x with
 | false =>
  rw[if_neg (fun q=>by rw[cx]at q;cases q.2)]at EL;obtain rfl:=EL.o;clear EL;go_wp2;go_ret2;exact zfr B1.o rfl
 | true =>
 rw[if_pos ⟨c,cx⟩]at EL;clear c cx
 have EW:Hid ((sz<=(p:Int)->∀ E,wrU (i:Int) (p:Int) sz E=[⟨48+12*(i:Int)+(3+(p:Int)),E⟩]++[⟨48+12*(i:Int)+1,(p:Int)+1⟩])/\(¬ sz<=(p:Int)->∀ E,wrU (i:Int) (p:Int) sz E=[⟨48+12*(i:Int)+(3+(p:Int)),E⟩])) :=
  ⟨fun q E=>by unfold wrU;rw[if_pos q];rfl,fun q E=>by unfold wrU;rw[if_neg q]⟩
 have LPl0:=zaa (fun E v w1 (h:RdE w1 v (wrU (i:Int) (p:Int) sz E))=>zqv v (wrU (i:Int) (p:Int) sz E) w1 h (by have:=zvk (i:Int) (p:Int) sz E;omega) (yazp i16 p8 sz E));have PN0:=zaa (fun E=>Nat.le_trans (ziq (wrU (i:Int) (p:Int) sz E)) (show 6*(wrU (i:Int) (p:Int) sz E).length+8<=20 by have:=zvk (i:Int) (p:Int) sz E;omega))
 have M0:Hid (MiI W (w1.alloc (.cells #[] 84)) (.slice (some ⟨w1.heap.size,0,none⟩) 0 0) []):=⟨((zpl w1 84 3).wide A1.o.size zL).1,A1.o.alloc A1.o.size _⟩
 obtain⟨x0,x1⟩:=CA.o _ M0.o.b;have B2:=zaa (zab BW.o M0.o.b BW.o.size);go_wp2_with fail
 obtain⟨w2,hw2⟩:=zE (w1.alloc (.cells #[] 84))
 rw[<- hw2]at M0 B2 x0 x1 ⊢;clear hw2;refine(LF1.o _ B2.o).mono ?_;rintro e w3 ⟨rfl,hb3⟩;have M3:=zaa (M0.o.below hb3);have B3:=zaa (zab BW.o M3.o.b BW.o.size);clear hb3 M0 x0 x1 B2 A1 B1 LF1;generalize fpI ns=fp at *;generalize fsI ns=fs at *
 by_cases c:0<=fp
 ·rw[if_neg (fun q=>by omega),if_pos c,if_pos c]at EL;obtain⟨k,k24,ek⟩:=F1.o c;subst ek;have c':(k:Int)>=0:=c;clear F1 F2 LF2
  have kr:0<=(k:Int)/\(k:Int)<32:=by omega
  go_wp2_with fail;refine(zds _ _ _).mono ?_;rintro e w4 ⟨rfl,hb4⟩;have M4:=zaa ((M3.o.below hb4).below (zR.alloc zL (.cells #[.I 1,.I (312+(k:Int)),.I x] 84)));have R4:=zaa (zjc w4 1 (312+(k:Int)) x);have hz4:=M4.o.z;clear hb4 M3;go_wp2_with (at_builtin;refine zae _ rfl (.tmp 41) (.tmp 46) 32 rfl W.heap.size 84 (.agg #[.I 0,.I 0,.I 0]) 3 24 Tryz.underlying32 zbj rfl (by decide) _ _ _ rfl M4.o.l _ 1 _ rfl R4.o (zig _) (by first | omega | (simp[maxLen];done) | (simp[maxLen];omega)) (by first | omega | (simp;done) | (simp;omega)) hz4 ?_);intro v5 w5 hown5 hgr5;have M5:=zaa (M4.o.grow [⟨1,312+(k:Int),x⟩] (by rw[zjr];exact hown5) hgr5);have M6:=zaa (M5.o.below (zR.alloc zL (.cells #[.I (312+(k:Int))] 3)));have R6:=zaa (zkv w5 (312+(k:Int)));clear hown5 hgr5 M4 R4 M5;go_wp2_with fail;refine(zdw _ [312+(k:Int)] _ R6.o (by simp) (by intro j h;simp at h;subst h;simp;omega)).mono ?_;rintro e w7 ⟨v7,rfl,hr7,hb7⟩;have M7:=zaa (M6.o.below hb7);have R7:=zaa hr7.rd;have hz7:=M7.o.z;have l7:(zbb [312+(k:Int)]).length<=2:=zbi [312+(k:Int)];have EX:Hid ((⟨1,312+(k:Int),x⟩:Mi)::zbb [312+(k:Int)]=([]++[⟨1,312+(k:Int),x⟩])++zbb [312+(k:Int)]):=rfl;rw[EX.o]at EL;clear hr7 hb7 M6 R6 EX;generalize zbb [312+(k:Int)]=FL at *;go_wp2_with (at_builtin;refine zae _ rfl (.tmp 48) (.tmp 52) 32 rfl W.heap.size 84 (.agg #[.I 0,.I 0,.I 0]) 3 24 Tryz.underlying32 zbj rfl (by decide) _ _ _ rfl M7.o.l _ _ _ rfl R7.o (zcg _) (by first | omega | (simp[maxLen];done) | (simp[maxLen];omega)) (by first | omega | (simp;done) | (simp;omega)) hz7 ?_);intro vT wT hownT hgrT;have M:=zaa (M7.o.grow FL hownT hgrT)
  have lT:(([]++[(⟨1,312+(k:Int),x⟩:Mi)])++FL).length<=3:=by simp;omega
  generalize ([]++[(⟨1,312+(k:Int),x⟩:Mi)])++FL=L at *;clear hownT hgrT M7 R7;go_wp2_with fail;refine(zgt _ _ _ (by omega) kr).mono ?_;rintro e w' ⟨rfl,hw'⟩;subst w';have LPl:=zaa (LPl0.o (4*(k:Int)+1));have PN:=PN0.o (4*(k:Int)+1);have EW:=zaa (And.intro (fun q=>EW.o.1 q (4*(k:Int)+1)) (fun q=>EW.o.2 q (4*(k:Int)+1)));generalize 4*(k:Int)+1=E at *;generalize zdc (zdt (wrU (i:Int) (p:Int) sz E))=PL at *;clear LPl0 PN0
  have SU:Hid (WrI W (wT.alloc (.cells #[.I (48+12*(i:Int)+(3+(p:Int))),.I E] 114)) vT (.slice (some ⟨wT.heap.size,0,none⟩) 1 1) L [⟨48+12*(i:Int)+(3+(p:Int)),E⟩]) :=
   ⟨((zad M.o.l).below (zR.alloc zL _) zL).1,World.ownsRow_lit wT _ 1 M.o.b.size (by simp[maxLen]) rfl,M.o.b.alloc M.o.b.size _⟩
  have pr:0<=3+(p:Int)/\3+(p:Int)<11:=by omega
  go_wp2_with fail;refine(zbf _ _ _ ir pr).mono ?_;rintro e w' ⟨rfl,hw'⟩;subst w';obtain⟨x0,x1⟩:=CA.o _ SU.o.b;have y0:=HS.o _ (zab BW.o SU.o.b BW.o.size);clear M
  by_cases cs:sz<=(p:Int)
  ·have cs':(p:Int)>=sz:=cs;have SV:=zaa (SU.o.below (zR.alloc zL (.cells #[.I (48+12*(i:Int)+1),.I ((p:Int)+1)] 114)));have RV:=zaa (zkk (wT.alloc (.cells #[.I (48+12*(i:Int)+(3+(p:Int))),.I E] 114)) (48+12*(i:Int)+1) ((p:Int)+1));have hzv:=SV.o.z;simp only[World.size_alloc]at RV;go_wp2_with fail;refine(zbf _ _ _ ir (by omega)).mono ?_;rintro e w' ⟨rfl,hw'⟩;subst w';clear SU;go_wp2_with (at_builtin;refine zae _ rfl (.tmp 85) (.tmp 91) 77 rfl W.heap.size 114 (.agg #[.I 0,.I 0]) 2 16 Tryz.underlying77 zmj rfl (by decide) _ _ _ rfl SV.o.u _ 1 _ rfl RV.o (zgc _) (by first | omega | (simp[maxLen])) (by first | omega | simp) hzv ?_);intro vU wU hownU hgrU;have SW:=zaa (SV.o.growU [⟨48+12*(i:Int)+1,(p:Int)+1⟩] hownU hgrU);obtain⟨-,aU,kU,hvU,-⟩:=(zad hownU).rd;subst hvU;clear hownU hgrU SV RV x0 x1 y0;have EU:=zaa (EW.o.1 cs);have UL:Hid (([⟨48+12*(i:Int)+(3+(p:Int)),E⟩]++[⟨48+12*(i:Int)+1,(p:Int)+1⟩]:List Se)=wrU (i:Int) (p:Int) sz E):=EU.o.symm;rw[UL.o]at SW;go_wp2_with fail;refine(LPl.o _ _ (zad SW.o.u).rd).mono ?_;rintro e wP ⟨vP,rfl,hrP,hbP⟩;have MP:=zaa ((SW.o.mi).below hbP);have RP:=zaa hrP.rd;have hzp:=MP.o.z;clear hrP hbP SW;go_wp2_with (at_builtin;refine zae _ rfl (.tmp 93) (.tmp 95) 32 rfl W.heap.size 84 (.agg #[.I 0,.I 0,.I 0]) 3 24 Tryz.underlying32 zbj rfl (by decide) _ _ _ rfl MP.o.l _ _ _ rfl RP.o (zcg _) (by first | omega | (simp[maxLen];done) | (simp[maxLen];omega)) (by first | omega | (simp;done) | (simp;omega)) hzp ?_);intro vN wN hownN hgrN;have G:=zaa (MP.o.grow _ hownN hgrN);obtain⟨-,aN,kN,hvN,-⟩:=(zad hownN).rd;subst hvN;obtain rfl:=EL.o;clear hownN hgrN MP RP;go_wp2;go_ret2;exact⟨_,rfl,(zad G.o.l).wide (by have:=BW.o.size;omega) zL,zab BW.o G.o.b BW.o.size⟩
  ·have cs':¬ (p:Int)>=sz:=cs;have SW:=SU;have EU:=zaa (EW.o.2 (by omega));have UL:Hid (([⟨48+12*(i:Int)+(3+(p:Int)),E⟩]:List Se)=wrU (i:Int) (p:Int) sz E):=EU.o.symm;rw[UL.o]at SW;clear SU;go_wp2_with fail;refine(LPl.o _ _ (zad SW.o.u).rd).mono ?_;rintro e wP ⟨vP,rfl,hrP,hbP⟩;have MP:=zaa ((SW.o.mi).below hbP);have RP:=zaa hrP.rd;have hzp:=MP.o.z;clear hrP hbP SW;go_wp2_with (at_builtin;refine zae _ rfl (.tmp 93) (.tmp 95) 32 rfl W.heap.size 84 (.agg #[.I 0,.I 0,.I 0]) 3 24 Tryz.underlying32 zbj rfl (by decide) _ _ _ rfl MP.o.l _ _ _ rfl RP.o (zcg _) (by first | omega | (simp[maxLen];done) | (simp[maxLen];omega)) (by first | omega | (simp;done) | (simp;omega)) hzp ?_);intro vN wN hownN hgrN;have G:=zaa (MP.o.grow _ hownN hgrN);obtain⟨-,aN,kN,hvN,-⟩:=(zad hownN).rd;subst hvN;obtain rfl:=EL.o;clear hownN hgrN MP RP;go_wp2;go_ret2;exact⟨_,rfl,(zad G.o.l).wide (by have:=BW.o.size;omega) zL,zab BW.o G.o.b BW.o.size⟩
 ·have c':¬ fp>=0:=c;obtain⟨x0,x1⟩:=CA.o _ M3.o.b;go_wp2_with fail;refine(LF2.o _ B3.o).mono ?_;rintro e w4 ⟨rfl,hb4⟩;have M4:=zaa (M3.o.below hb4);have B4:=zaa (zab BW.o M4.o.b BW.o.size);clear hb4 M3 x0 x1 B3 LF2
  by_cases d:0<=fs
  case neg =>
   have d':¬ fs>=0:=d;rw[if_pos ⟨by omega,by omega⟩]at EL;obtain rfl:=EL.o;clear EL;go_wp2;go_ret2;exact zfr B4.o rfl
  rw[if_neg (fun q=>by omega),if_neg (by omega:¬ 0<=fp),if_neg (by omega:¬ 0<=fp)]at EL;obtain⟨k,k32,ek⟩:=F2.o d;subst ek;have d':(k:Int)>=0:=d;clear F1 F2
  have kr:0<=(k:Int)/\(k:Int)<32:=by omega
  have M5:=zaa (M4.o.below (zR.alloc zL (.cells #[.I 4,.I (k:Int),.I x,.I 5,.I 0,.I 0] 84)));have R5:=zaa (yacd w4 4 (k:Int) x 5 0 0);have hz5:=M5.o.z;clear M4;go_wp2_with (at_builtin;refine zae _ rfl (.tmp 60) (.tmp 65) 32 rfl W.heap.size 84 (.agg #[.I 0,.I 0,.I 0]) 3 24 Tryz.underlying32 zbj rfl (by decide) _ _ _ rfl M5.o.l _ 2 _ rfl R5.o (zcg _) (by first | omega | (simp[maxLen];done) | (simp[maxLen];omega)) (by first | omega | (simp;done) | (simp;omega)) hz5 ?_);intro vT wT hownT hgrT;have M:=zaa (M5.o.grow [⟨4,(k:Int),x⟩,⟨5,0,0⟩] hownT hgrT);have EX:Hid ([(⟨4,(k:Int),x⟩:Mi),⟨5,0,0⟩]=[]++[⟨4,(k:Int),x⟩,⟨5,0,0⟩]):=rfl;rw[EX.o]at EL
  have lT:([]++[(⟨4,(k:Int),x⟩:Mi),⟨5,0,0⟩]).length<=3:=by simp
  generalize []++[(⟨4,(k:Int),x⟩:Mi),⟨5,0,0⟩]=L at *;clear hownT hgrT M5 R5 EX;go_wp2_with fail;refine(zgt _ _ _ (by omega) kr).mono ?_;rintro e w' ⟨rfl,hw'⟩;subst w';have LPl:=zaa (LPl0.o (4*(k:Int)+2));have PN:=PN0.o (4*(k:Int)+2);have EW:=zaa (And.intro (fun q=>EW.o.1 q (4*(k:Int)+2)) (fun q=>EW.o.2 q (4*(k:Int)+2)));generalize 4*(k:Int)+2=E at *;generalize zdc (zdt (wrU (i:Int) (p:Int) sz E))=PL at *;clear LPl0 PN0
  have SU:Hid (WrI W (wT.alloc (.cells #[.I (48+12*(i:Int)+(3+(p:Int))),.I E] 114)) vT (.slice (some ⟨wT.heap.size,0,none⟩) 1 1) L [⟨48+12*(i:Int)+(3+(p:Int)),E⟩]) :=
   ⟨((zad M.o.l).below (zR.alloc zL _) zL).1,World.ownsRow_lit wT _ 1 M.o.b.size (by simp[maxLen]) rfl,M.o.b.alloc M.o.b.size _⟩
  have pr:0<=3+(p:Int)/\3+(p:Int)<11:=by omega
  go_wp2_with fail;refine(zbf _ _ _ ir pr).mono ?_;rintro e w' ⟨rfl,hw'⟩;subst w';obtain⟨x0,x1⟩:=CA.o _ SU.o.b;have y0:=HS.o _ (zab BW.o SU.o.b BW.o.size);clear M
  by_cases cs:sz<=(p:Int)
  ·have cs':(p:Int)>=sz:=cs;have SV:=zaa (SU.o.below (zR.alloc zL (.cells #[.I (48+12*(i:Int)+1),.I ((p:Int)+1)] 114)));have RV:=zaa (zkk (wT.alloc (.cells #[.I (48+12*(i:Int)+(3+(p:Int))),.I E] 114)) (48+12*(i:Int)+1) ((p:Int)+1));have hzv:=SV.o.z;simp only[World.size_alloc]at RV;go_wp2_with fail;refine(zbf _ _ _ ir (by omega)).mono ?_;rintro e w' ⟨rfl,hw'⟩;subst w';clear SU;go_wp2_with (at_builtin;refine zae _ rfl (.tmp 85) (.tmp 91) 77 rfl W.heap.size 114 (.agg #[.I 0,.I 0]) 2 16 Tryz.underlying77 zmj rfl (by decide) _ _ _ rfl SV.o.u _ 1 _ rfl RV.o (zgc _) (by first | omega | (simp[maxLen])) (by first | omega | simp) hzv ?_);intro vU wU hownU hgrU;have SW:=zaa (SV.o.growU [⟨48+12*(i:Int)+1,(p:Int)+1⟩] hownU hgrU);obtain⟨-,aU,kU,hvU,-⟩:=(zad hownU).rd;subst hvU;clear hownU hgrU SV RV x0 x1 y0;have EU:=zaa (EW.o.1 cs);have UL:Hid (([⟨48+12*(i:Int)+(3+(p:Int)),E⟩]++[⟨48+12*(i:Int)+1,(p:Int)+1⟩]:List Se)=wrU (i:Int) (p:Int) sz E):=EU.o.symm;rw[UL.o]at SW;go_wp2_with fail;refine(LPl.o _ _ (zad SW.o.u).rd).mono ?_;rintro e wP ⟨vP,rfl,hrP,hbP⟩;have MP:=zaa ((SW.o.mi).below hbP);have RP:=zaa hrP.rd;have hzp:=MP.o.z;clear hrP hbP SW;go_wp2_with (at_builtin;refine zae _ rfl (.tmp 93) (.tmp 95) 32 rfl W.heap.size 84 (.agg #[.I 0,.I 0,.I 0]) 3 24 Tryz.underlying32 zbj rfl (by decide) _ _ _ rfl MP.o.l _ _ _ rfl RP.o (zcg _) (by first | omega | (simp[maxLen];done) | (simp[maxLen];omega)) (by first | omega | (simp;done) | (simp;omega)) hzp ?_);intro vN wN hownN hgrN;have G:=zaa (MP.o.grow _ hownN hgrN);obtain⟨-,aN,kN,hvN,-⟩:=(zad hownN).rd;subst hvN;obtain rfl:=EL.o;clear hownN hgrN MP RP;go_wp2;go_ret2;exact⟨_,rfl,(zad G.o.l).wide (by have:=BW.o.size;omega) zL,zab BW.o G.o.b BW.o.size⟩
  ·have cs':¬ (p:Int)>=sz:=cs;have SW:=SU;have EU:=zaa (EW.o.2 (by omega));have UL:Hid (([⟨48+12*(i:Int)+(3+(p:Int)),E⟩]:List Se)=wrU (i:Int) (p:Int) sz E):=EU.o.symm;rw[UL.o]at SW;clear SU;go_wp2_with fail;refine(LPl.o _ _ (zad SW.o.u).rd).mono ?_;rintro e wP ⟨vP,rfl,hrP,hbP⟩;have MP:=zaa ((SW.o.mi).below hbP);have RP:=zaa hrP.rd;have hzp:=MP.o.z;clear hrP hbP SW;go_wp2_with (at_builtin;refine zae _ rfl (.tmp 93) (.tmp 95) 32 rfl W.heap.size 84 (.agg #[.I 0,.I 0,.I 0]) 3 24 Tryz.underlying32 zbj rfl (by decide) _ _ _ rfl MP.o.l _ _ _ rfl RP.o (zcg _) (by first | omega | (simp[maxLen];done) | (simp[maxLen];omega)) (by first | omega | (simp;done) | (simp;omega)) hzp ?_);intro vN wN hownN hgrN;have G:=zaa (MP.o.grow _ hownN hgrN);obtain⟨-,aN,kN,hvN,-⟩:=(zad hownN).rd;subst hvN;obtain rfl:=EL.o;clear hownN hgrN MP RP;go_wp2;go_ret2;exact⟨_,rfl,(zad G.o.l).wide (by have:=BW.o.size;omega) zL,zab BW.o G.o.b BW.o.size⟩
theorem zns(v:Value)(ws:List Int)(ps:List St)(es:List Int)(qs:List Se)(s:ByteArray)(page x:Int)(w:World)(h:RdDev w v ws ps es qs)(hw:ws.length<=1048576)(hp:ps.length<=1048576)(he:es.length<=1048576)(hq:qs.length<=1048576) :
  zC 10 #[v,.string s,.I page,.I x] w fun e w'=>zph w w' e (wrR ws ps es qs s page x):=by
 have LI:=zaa (fun w1 (hb:zB w w1)=>yaad v ws ps es qs w1 (h.below hb) hw hp he hq);have LR:=zaa (fun(d:dvB ws ps es qs=true) (hs:s.size<=65536) v2 w1 (h2:RdIm w1 v2 (dvN ws ps es qs) (dvD ws ps es qs))=>zoo v2 (dvN ws ps es qs) (dvD ws ps es qs) s page x w1 h2 (by rw[(zfp d).2.2.1,(zfp d).2.2.2.1];exact(zfp d).2.2.2.2) hs)
 have EL:Hid (wrR ws ps es qs s page x=if 65536<s.size then([],2)else if dvB ws ps es qs=true then wrI (dvN ws ps es qs) (dvD ws ps es qs) s page x else([],1)):=by
  unfold Hid wrR
  by_cases c:65536<s.size
  ·rw[if_pos c,if_pos c]
  ·rw[if_neg c,if_neg c]
   by_cases d:dvB ws ps es qs=true
   ·rw[if_pos d,if_pos d,(zfp d).2.2.1,(zfp d).2.2.2.1]
   ·rw[if_neg d,if_neg d]
 obtain⟨dW,eW,dP,eP,dS,eS,dQ,eQ,rfl,-,-⟩:=h.form;clear h
 obtain⟨W,hW⟩:=zE (w.alloc (.cells #[.slice dW ws.length eW,.slice dP ps.length eP,.slice dS es.length eS,.slice dQ qs.length eQ] 31))
 have CD:Hid (∀ w',zB W w'->w'.cell? ⟨w.heap.size,0,none⟩=some (.slice dW ws.length eW)/\w'.cell? ⟨w.heap.size,1,none⟩=some (.slice dP ps.length eP)/\w'.cell? ⟨w.heap.size,2,none⟩=some (.slice dS es.length eS)/\w'.cell? ⟨w.heap.size,3,none⟩=some (.slice dQ qs.length eQ)):=fun w' hb=>by
  have:w'.heap[w.heap.size]?=some (.cells #[.slice dW ws.length eW,.slice dP ps.length eP,.slice dS es.length eS,.slice dQ qs.length eQ] 31 (0,0)):=(hb.block _ (by rw[hW];simp)).trans (by rw[hW];exact zaf rfl);obtain⟨x0,x1,x2,x3,-,-,-,-⟩:=zai this;exact⟨x0,x1,x2,x3⟩
 have BW:Hid (zB w W):=by rw[hW];exact zR.alloc zL _
 obtain⟨x0,x1,x2,x3⟩:=CD.o _ zR;generalize dvB ws ps es qs=db at *;generalize dvN ws ps es qs=dn at *;generalize dvD ws ps es qs=dd at *;generalize wrR ws ps es qs s page x=res at *;generalize wrI dn dd s page x=ri at *
 by_cases c1:65536<s.size
 ·rw[if_pos c1]at EL
  have c2:(s.size:Int)>65536:=by omega
  obtain rfl:=EL.o;clear EL c1 LI LR;subst hW;go_enter Tryz.func10,Tryz.ntmps10;go_wp2;go_ret2;exact zfr BW.o (World.size_alloc _ _).symm
 rw[if_neg c1]at EL
 have c2:¬ (s.size:Int)>65536:=by omega
 have LR2:=zaa (fun d v2 w1 h2=>LR.o d (by omega) v2 w1 h2);clear LR c1;go_enter Tryz.func10,Tryz.ntmps10;go_wp2_with fail;rw[<- hW];clear hW;refine(LI.o _ BW.o).mono ?_;rintro e w1 ⟨v1,rfl,hR,hb1⟩;have HR:=zaa hR;obtain⟨vI,vD,rfl,hI,hD⟩:=hR;obtain⟨-,a1,k1,hv1,-⟩:=hI.rd;obtain⟨-,a2,k2,hv2,-⟩:=hD.rd;subst hv1;subst hv2;have A1:=zaa hb1;have B1:=zaa (zab BW.o hb1 BW.o.size);have BC:Hid (zB w1 (w1.alloc (.cells #[.slice a1 dn.length k1,.slice a2 dd.length k2] 67))):=zR.alloc zL _;have B2:=zaa (zab B1.o BC.o B1.o.size);have R2:=zaa (HR.o.below BC.o zL).rd;obtain⟨y0,y1,_,_⟩:=zac (zaf (w:=w1) (o:=.cells #[.slice a1 dn.length k1,.slice a2 dd.length k2] 67) rfl);clear hI hD hb1 HR x0 x1 x2 x3 BC
 cases db with
 | false =>
  obtain rfl:=EL.o;clear EL LR2;go_wp2;go_ret2;exact zfr B2.o (by simp)
 | true =>
  rw[if_pos rfl]at EL;obtain rfl:=EL.o;have LR3:=zaa (LR2.o rfl _ _ R2.o);clear EL LR2;go_wp2_with fail;refine LR3.o.mono ?_;rintro e w3 ⟨v3,rfl,hr3,hb3⟩;have B3:=zaa (zab B2.o hb3 B2.o.size);have R3:=zaa (hr3.wide B2.o.size zL);obtain⟨-,a3,k3,hv3,-⟩:=hr3.rd;subst hv3;clear hr3 hb3;go_wp2;go_ret2;exact⟨_,rfl,R3.o,B3.o⟩
theorem yahy(v:Value)(ns:List Ino)(ds:List Den)(s:ByteArray)(size:Int)(w:World)(h:RdIm w v ns ds)(hi:zck ns ds=true)(hs:s.size<=65536) :
  zC 188 #[v,.string s,.I size] w fun e w'=>zwt w w' e (cuI ns ds s size):=by
 have LL:=zaa (fun w1 (hb:zB w w1)=>zkq v ns ds s w1 (h.below hb) hi hs);have EL:=zaa (show cuI ns ds s size=if (flI ns ds s).2=0 then cuF ns (flI ns ds s).1 size else([],(flI ns ds s).2)from rfl);have LO:=zaa (fun c=>zgl (s:=s) (zbu.1 hi) c);obtain⟨l16,l24,_⟩:=zba hi;have L16:=zaa l16;obtain⟨vW,vP,rfl,h1,h2⟩:=h;obtain⟨aW,cW,rfl,_,hcW⟩:=h1.shape;obtain⟨aP,cP,rfl,_,hcP⟩:=h2.shape;obtain⟨bW,oW,rfl,hblW,hcellW⟩:=hcW (by omega)
 have HM:Hid (∀ k,k<16->∀ w',zB w w'->∀ j,j<8->w'.cell? ⟨bW,oW+k*11+3+j,none⟩=some (.I ((zan ns k).map.getD j 0))):=fun k hk w' hb j hj=>by
  rw[zbp (by omega:k<ns.length)];obtain⟨a0,a1,a2,a3,a4,a5,a6,a7,a8,a9,a10⟩:=hcellW k (by omega)
  rcases(show j=0\/j=1\/j=2\/j=3\/j=4\/j=5\/j=6\/j=7 by omega)with rfl|rfl|rfl|rfl|rfl|rfl|rfl|rfl
  ·exact(hb.cell (p:=⟨bW,oW+k*11+3,none⟩) hblW).trans a3
  ·exact(hb.cell (p:=⟨bW,oW+k*11+4,none⟩) hblW).trans a4
  ·exact(hb.cell (p:=⟨bW,oW+k*11+5,none⟩) hblW).trans a5
  ·exact(hb.cell (p:=⟨bW,oW+k*11+6,none⟩) hblW).trans a6
  ·exact(hb.cell (p:=⟨bW,oW+k*11+7,none⟩) hblW).trans a7
  ·exact(hb.cell (p:=⟨bW,oW+k*11+8,none⟩) hblW).trans a8
  ·exact(hb.cell (p:=⟨bW,oW+k*11+9,none⟩) hblW).trans a9
  ·exact(hb.cell (p:=⟨bW,oW+k*11+10,none⟩) hblW).trans a10
 clear h1 h2 hi hs hcW hcP hcellW l16 l24
 obtain⟨W,hW⟩:=zE (w.alloc (.cells #[.slice (some ⟨bW,oW,none⟩) ns.length cW,.slice aP ds.length cP] 67))
 have CA:Hid (∀ w',zB W w'->w'.cell? ⟨w.heap.size,0,none⟩=some (.slice (some ⟨bW,oW,none⟩) ns.length cW)/\w'.cell? ⟨w.heap.size,1,none⟩=some (.slice aP ds.length cP)):=fun w' hb=>by
  have:w'.heap[w.heap.size]?=some (.cells #[.slice (some ⟨bW,oW,none⟩) ns.length cW,.slice aP ds.length cP] 67 (0,0)):=(hb.block _ (by rw[hW];simp)).trans (by rw[hW];exact zaf rfl);exact⟨(zac this).1,(zac this).2.1⟩
 have BW:Hid (zB w W):=by rw[hW];exact zR.alloc zL _
 obtain⟨x0,x1⟩:=CA.o _ zR
 have hz:w.heap.size<W.heap.size:=by rw[hW];simp
 generalize cuI ns ds s size=res at *;generalize flI ns ds s=lr at *;obtain⟨li,lc⟩:=lr;simp only at EL LO LL;go_enter Tryz.func188,Tryz.ntmps188;go_wp2_with fail;rw[<- hW];clear hW x0 x1;refine(LL.o _ BW.o).mono ?_;rintro e w1 ⟨rfl,hb1⟩;have A1:=zaa hb1;have B1:=zaa (zab BW.o A1.o BW.o.size);clear hb1 LL
 by_cases c:lc=0
 case neg =>
  rw[if_neg c]at EL;obtain rfl:=EL.o
  have q:(lc != 0)=true:=by rw[bne_iff_ne];exact c
  clear EL LO c;go_wp2;go_ret2;exact zdh B1.o
 subst c;rw[if_pos rfl]at EL;obtain⟨i,i16,ei,-⟩:=LO.o rfl;subst ei;have EC:=zaa (show cuF ns (i:Int) size=if 0<=size/\size<=8 then(cuU (zan ns i).map (i:Int) size.toNat 8,0) else([],4)from rfl);rw[EC.o]at EL;have HMi:=zaa (HM.o i i16)
 have i1:i<ns.length:=by have:=L16.o;omega
 have i0:(0:Int)<=(i:Int):=by omega
 have il:(i:Int)<(ns.length:Int):=by omega
 have ir:0<=(i:Int)/\(i:Int)<16:=by omega
 clear HM EC LO L16
 by_cases c:0<=size/\size<=8
 case neg =>
  rw[if_neg c]at EL;obtain rfl:=EL.o;clear EL;go_wp2_with fail;refine(zgs _ _ _ _ c).mono ?_;rintro e w' ⟨rfl,hw'⟩;subst w';go_wp2;go_ret2;exact zdh B1.o
 rw[if_pos c]at EL
 obtain⟨n,rfl⟩:∃ n:Nat,size=(n:Int):=⟨size.toNat,by omega⟩
 rw[Int.toNat_natCast]at EL
 have n8:n<=8:=by omega
 generalize (zan ns i).map=zs at *;go_wp2_with fail;refine(zbr _ _ _ _ c).mono ?_;rintro e w' ⟨rfl,hw'⟩;subst w';clear c;go_wp2_with (go_at_call 71;refine(zbf _ _ _ ir (by omega)).mono ?_;rintro e w' ⟨rfl,hw'⟩;subst w')
 have ST:Hid (UpI W (w1.alloc (.cells #[.I (48+12*(i:Int)+1),.I (n:Int)] 114)) (.slice (some ⟨w1.heap.size,0,none⟩) 1 1) (cuU zs (i:Int) n n)):=by
  unfold Hid cuU;rw[yajg];exact⟨World.ownsRow_lit w1 _ 1 A1.o.size (by simp[maxLen]) rfl,A1.o.alloc A1.o.size _⟩
 go_loopw [10,11] (fun vL k wr=>∃ m:Nat,n<=m/\m<=8/\k=.I (m:Int)/\Hid (UpI W wr vL (cuU zs (i:Int) n m))) (fun _ k _=>8-(intOf k).toNat)
 case atStart=>exact⟨n,Nat.le_refl _,n8,rfl,ST⟩
 case round =>
  obtain⟨m,hm,hm8,rfl,J⟩:=hrel;clear ST A1 B1;obtain⟨x0,x1⟩:=CA.o _ J.o.b;have JW:=zaa (zab BW.o J.o.b BW.o.size);have hzj:W.heap.size<=wr.heap.size:=J.o.z
  have m0:(0:Int)<=(m:Int):=by omega
  by_cases hlt:m<8
  ·have m1:(m:Int)<8:=by omega
   have e0:=HMi.o wr JW.o m hlt;have YES:=zaa (fun e=>yawo (zs:=zs) (i:=(i:Int)) (n:=n) (k:=m) hm e);have NO:=zaa (fun e=>yazo (zs:=zs) (i:=(i:Int)) (n:=n) (k:=m) e)
   have hlen:(cuU zs (i:Int) n m).length<=9:=by
    have:=yabd zs (i:Int) n m
    show(cuT zs (i:Int) n m).length+1<=9
    omega
   generalize zs.getD m 0=z at e0 YES NO
   by_cases q:z=0
   ·have q':(z != 0)=false:=by rw[q];rfl
    have G:Hid (UpI W wr u10 (cuU zs (i:Int) n (m+1))):=by
     unfold Hid cuU;rw[NO.o q];exact J.o
    clear q J YES NO;go_wp2
    go_roundw
    case rel=>exact⟨m+1,by omega,by omega,by go_num,G⟩
    case measure=>simp[intOf];omega
   ·have q':(z != 0)=true:=by rw[bne_iff_ne];exact q
    have JB:Hid (UpI W (wr.alloc (.cells #[.I (48+12*(i:Int)+(3+(m:Int))),.I 0] 114)) u10 (cuU zs (i:Int) n m)):=J.o.below (zR.alloc zL _);have RB:=zaa (zkk wr (48+12*(i:Int)+(3+(m:Int))) 0);have hzb:=JB.o.z
    have MN:Hid (cuU zs (i:Int) n (m+1)=cuU zs (i:Int) n m++[⟨48+12*(i:Int)+(3+(m:Int)),0⟩]):=by
     unfold Hid cuU;rw[YES.o q];rfl
    have mr:0<=3+(m:Int)/\3+(m:Int)<11:=by omega
    clear q J YES NO;go_wp2_with fail;refine(zbf _ _ _ ir mr).mono ?_;rintro e w' ⟨rfl,hw'⟩;subst w';go_wp2_with (at_builtin;refine zae _ rfl (.tmp 45) (.tmp 51) 77 rfl W.heap.size 114 (.agg #[.I 0,.I 0]) 2 16 Tryz.underlying77 zmj rfl (by decide) _ _ _ rfl JB.o.l _ 1 _ rfl RB.o (zgc _) (by first | omega | (simp[maxLen];omega)) (by first | omega | (simp;omega)) hzb ?_);intro vN wN hownN hgrN;have G:=zaa (JB.o.grow [⟨48+12*(i:Int)+(3+(m:Int)),0⟩] hownN hgrN);rw[<- MN.o]at G;clear hownN hgrN JB RB;go_wp2
    go_roundw
    case rel=>exact⟨m+1,by omega,by omega,by go_num,G⟩
    case measure=>simp[intOf];omega
  ·obtain rfl:m=8:=by omega
   obtain rfl:=EL.o;obtain⟨-,aN,cN,hvN,-⟩:=(zad J.o.l).rd;subst hvN;go_wp2;go_ret2;exact⟨_,rfl,(zad J.o.l).wide (by omega) zL,JW.o⟩
end Go.Proofs.YtdiaiejmoocpmaaGreatDoor
